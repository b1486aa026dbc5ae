import Derived.Test.YtgkkmoliobhpiaaCpy3
import Derived.IntWalk
namespace Go.Proofs.Ytgkkmoliobhpiaa
open Go.ChangeShapes Go.WideShapes Go.ChangeAt Go.RowKit Go.Deep

theorem joins_any (w : World) (b1 o1 b2 o2 : Nat) (k1 k2 : Int) (t1 t2 : ByteArray) (c0 : w.cell? ⟨b1, o1, none⟩ = some (.int .i64 k1)) (c3 : w.cell? ⟨b1, o1 + 3, none⟩ = some (.string t1)) (d0 : w.cell? ⟨b2, o2, none⟩ = some (.int .i64 k2)) (d3 : w.cell? ⟨b2, o2 + 3, none⟩ = some (.string t2))
    (z1 : t1.size ≤ 1048576) (z2 : t2.size ≤ 1048576) :
    Calls Try.prog 52 #[.pointer (some ⟨b1, o1, none⟩), .pointer (some ⟨b2, o2, none⟩)] w fun e w' => e = .returned (.bool (joinsB (some (k1, t1)) k2 t2)) ∧ Below w.heap.size w w' := by
  by_cases h1 : k1 = 2
  · subst h1
    by_cases h2 : k2 = 2
    · subst h2
      by_cases h3 : t1.size + t2.size ≤ 120
      · have HE := Lib.hid (show joinsB (some (2, t1)) 2 t2 = true by simp [joinsB, h3])
        have hw : wrap64 ((t1.size : Int) + (t2.size : Int)) = (t1.size : Int) + (t2.size : Int) := IntWalk.wrap64_in _ (by omega)
        have hd : decide ((t1.size : Int) + (t2.size : Int) ≤ 120) = true := by simp; omega
        have HD := Lib.hid hd
        clear h3 hd
        go_enter Try.func52, Try.ntmps52
        go_wp2
        go_quiet (fail)
        go_wp2
        go_ret
        exact ⟨by rw [HE.out]; exact congrArg (fun b => Ending.returned (.bool b)) HD.out, below_drewN (Below.refl _ _) _⟩
      · have HE := Lib.hid (show joinsB (some (2, t1)) 2 t2 = false by simp [joinsB, h3])
        have hw : wrap64 ((t1.size : Int) + (t2.size : Int)) = (t1.size : Int) + (t2.size : Int) := IntWalk.wrap64_in _ (by omega)
        have hd : decide ((t1.size : Int) + (t2.size : Int) ≤ 120) = false := by simp; omega
        have HD := Lib.hid hd
        clear h3 hd
        go_enter Try.func52, Try.ntmps52
        go_wp2
        go_quiet (fail)
        go_wp2
        go_ret
        exact ⟨by rw [HE.out]; exact congrArg (fun b => Ending.returned (.bool b)) HD.out, below_drewN (Below.refl _ _) _⟩
    · have HE := Lib.hid (show joinsB (some (2, t1)) k2 t2 = false by simp [joinsB, h2])
      have hd : (k2 == 2) = false := by simpa using h2
      clear h2
      go_enter Try.func52, Try.ntmps52
      go_wp2
      go_quiet (fail)
      go_wp2
      go_ret
      exact ⟨by rw [HE.out]; rfl, below_drewN (Below.refl _ _) _⟩
  · have HE := Lib.hid (show joinsB (some (k1, t1)) k2 t2 = false by simp [joinsB, h1])
    have hd : (k1 == 2) = false := by simpa using h1
    clear h1
    go_enter Try.func52, Try.ntmps52
    go_wp2
    go_quiet (fail)
    go_wp2
    go_ret
    exact ⟨by rw [HE.out]; rfl, below_drewN (Below.refl _ _) _⟩
/-- no text is longer than 2^20 -/
def Fo.tsm : Fo → Prop
  | .nil => True
  | .cons _ _ _ t _ kids rest => t.size ≤ 1048576 ∧ kids.tsm ∧ rest.tsm
theorem Fo.tsm_of : ∀ (F : Fo), F.size ≤ 1048576 → F.tsm
  | .nil, _ => trivial
  | .cons _ _ _ t al kids rest, h => ⟨by simp [Fo.size] at h; omega, Fo.tsm_of kids (by simp [Fo.size] at h; omega), Fo.tsm_of rest (by simp [Fo.size] at h; omega)⟩
def lastSm (acc : Fo) : Prop := ∀ x, acc.last = some x → x.2.size ≤ 1048576
theorem lastSm_push {acc : Fo} {k sp : Int} {n t : ByteArray} {al : List (ByteArray × ByteArray)} {kids : Fo} (ht : t.size ≤ 1048576) : lastSm (acc.app (.one k sp n t al kids)) := fun x hx => by
  rw [Fo.last_snoc] at hx; injection hx with hx; subst hx; exact ht
theorem lastSm_add {P : Fo} {k sp : Int} {n t u : ByteArray} {al : List (ByteArray × ByteArray)} {kids : Fo} (ht : t.size + u.size ≤ 120) : lastSm (P.app (.one k sp n (t ++ u) al kids)) :=
  lastSm_push (by rw [ByteArray.size_append]; omega)
def MergesOK (f : FuncId) (F : Fo) : Prop := ∀ (w : World) (A : Option Addr) (c b o lo hi : Nat), F.small → F.tsm → F.len ≤ 1048576 → RowAt lo hi A F.len b o → hi ≤ w.heap.size → FoAt w lo hi b o F →
    Calls Try.prog f #[.slice A F.len c] w (RowOut (Fo.mergeOn .nil F) w)
end Go.Proofs.Ytgkkmoliobhpiaa
