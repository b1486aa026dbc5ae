
import Derived.Test.YtnhifdffofpphabFo
import Derived.WalkSmall
namespace Go.Proofs.Ytnhifdffofpphab
open Go.ChangeShapes Go.WideShapes Go.ChangeAt Go.RowKit Go.Deep

/-- what is left behind n, or -1 -/
def left (l n : Nat) : Int := if n ≤ l then (l : Int) - n else -1
theorem left_le {l n : Nat} (h : n ≤ l) : left l n = (l : Int) - n := if_pos h
theorem left_gt {l n : Nat} (h : ¬ n ≤ l) : left l n = -1 := if_neg h

def asSize : List (ByteArray × ByteArray) → Nat
  | [] => 0
  | x :: r => x.1.size + x.2.size + asSize r
/-- all the bytes and all the lengths of a forest, but its own length -/
def Fo.size : Fo → Nat
  | .nil => 0
  | .cons _ _ n t al kids rest => n.size + t.size + (al.length + asSize al) + (kids.len + kids.size) + rest.size

theorem szAttr_any (x : ByteArray × ByteArray) (l : Nat) (w : World) (hl : l ≤ 1048576) (h1 : x.1.size ≤ maxLen) (h2 : x.2.size ≤ maxLen) :
    Calls Try.prog 12 #[.agg #[.string x.1, .string x.2], .int .i64 (l : Int)] w fun e w' => e = .returned (.int .i64 (left l (x.1.size + x.2.size))) ∧ Below w.heap.size w w' := by
  obtain ⟨n, v⟩ := x
  simp only at h1 h2 ⊢
  unfold maxLen at h1 h2
  have hg := (Below.refl w.heap.size w).alloc (Nat.le_refl _) (.cells #[.string n, .string v] 36)
  by_cases c1 : n.size ≤ l
  · by_cases c2 : n.size + v.size ≤ l
    · have HL := Lib.hid (left_le c2)
      go_enter Try.func12, Try.ntmps12
      go_wp2
      go_ret
      exact ⟨by rw [HL.out]; go_num, hg⟩
    · have HL := Lib.hid (left_gt c2)
      go_enter Try.func12, Try.ntmps12
      go_wp2
      go_ret
      exact ⟨by rw [HL.out]; rfl, hg⟩
  · have HL := Lib.hid (left_gt (l := l) (n := n.size + v.size) (by omega))
    go_enter Try.func12, Try.ntmps12
    go_wp2
    go_ret
    exact ⟨by rw [HL.out]; rfl, hg⟩

/-- attributes stand where they stood -/
theorem al_below {w w' : World} {B lo hi b o : Nat} {A : Option Addr} {al : List (ByteArray × ByteArray)} (hA : RowAt lo hi A al.length b o) (h : AsAt w b o al) (hB : Below B w w') (hh : hi ≤ B) : AsAt w' b o al := by
  cases al with
  | nil => trivial
  | cons x r => exact h.carry fun o => hB.cell (p := ⟨b, o, none⟩) (by have := (hA.2 (by simp)).2.2; show b < _; omega)

/-- how many nodes -/
def Fo.nodes : Fo → Nat
  | .nil => 0
  | .cons _ _ _ _ _ kids rest => kids.nodes + rest.nodes + 1

end Go.Proofs.Ytnhifdffofpphab
