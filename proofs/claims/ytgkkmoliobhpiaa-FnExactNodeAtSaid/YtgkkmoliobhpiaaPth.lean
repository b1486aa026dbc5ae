import Derived.Test.YtgkkmoliobhpiaaMrg5
import Derived.Deep.QuietTactic
import Derived.BigQuiet
namespace Go.Proofs.Ytgkkmoliobhpiaa
open Go.ChangeShapes Go.WideShapes Go.ChangeAt Go.RowKit Go.Deep

/-- numbers in a row -/
def IsAt (w : World) (b : Nat) : Nat → List Int → Prop
  | _, [] => True
  | o, x :: r => w.cell? ⟨b, o, none⟩ = some (.int .i64 x) ∧ IsAt w b (o + 1) r
theorem IsAt.carry {w w' : World} {b : Nat} : ∀ {l : List Int} {o : Nat}, IsAt w b o l → (∀ j, j < l.length → w'.cell? ⟨b, o + j, none⟩ = w.cell? ⟨b, o + j, none⟩) → IsAt w' b o l
  | [], _, _, _ => trivial
  | x :: r, o, ⟨h1, h2⟩, hs => ⟨(hs 0 (by simp)).trans h1, IsAt.carry h2 fun j hj => by
      have := hs (1 + j) (by simp; omega)
      rwa [← Nat.add_assoc] at this⟩
theorem IsAt.app {w : World} {b : Nat} : ∀ {p q : List Int} {o : Nat}, IsAt w b o p → IsAt w b (o + p.length) q → IsAt w b o (p ++ q)
  | [], _, _, _, h => by simpa using h
  | x :: p, q, o, ⟨h1, h2⟩, h => ⟨h1, IsAt.app h2 (by simp at h; rw [show o + 1 + p.length = o + (p.length + 1) by omega]; exact h)⟩
theorem IsAt.below {w w' : World} {B lo hi b o : Nat} {A : Option Addr} {l : List Int} (hA : RowAt lo hi A l.length b o) (h : IsAt w b o l) (hB : Below B w w') (hh : hi ≤ B) : IsAt w' b o l := by
  cases l with
  | nil => trivial
  | cons x r => exact h.carry fun j _ => hB.cell (p := ⟨b, o + j, none⟩) (by have := (hA.2 (by simp)).2.2; show b < _; omega)
/-- numbers that came in -/
def IntsIn (w : World) (A : Option Addr) (b o : Nat) (l : List Int) : Prop := RowAt 0 w.heap.size A l.length b o ∧ IsAt w b o l
theorem IntsIn.next {w w' : World} {A : Option Addr} {b o : Nat} {l : List Int} (h : IntsIn w A b o l) (hB : Below w.heap.size w w') : IntsIn w' A b o l :=
  ⟨h.1.mono (Nat.le_refl _) hB.size, h.2.below h.1 hB (Nat.le_refl _)⟩

theorem make_ints (n : Nat) (hn : n ≤ 1048576) (w : World) : (Instr.makeSlice 33 (.int .i64 (n : Int)) (.int .i64 (n : Int))).run Try.prog w = .ok (.slice (some ⟨w.heap.size, 0, none⟩) n n) (w.alloc (.cells (madeCells #[.int .i64 0] (n * 1)) 3)) := by
  have hinfo : (Try.prog.info? 3).map (fun i => (i.zero, i.size, i.bytes)) = some (some (.int .i64 0), 1, 8) := by kernel_rfl
  obtain ⟨i, hi, hzz⟩ := Option.map_eq_some_iff.1 hinfo
  simp only [Prod.mk.injEq] at hzz
  obtain ⟨hz, hs, hb⟩ := hzz
  have := run_make (P := Try.prog) w 33 3 i _ Try.underlying33 hi hz .i64 .i64 n n (by omega) (Int.le_refl _) (by rw [hb]; omega) (by omega)
  simp only [Int.toNat_natCast, hs] at this
  exact this

theorem toIntS_any (l : List Int) (w : World) (A : Option Addr) (c b o : Nat) (hl : l.length ≤ 1048576) (h : IntsIn w A b o l) :
    Calls Try.prog 14 #[.slice A l.length c] w fun e w' => e = .returned (.slice (some ⟨w.heap.size, 0, none⟩) l.length l.length) ∧ Below w.heap.size w w' ∧ w.heap.size < w'.heap.size ∧ IsAt w' w.heap.size 0 l ∧ Room w' w.heap.size l.length := by
  have HA := Lib.hid h.1
  have HS := Lib.hid h.2
  have hmk := make_ints l.length hl
  clear h
  go_enter Try.func14, Try.ntmps14
  go_wp2
  go_loopw [4] (fun i wr => ∃ (k : Nat) (pre suf : List Int), i = .int .i64 (k : Int) ∧ l = pre ++ suf ∧ pre.length = k ∧
    Hid (IsAt w b (o + k) suf ∧ Below w.heap.size w wr ∧ w.heap.size < wr.heap.size ∧ IsAt wr w.heap.size 0 pre ∧ Room wr w.heap.size l.length)) (fun i wr => l.length - (intOf i).toNat)
  case atStart => exact ⟨0, [], l, rfl, rfl, rfl, Lib.hid ⟨by simpa using HS.out, (Below.refl _ _).alloc (Nat.le_refl _) _, by simp, trivial, room_made w #[.int .i64 0] l.length 3⟩⟩
  case round =>
    obtain ⟨k, pre, suf, rfl, hp, hk, HH⟩ := hrel
    have HP := Lib.hid hp
    cases suf with
    | nil =>
      have hkl : k = l.length := by rw [hp]; simp [hk]
      clear hp hk
      subst hkl
      go_wp2
      go_ret
      exact ⟨rfl, HH.out.2.1, HH.out.2.2.1, by have := HH.out.2.2.2.1; rw [HP.out]; simpa using this, HH.out.2.2.2.2⟩
    | cons x r =>
      have hkl : k < l.length := by rw [hp]; simp [hk]
      obtain ⟨⟨s1, s5⟩, hB, hg, hpre, hroom⟩ := HH.out
      obtain ⟨rfl, hlo, hhi⟩ := HA.out.2 (by omega)
      have t1 := (hB.cell (p := ⟨b, o + k, none⟩) (by show b < _; omega)).trans s1
      obtain ⟨⟨v0, e0⟩, f0⟩ := hroom k hkl
      have H5 := Lib.hid s5
      have HB := Lib.hid hB
      have HK := Lib.hid hk
      have HPR := Lib.hid hpre
      have HRO := Lib.hid hroom
      clear HH s1 s5 hB hp hk hpre hroom
      go_wp2
      go_roundw
      case rel =>
        have hpl := HK.out
        refine ⟨k + 1, pre ++ [x], r, by go_num, by rw [HP.out]; simp, by simp [HK.out], Lib.hid ⟨by rw [show o + (k + 1) = o + k + 1 by omega]; exact H5.out, HB.out.setCell (p := ⟨_, _, none⟩) (Nat.le_refl _) _, by simpa using hg, ?_, HRO.out.set _ _⟩⟩
        refine IsAt.app (HPR.out.carry fun j hj => ?_) ⟨?_, trivial⟩
        · rw [World.cell?_setCell_other (h := by simp <;> omega)]
        · rw [show 0 + pre.length = k by omega]
          exact World.cell?_setCell_same _ _ _ e0
      case measure => simp [intOf]; omega

theorem eqIntS_same (l : List Int) (w : World) (A A' : Option Addr) (c c' b b' o o' : Nat) (hA : IntsIn w A b o l) (hA' : IntsIn w A' b' o' l) :
    Calls Try.prog 18 #[.slice A l.length c, .slice A' l.length c'] w fun e w' => e = .returned (.bool true) ∧ Below w.heap.size w w' := by
  have hlen := hA.1.1
  unfold maxLen at hlen
  have HA := Lib.hid hA
  have HA' := Lib.hid hA'
  clear hA hA'
  go_enter Try.func18, Try.ntmps18
  go_wp2
  go_loopw [5] (fun i wr => ∃ (k : Nat) (suf : List Int), i = .int .i64 (k : Int) ∧ k + suf.length = l.length ∧ Hid (IsAt w b (o + k) suf ∧ IsAt w b' (o' + k) suf ∧ Below w.heap.size w wr)) (fun i wr => l.length - (intOf i).toNat)
  case atStart => exact ⟨0, l, rfl, by omega, Lib.hid ⟨by simpa using HA.out.2, by simpa using HA'.out.2, Below.refl _ _⟩⟩
  case round =>
    obtain ⟨k, suf, rfl, hk, HH⟩ := hrel
    cases suf with
    | nil =>
      have hkl : k = l.length := by simpa using hk
      clear hk
      subst hkl
      go_wp2
      go_ret
      exact ⟨rfl, HH.out.2.2⟩
    | cons x r =>
      obtain ⟨⟨s1, s5⟩, ⟨s1', s5'⟩, hB⟩ := HH.out
      simp only [List.length_cons] at hk
      obtain ⟨rfl, hlo, hhi⟩ := HA.out.1.2 (by omega)
      obtain ⟨rfl, hlo', hhi'⟩ := HA'.out.1.2 (by omega)
      have hkl : k < l.length := by omega
      have t1 := (hB.cell (p := ⟨b, o + k, none⟩) hhi).trans s1
      have t1' := (hB.cell (p := ⟨b', o' + k, none⟩) hhi').trans s1'
      have H5 := Lib.hid (And.intro s5 s5')
      have HB := Lib.hid hB
      clear HH s1 s5 s1' s5' hB
      go_wp2
      go_quiet (fail)
      go_wp2
      go_roundw
      case rel => exact ⟨k + 1, r, by go_num, by omega, Lib.hid ⟨by rw [show o + (k + 1) = o + k + 1 by omega]; exact H5.out.1, by rw [show o' + (k + 1) = o' + k + 1 by omega]; exact H5.out.2, below_drewN HB.out _⟩⟩
      case measure => simp [intOf]; omega

theorem markIntS_any (n m g c : Nat) (w : World) (hm : m + n ≤ 1073741824) (hr : Room w g n) :
    Calls Try.prog 20 #[.slice (some ⟨g, 0, none⟩) n c, .int .i64 (m : Int)] w fun e w' => e = .returned (.int .i64 ((m + n : Nat) : Int)) ∧ OnlyAt w w' [g] := by
  have HR := Lib.hid hr
  clear hr
  go_enter Try.func20, Try.ntmps20
  go_wp2
  go_loopw [1, 5] (fun x i wr => ∃ k : Nat, x = .int .i64 ((m + k : Nat) : Int) ∧ i = .int .i64 (k : Int) ∧ k ≤ n ∧ Hid (Room wr g n ∧ OnlyAt w wr [g])) (fun x i wr => n - (intOf i).toNat)
  case atStart => exact ⟨0, rfl, rfl, Nat.zero_le _, Lib.hid ⟨HR.out, But.refl _ _⟩⟩
  case round =>
    obtain ⟨k, rfl, rfl, hk, HH⟩ := hrel
    by_cases hkl : k < n
    · obtain ⟨⟨v0, e0⟩, f0⟩ := HH.out.1 k hkl
      go_wp2
      go_roundw
      case rel => exact ⟨k + 1, by go_num, by go_num, by omega, Lib.hid ⟨HH.out.1.set _ _, HH.out.2.setCell (p := ⟨g, k, none⟩) (Or.inl (by simp)) _⟩⟩
      case measure => simp [intOf]; omega
    · obtain rfl : k = n := by omega
      go_wp2
      go_ret
      exact ⟨rfl, HH.out.2⟩
end Go.Proofs.Ytgkkmoliobhpiaa
