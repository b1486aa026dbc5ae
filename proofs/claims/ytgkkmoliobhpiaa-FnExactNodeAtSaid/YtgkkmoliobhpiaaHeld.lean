import Derived.Test.YtgkkmoliobhpiaaMark4
import Derived.Deep.RegionHeld3
namespace Go.Proofs.Ytgkkmoliobhpiaa
open Go.ChangeShapes Go.WideShapes Go.ChangeAt Go.RowKit Go.Deep

/-- a number's text, the number said as the walk has it -/
theorem markText_at (n : Nat) (i : Int) (hi : i = (n : Int)) (h1 : 1 ≤ n) (h2 : n ≤ 1073741824) (w : World) :
    Calls Try.prog 39 #[.int .i64 i] w fun e w' => e = .returned (.string (markT n)) ∧ Below w.heap.size w w' := by
  subst hi
  exact markText_any n h1 h2 w
theorem heldAttrS_any (al : List (ByteArray × ByteArray)) (m : Nat) (w : World) (A : Option Addr) (c b o lo hi : Nat) (h1 : 1 ≤ m) (h2 : m + 2 * al.length ≤ 1073741824) (hA : RowAt lo hi A al.length b o) (hh : hi ≤ w.heap.size) (hal : AsAt w b o (markAl al m)) :
    Calls Try.prog 41 #[.slice A al.length c, .int .i64 (m : Int)] w fun e w' => e = .returned (.int .i64 ((m + 2 * al.length : Nat) : Int)) ∧ Below w.heap.size w w' := by
  have hlen := hA.1
  unfold maxLen at hlen
  have HA := Lib.hid hA
  have HS := Lib.hid hal
  clear hA hal
  go_enter Try.func41, Try.ntmps41
  go_wp2
  go_loopw [1, 5] (fun x i wr => ∃ (k mm : Nat) (suf : List (ByteArray × ByteArray)), x = .int .i64 (mm : Int) ∧ i = .int .i64 (k : Int) ∧ k + suf.length = al.length ∧ mm + 2 * suf.length = m + 2 * al.length ∧ 1 ≤ mm ∧ Hid (AsAt w b (o + k * 2) (markAl suf mm) ∧ Below w.heap.size w wr)) (fun x i wr => al.length - (intOf i).toNat)
  case atStart => exact ⟨0, m, al, rfl, rfl, by omega, rfl, h1, Lib.hid ⟨by simpa using HS.out, Below.refl _ _⟩⟩
  case round =>
    obtain ⟨k, mm, suf, rfl, rfl, hk, hmm, hm1, HH⟩ := hrel
    cases suf with
    | nil =>
      have hkl : k = al.length := by simpa using hk
      have hml : mm = m + 2 * al.length := by simpa using hmm
      clear hk hmm
      subst hkl
      subst hml
      go_wp2
      go_ret
      exact ⟨rfl, HH.out.2⟩
    | cons x r =>
      obtain ⟨⟨s1, s2, _, _, s5⟩, hB⟩ := HH.out
      simp only [List.length_cons] at hk hmm
      obtain ⟨rfl, hlo, hhi⟩ := HA.out.2 (by omega)
      have hkl : k < al.length := by omega
      have hb : b < w.heap.size := by omega
      have t1 := (hB.cell (p := ⟨b, o + k * 2, none⟩) hb).trans s1
      have t2 := (hB.cell (p := ⟨b, o + k * 2 + 1, none⟩) hb).trans s2
      have hbr : b < wr.heap.size := Nat.lt_of_lt_of_le hb hB.size
      have H5 := Lib.hid s5
      have HB := Lib.hid hB
      clear HH s1 s2 s5 hB
      go_wp2
      go_region_held3 (fun w' => w'.cell? ⟨b, o + k * 2, none⟩ = some (.string (markT mm)) ∧ w'.cell? ⟨b, o + k * 2 + 1, none⟩ = some (.string (markT (mm + 1)))) (first | exact And.intro u1 u2 | go_keep) (first | (go_at_call 39; refine (markText_any mm hm1 (by omega) _).mono ?_; rintro e w1 ⟨rfl, hB1⟩; have u1 := (hB1.cell (p := ⟨b, o + k * 2, none⟩) hbr).trans t1; have u2 := (hB1.cell (p := ⟨b, o + k * 2 + 1, none⟩) hbr).trans t2; have B1 := Lib.hid (HB.out.drew.trans (hB1.mono HB.out.size)); clear hB1))
      have hb1 : b < w1.heap.size := Nat.lt_of_lt_of_le hb B1.out.size
      go_wp2
      go_region_held3 (fun w' => w'.cell? ⟨b, o + k * 2 + 1, none⟩ = some (.string (markT (mm + 1)))) (first | exact u3 | go_keep) (first | (go_at_call 39; refine (markText_at (mm + 1) _ (by omega) (by omega) (by omega) _).mono ?_; rintro e w2 ⟨rfl, hB2⟩; have u3 := (hB2.cell (p := ⟨b, o + k * 2 + 1, none⟩) hb1).trans u2; have B2 := Lib.hid (B1.out.drew.trans (hB2.mono B1.out.size)); clear hB2))
      go_wp2
      go_roundw
      case rel => exact ⟨k + 1, mm + 2, r, by go_num, by go_num, by omega, by omega, by omega, Lib.hid ⟨by rw [show o + (k + 1) * 2 = o + k * 2 + 2 by omega]; exact H5.out, B2.out⟩⟩
      case measure => simp [intOf]; omega
end Go.Proofs.Ytgkkmoliobhpiaa
