import Derived.Test.YthdkkpbhijlpaaaGreatQ38
import Derived.Test.YthdkkpbhijlpaaaGreatQ44
set_option linter.unusedVariables false
namespace Go.Proofs.YthdkkpbhijlpaaaGreat
open Go.ChangeShapes Go.WideShapes Go.ChangeAt Go.RowKit Go.Deep

set_option maxHeartbeats 1000000 in
theorem lawClean_walk (F : Fo) (w : World) (A : Option Addr) (c b o hi : Nat) (h : CameIn w A b o hi F) (hmx : MaxAt w) :
    Calls Tryz.prog 4 #[.slice A F.len c] w fun e w' => e = .returned (.bool true) ∧ Below w.heap.size w w' := by
  have hml := h.1.1
  have hsz := szNodeS_any F 1048576 w A c b o hi (by omega) h.1 h.2.1 h.2.2
  have H := Lib.hid h
  have HL := Lib.hid hml
  have HMX := Lib.hid hmx
  clear h hml hmx
  by_cases hs : F.len + F.size ≤ 1048576
  · have HS := Lib.hid hs
    have HN := Lib.hid (Nat.le_trans (Fo.nodes_le F) hs)
    have HE := Lib.hid (left_le hs)
    have hnn : 0 ≤ ((1048576 : Nat) : Int) - ((F.len + F.size : Nat) : Int) := by omega
    clear hs
    go_enter Tryz.func4, Tryz.ntmps4
    go_wp2_with (go_at_call 8; refine hsz.mono ?_; rintro e w1 ⟨rfl, hB1⟩; rw [HE.out]; have B1 := Lib.hid hB1; clear hB1 hsz)
    refine (copy_any F _ A c b o hi HS.out (H.out.next B1.out)).mono ?_
    rintro e w2 ⟨rfl, hB2, hM2⟩
    have B2 := Lib.hid hB2
    have M2 := Lib.hid hM2
    clear hB2 hM2
    go_wp2_with fail
    refine (specClean_any F _ _ _ _ _ _ _ HN.out M2.out.1 (M2.out.row HL.out) M2.out.2.2).mono ?_
    rintro e w3 ⟨rfl, hB3⟩
    have B3 := Lib.hid (B1.out.trans (B2.out.mono B1.out.size) |>.trans (hB3.mono (Nat.le_trans B1.out.size B2.out.size)))
    clear hB3
    go_wp2_with fail
    refine (copy_any F _ A c b o hi HS.out (H.out.next B3.out)).mono ?_
    rintro e w4 ⟨rfl, hB4, hM4⟩
    have B4 := Lib.hid (B3.out.trans (hB4.mono B3.out.size))
    have M4 := Lib.hid hM4
    clear hB4 hM4
    go_wp2_with fail
    refine (implClean_any F _ _ _ _ _ _ _ (HMX.out.below B4.out) HN.out M4.out.1 (M4.out.row HL.out) M4.out.2.2).mono ?_
    rintro e w5 ⟨rfl, hB5⟩
    have B5 := Lib.hid (B4.out.trans (hB5.mono B4.out.size))
    have M5 := Lib.hid (M4.out.next hB5)
    clear hB5
    go_wp2_with fail
    refine (copy_any F _ A c b o hi HS.out (H.out.next B5.out)).mono ?_
    rintro e w6 ⟨rfl, hB6, hM6⟩
    have B6 := Lib.hid (B5.out.trans (hB6.mono B5.out.size))
    have M6 := Lib.hid hM6
    have M5' := Lib.hid (M5.out.next hB6)
    clear hB6 hM6
    go_wp2_with fail
    refine (alike_any F _ _ _ _ _ _ _ HL.out M5'.out M6.out).mono ?_
    rintro e w7 ⟨rfl, hB7⟩
    have B7 := Lib.hid (B6.out.trans (hB7.mono B6.out.size))
    clear hB7
    go_wp2
    go_ret
    exact ⟨rfl, B7.out⟩
  · have HE := Lib.hid (left_gt hs)
    clear hs
    go_enter Tryz.func4, Tryz.ntmps4
    go_wp2_with (go_at_call 8; refine hsz.mono ?_; rintro e w1 ⟨rfl, hB1⟩; rw [HE.out]; have B1 := Lib.hid hB1; clear hB1 hsz)
    go_ret
    exact ⟨rfl, B1.out⟩
end Go.Proofs.YthdkkpbhijlpaaaGreat
