
import Derived.Test.YtbcbmgeoaejlmaaNames4
namespace Go.Proofs.Ytbcbmgeoaejlmaa
open Go.ChangeShapes Go.WideShapes Go.ChangeAt Go.RowKit Go.Deep

theorem empty_row (w : World) (B : Nat) (hB : B ≤ w.heap.size) : NRow (w.alloc (.cells #[] 9)) B (.slice (some ⟨w.heap.size, 0, none⟩) 0 0) [] :=
  World.ownsRow_made w #[] 0 hB (Nat.zero_le _) rfl

theorem specNamesIn_any (F : Fo) (w : World) (A : Option Addr) (c b o lo hi : Nat) (hd : F.nodes ≤ 1048576) (hh : hi ≤ w.heap.size) (hA : RowAt lo hi A F.len b o) (hF : FoAt w lo hi b o F) :
    Calls Try.prog 45 #[.slice A F.len c] w (NamesOut F w) := by
  have hln := Fo.len_le_nodes F
  have HA := Lib.hid hA
  have HF := Lib.hid hF
  clear hA hF
  by_cases hl : F.len ≤ 4096
  · by_cases hk : faultOf F = 0
    · have HK := Lib.hid hk
      clear hk
      go_enter Try.func45, Try.ntmps45
      go_wp2_with (go_at_call 84; refine (l03Ask_any F _ A c b o lo hi hd hh HA.out HF.out).mono ?_; rintro e w1 ⟨rfl, hB⟩; rw [HK.out]; have B1 := Lib.hid hB; clear hB)
      refine (l03Names_any F _ A c b o lo hi w1.heap.size _ [] (by simp; omega) (Nat.le_trans hh B1.out.size) (by simp) HA.out (HF.out.but HA.out ((But.of_below (C := No) B1.out).alloc _) hh (fun _ h => h.elim)) (empty_row w1 _ (Nat.le_refl _))).mono ?_
      rintro e w2 ⟨v, rfl, hN, hB⟩
      have HN := Lib.hid hN
      have B2 := Lib.hid (B1.out.trans (((Below.refl w1.heap.size w1).alloc (Nat.le_refl _) _).trans hB |>.mono B1.out.size))
      clear hN hB
      go_wp2
      go_ret2
      exact ⟨v, by rw [HK.out]; rfl, by rw [outN_ok HK.out]; exact HN.out.mono B1.out.size, B2.out⟩
    · have HK := Lib.hid (outN_bad hk)
      have hk' : (faultOf F != 0) = true := by simpa using hk
      clear hk
      go_enter Try.func45, Try.ntmps45
      go_wp2_with (go_at_call 84; refine (l03Ask_any F _ A c b o lo hi hd hh HA.out HF.out).mono ?_; rintro e w1 ⟨rfl, hB⟩; have B1 := Lib.hid hB; clear hB)
      go_ret2
      exact ⟨_, rfl, by rw [HK.out]; exact empty_row _ _ B1.out.size, B1.out.alloc B1.out.size _⟩
  · have hl' : (F.len : Int) > 4096 := by omega
    have HK := Lib.hid (outN_bad (F := F) (by rw [fault_long hl]; decide))
    have HL := Lib.hid (fault_long hl)
    go_enter Try.func45, Try.ntmps45
    go_wp2
    go_ret2
    exact ⟨_, by rw [HL.out]; rfl, by rw [HK.out]; exact empty_row _ _ (Nat.le_refl _), (Below.refl _ _).alloc (Nat.le_refl _) _⟩
end Go.Proofs.Ytbcbmgeoaejlmaa
