
import Derived.Test.YtbcbmgeoaejlmaaHarm8
namespace Go.Proofs.Ytbcbmgeoaejlmaa
open Go.ChangeShapes Go.WideShapes Go.ChangeAt Go.RowKit Go.Deep

def FirstHOut (F : Fo) (w : World) (e : Ending) (w' : World) : Prop := ∃ v, e = .returned (.tuple #[v, .int .i64 (hcode F)]) ∧ IRow w' w.heap.size v (hpath F) ∧ Below w.heap.size w w'
theorem hpath_is {F : Fo} (hk : faultOf F = 0) : hpath F = (pathF (fun x _ => harmNd x) F [] 0).getD [] ∧ hcode F = if (pathF (fun x _ => harmNd x) F [] 0).isSome = true then 0 else 5 := by
  have := pathF_first (fun x _ => harmNd x) F [] 0
  rw [show placesOf [] = [] from rfl] at this
  rw [hpath, hcode, if_pos hk, if_pos hk, this]
  cases firstF (fun x _ => harmNd x) F [] 0 <;> exact ⟨rfl, rfl⟩
theorem faultOf_good {F : Fo} (hk : faultOf F = 0) : goodB F = true := by
  unfold faultOf at hk
  split at hk
  · split at hk
    · assumption
    · cases hk
  · cases hk

set_option maxHeartbeats 1000000 in
theorem specFirstHarm_any (F : Fo) (w : World) (A : Option Addr) (c b o lo hi : Nat) (hd : F.nodes ≤ 1048576) (hh : hi ≤ w.heap.size) (hA : RowAt lo hi A F.len b o) (hF : FoAt w lo hi b o F) :
    Calls Try.prog 33 #[.slice A F.len c] w (FirstHOut F w) := by
  have hln := Fo.len_le_nodes F
  have HA := Lib.hid hA
  have HF := Lib.hid hF
  have hdp := Fo.deep_le F
  clear hA hF
  by_cases hl : F.len ≤ 4096
  · by_cases hk : faultOf F = 0
    · have HK := Lib.hid hk
      have HP := Lib.hid (hpath_is hk)
      have HG := Lib.hid (good_fine (faultOf_good hk))
      clear hk
      cases hz : pathF (fun x _ => harmNd x) F [] 0 with
      | none =>
        have HZ := Lib.hid hz
        clear hz
        go_enter Try.func33, Try.ntmps33
        go_wp2_with (go_at_call 84; refine (l03Ask_any F _ A c b o lo hi hd hh HA.out HF.out).mono ?_; rintro e w1 ⟨rfl, hB⟩; rw [HK.out]; have B1 := Lib.hid hB; clear hB)
        refine (l08First_any F _ A c b o lo hi w1.heap.size 0 [] hd (by simp; omega) HG.out (by have := B1.out.size; simp; omega) HA.out (HF.out.but HA.out ((But.of_below (C := No) B1.out).alloc _) hh (fun _ h => h.elim)) ⟨by simp, fun k h => by simp at h⟩).mono ?_
        rintro e w2 ⟨v, rfl, hN, hB⟩
        rw [HZ.out] at hN ⊢
        have hsz : w.heap.size ≤ (w1.alloc (.cells #[] 3)).heap.size := by have := B1.out.size; simp; omega
        have HV := Lib.hid (IRow.mono hN hsz)
        have B2 := Lib.hid ((B1.out.alloc B1.out.size (.cells #[] 3)).trans (hB.mono hsz))
        clear hN hB
        go_wp2
        go_ret2
        exact ⟨_, by rw [HP.out.2, HZ.out]; rfl, by rw [HP.out.1, HZ.out]; exact IRow.made _ _ B2.out.size, B2.out.alloc B2.out.size _⟩
      | some res =>
        have HZ := Lib.hid hz
        clear hz
        go_enter Try.func33, Try.ntmps33
        go_wp2_with (go_at_call 84; refine (l03Ask_any F _ A c b o lo hi hd hh HA.out HF.out).mono ?_; rintro e w1 ⟨rfl, hB⟩; rw [HK.out]; have B1 := Lib.hid hB; clear hB)
        refine (l08First_any F _ A c b o lo hi w1.heap.size 0 [] hd (by simp; omega) HG.out (by have := B1.out.size; simp; omega) HA.out (HF.out.but HA.out ((But.of_below (C := No) B1.out).alloc _) hh (fun _ h => h.elim)) ⟨by simp, fun k h => by simp at h⟩).mono ?_
        rintro e w2 ⟨v, rfl, hN, hB⟩
        rw [HZ.out] at hN ⊢
        have hsz : w.heap.size ≤ (w1.alloc (.cells #[] 3)).heap.size := by have := B1.out.size; simp; omega
        have HV := Lib.hid (IRow.mono hN hsz)
        have B2 := Lib.hid ((B1.out.alloc B1.out.size (.cells #[] 3)).trans (hB.mono hsz))
        clear hN hB
        go_wp2
        go_ret2
        exact ⟨_, by rw [HP.out.2, HZ.out]; rfl, by rw [HP.out.1, HZ.out]; exact HV.out, B2.out⟩
    · have HP : Hid (hpath F = [] ∧ hcode F = faultOf F) := Lib.hid ⟨by rw [hpath, if_neg hk], by rw [hcode, if_neg hk]⟩
      have hk' : (faultOf F != 0) = true := by simpa using hk
      clear hk
      go_enter Try.func33, Try.ntmps33
      go_wp2_with (go_at_call 84; refine (l03Ask_any F _ A c b o lo hi hd hh HA.out HF.out).mono ?_; rintro e w1 ⟨rfl, hB⟩; have B1 := Lib.hid hB; clear hB)
      go_ret2
      exact ⟨_, by rw [HP.out.2]; rfl, by rw [HP.out.1]; exact IRow.made _ _ B1.out.size, B1.out.alloc B1.out.size _⟩
  · have hl' : (F.len : Int) > 4096 := by omega
    have hk : faultOf F ≠ 0 := by rw [fault_long hl]; decide
    have HP : Hid (hpath F = [] ∧ hcode F = 2) := Lib.hid ⟨by rw [hpath, if_neg hk], by rw [hcode, if_neg hk, fault_long hl]⟩
    clear hk
    go_enter Try.func33, Try.ntmps33
    go_wp2
    go_ret2
    exact ⟨_, by rw [HP.out.2]; rfl, by rw [HP.out.1]; exact IRow.made _ _ (Nat.le_refl _), (Below.refl _ _).alloc (Nat.le_refl _) _⟩
end Go.Proofs.Ytbcbmgeoaejlmaa
