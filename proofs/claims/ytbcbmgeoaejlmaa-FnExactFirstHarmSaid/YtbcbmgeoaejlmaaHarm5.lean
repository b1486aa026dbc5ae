
import Derived.Test.YtbcbmgeoaejlmaaHarm1
import Derived.Test.YtbcbmgeoaejlmaaHarm4
import Derived.Test.YtbcbmgeoaejlmaaCount
namespace Go.Proofs.Ytbcbmgeoaejlmaa
open Go.ChangeShapes Go.WideShapes Go.ChangeAt Go.RowKit Go.Deep

theorem isHarm_fn (lo hi : Nat) : NdFn Try.prog 88 #[] (fun x _ => harmNd x) lo hi :=
  fun x _ b o W h _ hb hh => isHarm_any x b o lo hi W h hb hh

/-- the path of the first harm, and the code beside it -/
noncomputable def hpath (F : Fo) : List Int := if faultOf F = 0 then (match firstF (fun x _ => harmNd x) F [] 0 with | some ch => placesOf ch | none => []) else []
noncomputable def hcode (F : Fo) : Int := if faultOf F = 0 then (if (firstF (fun x _ => harmNd x) F [] 0).isSome = true then 0 else 5) else faultOf F

set_option maxHeartbeats 1000000 in
theorem implFirstHarm_any (F : Fo) (w : World) (A : Option Addr) (c b o lo hi : Nat) (hd : F.nodes ≤ 1048576) (hh : hi ≤ w.heap.size) (hA : RowAt lo hi A F.len b o) (hF : FoAt w lo hi b o F) :
    Calls Try.prog 34 #[.slice A F.len c] w fun e w' => ∃ v, e = .returned (.tuple #[v, .int .i64 (hcode F)]) ∧ IRow w' w.heap.size v (hpath F) ∧ Below w.heap.size w w' := by
  have hmf : ∀ (fn : Fn) (first cap : Array Value) (w : World), (Instr.makeFunc fn first cap).run Try.prog w = .ok (.func fn first cap) w := fun _ _ _ _ => rfl
  have HA := Lib.hid hA
  have HF := Lib.hid hF
  clear hA hF
  by_cases hk : faultOf F = 0
  · have HK := Lib.hid hk
    cases hfirst : firstF (fun x _ => harmNd x) F [] 0 with
    | none =>
      have HP : Hid (hpath F = [] ∧ hcode F = 5) := Lib.hid ⟨by rw [hpath, if_pos hk, hfirst], by rw [hcode, if_pos hk, hfirst]; rfl⟩
      have HR := Lib.hid hfirst
      clear hk hfirst
      go_enter Try.func34, Try.ntmps34
      go_wp2_with (go_at_call 86; refine (treeFault_any F _ A c b o lo hi hd hh HA.out HF.out).mono ?_; rintro e w1 ⟨rfl, hB⟩; rw [HK.out]; have B1 := Lib.hid hB; clear hB)
      refine (firstSpot_any 88 #[] (fun x _ => harmNd x) lo hi (enters_of Try.func88 (by kernel_rfl) rfl) (isHarm_fn lo hi) F _ A c b o hd (Nat.le_trans hh B1.out.size) HA.out (HF.out.but HA.out (But.of_below (C := No) B1.out) hh (fun _ h => h.elim))).mono ?_
      rintro e w2 ⟨q, D, rfl, hB, hfi⟩
      rw [HR.out] at hfi
      have hfi : q = none := hfi
      subst hfi
      have B2 := Lib.hid (B1.out.trans (hB.mono B1.out.size))
      clear hB
      go_wp2
      go_ret2
      exact ⟨_, by rw [HP.out.2]; rfl, by rw [HP.out.1]; exact IRow.nilRow _ _, B2.out⟩
    | some ch =>
      have HP : Hid (hpath F = placesOf ch ∧ hcode F = 0) := Lib.hid ⟨by rw [hpath, if_pos hk, hfirst], by rw [hcode, if_pos hk, hfirst]; rfl⟩
      have hlen := firstF_len (fun x _ => harmNd x) F [] 0 ch hfirst
      have hdp := Fo.deep_le F
      have HR := Lib.hid (And.intro hfirst (show ch.length ≤ 1048576 by have := hlen.2; simp at this; omega))
      clear hk hfirst hlen hdp
      go_enter Try.func34, Try.ntmps34
      go_wp2_with (go_at_call 86; refine (treeFault_any F _ A c b o lo hi hd hh HA.out HF.out).mono ?_; rintro e w1 ⟨rfl, hB⟩; rw [HK.out]; have B1 := Lib.hid hB; clear hB)
      refine (firstSpot_any 88 #[] (fun x _ => harmNd x) lo hi (enters_of Try.func88 (by kernel_rfl) rfl) (isHarm_fn lo hi) F _ A c b o hd (Nat.le_trans hh B1.out.size) HA.out (HF.out.but HA.out (But.of_below (C := No) B1.out) hh (fun _ h => h.elim))).mono ?_
      rintro e w2 ⟨q, D, rfl, hB, hfi⟩
      rw [HR.out.1] at hfi
      obtain ⟨hne, hsp⟩ := hfi
      have B2 := Lib.hid (B1.out.trans (hB.mono B1.out.size))
      clear hB
      have HS := Lib.hid hsp
      obtain ⟨x, r, rfl⟩ : ∃ x r, ch = x :: r := by cases ch with | nil => exact absurd rfl hne | cons x r => exact ⟨x, r, rfl⟩
      obtain ⟨gb, _, _, _, rfl, _⟩ := hsp
      clear hne
      go_wp2_with fail
      refine (path_any lo hi (x :: r) _ w2 (Nat.le_trans hh B2.out.size) HR.out.2 HS.out.no).mono ?_
      rintro e w3 ⟨v, rfl, hN, hB⟩
      have B3 := Lib.hid (And.intro (IRow.mono hN B2.out.size) (B2.out.trans (hB.mono B2.out.size)))
      clear hN hB
      go_wp2
      go_ret2
      exact ⟨_, by rw [HP.out.2]; rfl, by rw [HP.out.1]; exact B3.out.1, B3.out.2⟩
  · have HP : Hid (hpath F = [] ∧ hcode F = faultOf F) := Lib.hid ⟨by rw [hpath, if_neg hk], by rw [hcode, if_neg hk]⟩
    have hk' : (faultOf F != 0) = true := by simpa using hk
    clear hk
    go_enter Try.func34, Try.ntmps34
    go_wp2_with (go_at_call 86; refine (treeFault_any F _ A c b o lo hi hd hh HA.out HF.out).mono ?_; rintro e w1 ⟨rfl, hB⟩; have B1 := Lib.hid hB; clear hB)
    go_ret2
    exact ⟨_, by rw [HP.out.2]; rfl, by rw [HP.out.1]; exact IRow.nilRow _ _, B1.out⟩

noncomputable def harmlessB (F : Fo) : Bool := hcode F == 5
theorem implHarmless_any (F : Fo) (w : World) (A : Option Addr) (c b o lo hi : Nat) (hd : F.nodes ≤ 1048576) (hh : hi ≤ w.heap.size) (hA : RowAt lo hi A F.len b o) (hF : FoAt w lo hi b o F) :
    Calls Try.prog 31 #[.slice A F.len c] w fun e w' => e = .returned (.bool (harmlessB F)) ∧ Below w.heap.size w w' := by
  have HA := Lib.hid hA
  have HF := Lib.hid hF
  clear hA hF
  go_enter Try.func31, Try.ntmps31
  go_wp2_with (go_at_call 34; refine (implFirstHarm_any F _ A c b o lo hi hd hh HA.out HF.out).mono ?_; rintro e w1 ⟨v, rfl, _, hB⟩; have B1 := Lib.hid hB; clear hB)
  go_ret
  exact ⟨ret_bool rfl, B1.out⟩
end Go.Proofs.Ytbcbmgeoaejlmaa
