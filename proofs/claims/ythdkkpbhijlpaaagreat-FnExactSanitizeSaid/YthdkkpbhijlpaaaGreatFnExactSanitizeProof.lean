/-
  For every input the law FnExactSanitize answers true: the program answers as the model in the verifier's specification. No condition.
-/
import Derived.Test.YthdkkpbhijlpaaaGreatRows
import Derived.WalkKit
import Derived.ProofKit
import Derived.OpenShut
import Derived.ShutString
import Derived.ChangeOld
import Derived.Below
import Derived.HandedShaped
import Derived.Test.YthdkkpbhijlpaaaGreatS07
import Derived.Test.YthdkkpbhijlpaaaGreatS43
namespace Go.Proofs.YthdkkpbhijlpaaaGreat.fnExactSanitize
open Go.ChangeShapes Go.WideShapes Go.ChangeAt Go.RowKit
open Go.ChangeMaps (open_string shut_string)
set_option linter.unusedVariables false

theorem own : ownKnob Tryz.prog.godebug = none := by kernel_rfl
theorem laidOut : laidOutB Tryz.prog = true := by kernel_rfl
set_option maxRecDepth 100000 in
theorem lifted (os : Os) (started : os.Started) (H : Type) (enc : TypeId × Value → H) :
    ReturnsInHanded {} Tryz.checked os 3 .any (Rows.fnExactSanitizeSpec.pre6 enc Tryz.prog Tryz.f3 Rows.fnExactSanitizeRow.domain false) (Rows.fnExactSanitizeSpec.post enc Tryz.prog Tryz.f3 false true false false) := by
  refine returnsInHanded_of_change_shaped (C := Tryz.checked) own started (by kernel_rfl) Tryz.func3
    (ChangeSpec.witness6 (enc := enc) (C := Tryz.checked) false ⟨#[], #[.slice none 0 0, .agg #[.bool false, .bool false, .slice none 0 0, .slice none 0 0, .slice none 0 0, .slice none 0 0, .slice none 0 0, .bool false, .bool false]], []⟩ 8 (by kernel_rfl) (by kernel_rfl) (by kernel_rfl) (by kernel_rfl)) ?_
  intro W base args ds gs before hval0 hW hcnd _ hsh _
  have hval : ∀ (j : Nat) t v, Tryz.f3.params[j]? = some t → args[j]? = some v → Value.okWide Tryz.prog W .any base t v := hval0
  have hW' := hW
  obtain ⟨p, q, hA0, hV, rfl, hfz, hnd⟩ := hW
  have hA : DataW.TrodAll enc Tryz.prog W 0 (fun _ => true) true Tryz.f3.params.toList args.toList ds p := hA0
  rw [Tryz.params3] at hA hval
  obtain ⟨v0, vs0, d0, ds0, p0, q0, hargs, rfl, rfl, h0, r0⟩ := trodAll_cons hA
  obtain ⟨v1, vs1, d1, ds1, p1, q1, rfl, rfl, rfl, h1, r1⟩ := trodAll_cons r0
  obtain ⟨rfl, rfl, rfl⟩ := trodAll_nil r1
  obtain rfl : args = #[v0, v1] := by cases args; simp_all
  obtain ⟨rfl, rfl⟩ := trodVars_none hV
  obtain ⟨a0, len0, cap0, rfl⟩ := okWide_slice Tryz.underlying22 (hval 0 22 v0 rfl rfl)
  have k0 := h0
  have lt0 : ∀ x ∈ p0, x.block < W.heap.size := by obtain ⟨m, hm⟩ := k0; exact DataW.trod_lt m _ _ _ hm
  obtain ⟨F0, A0, c0, b0, o0, hc0, hr0, hf0⟩ : ∃ (F : Fo) (A : Option Addr) (c b o : Nat), Value.slice a0 len0 cap0 = .slice A F.len c ∧ RowAt 0 W.heap.size A F.len b o ∧ FoAt W 0 W.heap.size b o F := by
    obtain ⟨fuel, hf⟩ := h0
    obtain ⟨F, A, c, b, o, hcs, hr, hfo⟩ := open_fo (ea := 149) (e := 64) (ta := 62) Tryz.underlying22 Tryz.underlying64 Tryz.underlying62 Tryz.underlying149 (by kernel_rfl) (by kernel_rfl) (by refine ⟨?_, ?_, ?_, ?_, ?_, ?_⟩ <;> kernel_rfl) (by refine ⟨?_, ?_, ?_, ?_, ?_, ?_⟩ <;> kernel_rfl) (by refine ⟨?_, ?_, ?_, ?_, ?_, ?_⟩ <;> kernel_rfl) (by refine ⟨?_, ?_, ?_, ?_, ?_, ?_⟩ <;> kernel_rfl) fuel _ _ hf
    simp only [Value.cells] at hcs
    exact ⟨F, A, c, b, o, by simpa using hcs, hr.2, hfo⟩
  rw [hc0] at k0 hW' ⊢
  obtain ⟨cs1, rfl, hsz1⟩ := okWide_struct Tryz.underlying26 (hval 1 26 v1 rfl rfl)
  have k1 := h1
  have lt1 : ∀ x ∈ p1, x.block < W.heap.size := by obtain ⟨m, hm⟩ := k1; exact DataW.trod_lt m _ _ _ hm
  rw [show Tryz.prog.cellsOf 26 = 9 by kernel_rfl] at hsz1
  have T0 : RuTy Tryz.prog 103 24 9 _ _ _ := ⟨Tryz.underlying103, by kernel_rfl, Tryz.underlying24, Tryz.underlying9, by kernel_rfl, by refine ⟨?_, ?_, ?_⟩ <;> kernel_rfl, by refine ⟨?_, ?_, ?_⟩ <;> kernel_rfl, by refine ⟨?_, ?_, ?_⟩ <;> kernel_rfl⟩
  have T : CfTy Tryz.prog 26 23 103 24 9 _ _ _ _ _ _ _ _ _ _ _ _ := ⟨T0, Tryz.underlying26, Tryz.underlying23, by refine ⟨?_, ?_, ?_, ?_, ?_, ?_, ?_, ?_, ?_⟩ <;> kernel_rfl, by refine ⟨?_, ?_, ?_, ?_, ?_, ?_, ?_, ?_, ?_⟩ <;> kernel_rfl, by refine ⟨?_, ?_, rfl, rfl, rfl, rfl, rfl, ?_, ?_⟩ <;> kernel_rfl⟩
  obtain ⟨X, V, hc1, hX⟩ := open_config T hsz1 h1
  subst hc1
  clear hA0 hval0
  refine (lawSanitize_walk F0 X V W A0 c0 b0 o0 W.heap.size ⟨hr0, Nat.le_refl _, hf0⟩ hX (laysM144.s1_3 W hsh)).mono fun e W' ⟨he, bel⟩ => ?_
  subst he
  exact ⟨_, rfl, _, _, _, [], _, [], hW', trodAll_mk1 (shut_bool Tryz.underlying4 _), (trodAll_cons_mk (Below.trod laidOut (by kernel_rfl) (of_decide_eq_true (by kernel_rfl)) k0 bel lt0) (trodAll_cons_mk (Below.trod laidOut (by kernel_rfl) (of_decide_eq_true (by kernel_rfl)) k1 bel lt1) trodAll_mk0)), rfl, bel.frame _, fun h => by cases h⟩
theorem over : Rows.fnExactSanitizeRow.holds Tryz.pinned (OpenSpec.ofChange Rows.fnExactSanitizeSpec) :=
  OpenClaim.holds_of_wide 3 Tryz.f3 rfl rfl rfl rfl rfl rfl rfl ⟨rfl, rfl, rfl, rfl, rfl⟩ rfl rfl rfl rfl rfl (by kernel_rfl) Tryz.func3 (by kernel_rfl)
    (of_decide_eq_true (by kernel_rfl)) (by unfold Func.isWrapper; first | (rw [if_pos (by decide +kernel)]; kernel_rfl) | (rw [if_neg (by decide +kernel)]; exact ⟨rfl, rfl⟩))
    (fun os started H enc _ => lifted os started H enc)
theorem proved : Rows.FnExactSanitizeSaid := over
end Go.Proofs.YthdkkpbhijlpaaaGreat.fnExactSanitize
