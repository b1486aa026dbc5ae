
import Derived.Test.YtbcbmgeoaejlmaaLawAtt
import Derived.Test.YtbcbmgeoaejlmaaOpenCf
namespace Go.Proofs.Ytbcbmgeoaejlmaa
open Go.ChangeShapes Go.WideShapes Go.ChangeAt Go.RowKit Go.Deep
section
variable {H : Type} {enc : TypeId × Value → H} {P : Program} {w : World} {base : Nat} {spare : Nat → Bool} {held : Bool}
/-- an attribute that came in -/
theorem open_atv {t : TypeId} {f0 f1 : Field} (he : P.underlying t = some (.struct #[f0, f1])) (of : f0.offset = 0 ∧ f1.offset = 1) (cf : P.cellsOf f0.type = 1 ∧ P.cellsOf f1.type = 1) (uf : P.underlying f0.type = some .string ∧ P.underlying f1.type = some .string)
    {cs : Array Value} (hs : cs.size = 2) {x : DataW H × List MemPlace} (h : ∃ fuel, DataW.trod enc P w base spare held fuel t (Value.agg cs).cells.toList = some x) :
    ∃ (n v : ByteArray), cs = #[.string n, .string v] ∧ n.size ≤ maxLen ∧ v.size ≤ maxLen := by
  obtain ⟨fuel, hf⟩ := h
  obtain ⟨ls⟩ := cs
  obtain ⟨w0, w1, rfl⟩ : ∃ w0 w1, ls = [w0, w1] := by
    match ls, hs with
    | [w0, w1], _ => exact ⟨w0, w1, rfl⟩
  have hf : DataW.trod enc P w base spare held fuel t [w0, w1] = some x := by simpa [Value.cells] using hf
  obtain ⟨q0, q1⟩ := of
  obtain ⟨r0, r1⟩ := cf
  obtain ⟨u0, u1⟩ := uf
  obtain ⟨xs, k, hk, _, _, hxl, hg⟩ := DataW.trod_struct he hf
  match xs, hxl with
  | [y0, y1], _ =>
    have e0 := hg 0 f0 rfl
    have e1 := hg 1 f1 rfl
    simp [q0, q1, r0, r1] at e0 e1
    obtain ⟨s0, p0, _, m0⟩ := DataW.trod_string u0 e0
    obtain ⟨s1, p1, _, m1⟩ := DataW.trod_string u1 e1
    simp at p0 p1
    subst p0 p1
    exact ⟨s0, s1, rfl, m0, m1⟩
end
end Go.Proofs.Ytbcbmgeoaejlmaa
