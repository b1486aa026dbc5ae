
import Derived.Test.YtbcbmgeoaejlmaaOpenRu
import Derived.Test.YtbcbmgeoaejlmaaCf
namespace Go.Proofs.Ytbcbmgeoaejlmaa
open Go.ChangeShapes Go.WideShapes Go.ChangeAt Go.RowKit Go.Deep
section
variable {H : Type} {enc : TypeId × Value → H} {P : Program} {w : World} {base : Nat} {spare : Nat → Bool} {held : Bool}
/-- a configuration's fields -/
structure CfTy (P : Program) (k rs e ta ea : TypeId) (f0 f1 f2 : Field) (g0 g1 g2 g3 g4 g5 g6 g7 g8 : Field) : Prop where
  T : RuTy P e ta ea f0 f1 f2
  hk : P.underlying k = some (.struct #[g0, g1, g2, g3, g4, g5, g6, g7, g8])
  hrs : P.underlying rs = some (.slice e)
  o : g0.offset = 0 ∧ g1.offset = 1 ∧ g2.offset = 2 ∧ g3.offset = 3 ∧ g4.offset = 4 ∧ g5.offset = 5 ∧ g6.offset = 6 ∧ g7.offset = 7 ∧ g8.offset = 8
  c : P.cellsOf g0.type = 1 ∧ P.cellsOf g1.type = 1 ∧ P.cellsOf g2.type = 1 ∧ P.cellsOf g3.type = 1 ∧ P.cellsOf g4.type = 1 ∧ P.cellsOf g5.type = 1 ∧ P.cellsOf g6.type = 1 ∧ P.cellsOf g7.type = 1 ∧ P.cellsOf g8.type = 1
  u : P.underlying g0.type = some .bool ∧ P.underlying g1.type = some .bool ∧ g2.type = rs ∧ g3.type = rs ∧ g4.type = rs ∧ g5.type = ta ∧ g6.type = ta ∧ P.underlying g7.type = some .bool ∧ P.underlying g8.type = some .bool
/-- a configuration that came in -/
theorem open_config {k rs e ta ea : TypeId} {f0 f1 f2 : Field} {g0 g1 g2 g3 g4 g5 g6 g7 g8 : Field} (T : CfTy P k rs e ta ea f0 f1 f2 g0 g1 g2 g3 g4 g5 g6 g7 g8) {cs : Array Value} (hs : cs.size = 9) {x : DataW H × List MemPlace} (h : ∃ fuel, DataW.trod enc P w base spare held fuel k (Value.agg cs).cells.toList = some x) :
    ∃ (X : Cf) (V : CfV), cs = #[.bool X.ha, .bool X.hb, .slice V.a1 X.al.length V.c1, .slice V.a2 X.rm.length V.c2, .slice V.a3 X.uw.length V.c3, .slice V.a4 X.at_.length V.c4, .slice V.a5 X.dp.length V.c5, .bool X.cm, .bool X.da] ∧ CfIn w X V := by
  obtain ⟨fuel, h⟩ := h
  obtain ⟨ls⟩ := cs
  obtain ⟨v0, v1, v2, v3, v4, v5, v6, v7, v8, rfl⟩ : ∃ v0 v1 v2 v3 v4 v5 v6 v7 v8, ls = [v0, v1, v2, v3, v4, v5, v6, v7, v8] := by
    match ls, hs with
    | [v0, v1, v2, v3, v4, v5, v6, v7, v8], _ => exact ⟨v0, v1, v2, v3, v4, v5, v6, v7, v8, rfl⟩
  replace h : DataW.trod enc P w base spare held fuel k [v0, v1, v2, v3, v4, v5, v6, v7, v8] = some x := by simpa [Value.cells] using h
  obtain ⟨q0, q1, q2, q3, q4, q5, q6, q7, q8⟩ := T.o
  obtain ⟨r0, r1, r2, r3, r4, r5, r6, r7, r8⟩ := T.c
  obtain ⟨u0, u1, u2, u3, u4, u5, u6, u7, u8⟩ := T.u
  obtain ⟨xs, k, hk, _, _, hxl, hf⟩ := DataW.trod_struct T.hk h
  match xs, hxl with
  | [y0, y1, y2, y3, y4, y5, y6, y7, y8], _ =>
    have e0 := hf 0 g0 rfl
    have e1 := hf 1 g1 rfl
    have e2 := hf 2 g2 rfl
    have e3 := hf 3 g3 rfl
    have e4 := hf 4 g4 rfl
    have e5 := hf 5 g5 rfl
    have e6 := hf 6 g6 rfl
    have e7 := hf 7 g7 rfl
    have e8 := hf 8 g8 rfl
    clear hf h
    simp [q0, r0] at e0
    simp [q1, r1] at e1
    simp [q2, r2] at e2
    simp [q3, r3] at e3
    simp [q4, r4] at e4
    simp [q5, r5] at e5
    simp [q6, r6] at e6
    simp [q7, r7] at e7
    simp [q8, r8] at e8
    obtain ⟨z0, p0, _⟩ := DataW.trod_bool u0 e0
    obtain ⟨z1, p1, _⟩ := DataW.trod_bool u1 e1
    rw [u2] at e2
    rw [u3] at e3
    rw [u4] at e4
    rw [u5] at e5
    rw [u6] at e6
    obtain ⟨l2, A2, c2, p2, _, t2⟩ := open_rus T.T T.hrs e2
    obtain ⟨l3, A3, c3, p3, _, t3⟩ := open_rus T.T T.hrs e3
    obtain ⟨l4, A4, c4, p4, _, t4⟩ := open_rus T.T T.hrs e4
    obtain ⟨l5, A5, c5, p5, m5, t5⟩ := open_nm T.T.hta T.T.hea T.T.cea e5
    obtain ⟨l6, A6, c6, p6, m6, t6⟩ := open_nm T.T.hta T.T.hea T.T.cea e6
    obtain ⟨z7, p7, _⟩ := DataW.trod_bool u7 e7
    obtain ⟨z8, p8, _⟩ := DataW.trod_bool u8 e8
    simp at p0 p1 p2 p3 p4 p5 p6 p7 p8
    subst p0 p1 p2 p3 p4 p5 p6 p7 p8
    exact ⟨⟨z0, z1, l2, l3, l4, l5, l6, z7, z8⟩, ⟨A2, c2, A3, c3, A4, c4, A5, c5, A6, c6⟩, rfl, ⟨t2, t3, t4, t5, t6, m5, m6⟩⟩
end
end Go.Proofs.Ytbcbmgeoaejlmaa
