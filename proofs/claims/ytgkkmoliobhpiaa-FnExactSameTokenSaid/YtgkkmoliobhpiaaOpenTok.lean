import Derived.Test.YtgkkmoliobhpiaaLawTok
namespace Go.Proofs.Ytgkkmoliobhpiaa
open Go.ChangeShapes Go.WideShapes Go.ChangeAt Go.RowKit Go.Deep
section
variable {H : Type} {enc : TypeId × Value → H} {P : Program} {w : World} {base : Nat} {spare : Nat → Bool} {held : Bool}
/-- a token that came in -/
theorem open_tok {t ta ea : TypeId} {g0 g1 f0 f1 f2 f3 f4 f5 f6 : Field} (he : P.underlying t = some (.struct #[f0, f1, f2, f3, f4, f5, f6]))
    (hta : P.underlying ta = some (.slice ea)) (hea : P.underlying ea = some (.struct #[g0, g1])) (cea : P.cellsOf ea = 2)
    (og : g0.offset = 0 ∧ g1.offset = 1 ∧ P.cellsOf g0.type = 1 ∧ P.cellsOf g1.type = 1 ∧ P.underlying g0.type = some .string ∧ P.underlying g1.type = some .string)
    (of : f0.offset = 0 ∧ f1.offset = 1 ∧ f2.offset = 2 ∧ f3.offset = 3 ∧ f4.offset = 4 ∧ f5.offset = 5 ∧ f6.offset = 6)
    (cf : P.cellsOf f0.type = 1 ∧ P.cellsOf f1.type = 1 ∧ P.cellsOf f2.type = 1 ∧ P.cellsOf f3.type = 1 ∧ P.cellsOf f4.type = 1 ∧ P.cellsOf f5.type = 1 ∧ P.cellsOf f6.type = 1)
    (uf : P.underlying f0.type = some (.int .i64) ∧ P.underlying f1.type = some (.int .i64) ∧ P.underlying f2.type = some (.int .i64) ∧ P.underlying f3.type = some .string ∧ P.underlying f4.type = some .string ∧ f5.type = ta ∧ P.underlying f6.type = some .bool)
    {fuel : Nat} {v0 v1 v2 v3 v4 v5 v6 : Value} {x : DataW H × List MemPlace} (h : DataW.trod enc P w base spare held fuel t [v0, v1, v2, v3, v4, v5, v6] = some x) :
    ∃ (k a l : Int) (n t' : ByteArray) (al : List (ByteArray × ByteArray)) (s : Bool) (A : Option Addr) (c b o : Nat), v0 = .int .i64 k ∧ v1 = .int .i64 a ∧ v2 = .int .i64 l ∧ v3 = .string n ∧ v4 = .string t' ∧ v5 = .slice A al.length c ∧ v6 = .bool s ∧
      (n.size ≤ maxLen ∧ t'.size ≤ maxLen) ∧ AlIn w A b o al := by
  obtain ⟨q0, q1, q2, q3, q4, q5, q6⟩ := of
  obtain ⟨r0, r1, r2, r3, r4, r5, r6⟩ := cf
  obtain ⟨u0, u1, u2, u3, u4, u5, u6⟩ := uf
  obtain ⟨gq0, gq1, gr0, gr1, gu0, gu1⟩ := og
  obtain ⟨xs, k, hk, _, _, hxl, hf⟩ := DataW.trod_struct he h
  match xs, hxl with
  | [y0, y1, y2, y3, y4, y5, y6], _ =>
    have e0 := hf 0 f0 rfl
    have e1 := hf 1 f1 rfl
    have e2 := hf 2 f2 rfl
    have e3 := hf 3 f3 rfl
    have e4 := hf 4 f4 rfl
    have e5 := hf 5 f5 rfl
    have e6 := hf 6 f6 rfl
    simp [q0, q1, q2, q3, q4, q5, q6, r0, r1, r2, r3, r4, r5, r6] at e0 e1 e2 e3 e4 e5 e6
    obtain ⟨z0, p0, _, _⟩ := DataW.trod_int u0 e0
    obtain ⟨z1, p1, _, _⟩ := DataW.trod_int u1 e1
    obtain ⟨z2, p2, _, _⟩ := DataW.trod_int u2 e2
    obtain ⟨s3, p3, _, m3⟩ := DataW.trod_string u3 e3
    obtain ⟨s4, p4, _, m4⟩ := DataW.trod_string u4 e4
    rw [u5] at e5
    obtain ⟨al, A, c, b', o', p5, l5, t5⟩ := open_as hta hea cea gq0 gq1 gr0 gr1 gu0 gu1 e5
    obtain ⟨b6, p6, _⟩ := DataW.trod_bool u6 e6
    simp at p0 p1 p2 p3 p4 p5 p6
    subst p0 p1 p2 p3 p4 p5 p6
    exact ⟨z0, z1, z2, s3, s4, al, b6, A, c, b', o', rfl, rfl, rfl, rfl, rfl, rfl, rfl, ⟨m3, m4⟩, l5.2, t5⟩
/-- .. as an argument -/
theorem open_tokv {t ta ea : TypeId} {g0 g1 f0 f1 f2 f3 f4 f5 f6 : Field} (he : P.underlying t = some (.struct #[f0, f1, f2, f3, f4, f5, f6]))
    (hta : P.underlying ta = some (.slice ea)) (hea : P.underlying ea = some (.struct #[g0, g1])) (cea : P.cellsOf ea = 2)
    (og : g0.offset = 0 ∧ g1.offset = 1 ∧ P.cellsOf g0.type = 1 ∧ P.cellsOf g1.type = 1 ∧ P.underlying g0.type = some .string ∧ P.underlying g1.type = some .string)
    (of : f0.offset = 0 ∧ f1.offset = 1 ∧ f2.offset = 2 ∧ f3.offset = 3 ∧ f4.offset = 4 ∧ f5.offset = 5 ∧ f6.offset = 6)
    (cf : P.cellsOf f0.type = 1 ∧ P.cellsOf f1.type = 1 ∧ P.cellsOf f2.type = 1 ∧ P.cellsOf f3.type = 1 ∧ P.cellsOf f4.type = 1 ∧ P.cellsOf f5.type = 1 ∧ P.cellsOf f6.type = 1)
    (uf : P.underlying f0.type = some (.int .i64) ∧ P.underlying f1.type = some (.int .i64) ∧ P.underlying f2.type = some (.int .i64) ∧ P.underlying f3.type = some .string ∧ P.underlying f4.type = some .string ∧ f5.type = ta ∧ P.underlying f6.type = some .bool)
    {cs : Array Value} (hs : cs.size = 7) {x : DataW H × List MemPlace} (h : ∃ fuel, DataW.trod enc P w base spare held fuel t (Value.agg cs).cells.toList = some x) :
    ∃ (k a l : Int) (n t' : ByteArray) (al : List (ByteArray × ByteArray)) (s : Bool) (A : Option Addr) (c b o : Nat), cs = #[.int .i64 k, .int .i64 a, .int .i64 l, .string n, .string t', .slice A al.length c, .bool s] ∧
      (n.size ≤ maxLen ∧ t'.size ≤ maxLen) ∧ AlIn w A b o al := by
  obtain ⟨fuel, hf⟩ := h
  obtain ⟨ls⟩ := cs
  obtain ⟨w0, w1, w2, w3, w4, w5, w6, rfl⟩ : ∃ w0 w1 w2 w3 w4 w5 w6, ls = [w0, w1, w2, w3, w4, w5, w6] := by
    match ls, hs with
    | [w0, w1, w2, w3, w4, w5, w6], _ => exact ⟨w0, w1, w2, w3, w4, w5, w6, rfl⟩
  obtain ⟨k, a, l, n, t', al, s, A, c, b, o, rfl, rfl, rfl, rfl, rfl, rfl, rfl, hn, hal⟩ := open_tok he hta hea cea og of cf uf (fuel := fuel) (x := x) (by simpa [Value.cells] using hf)
  exact ⟨k, a, l, n, t', al, s, A, c, b, o, rfl, hn, hal⟩
end
end Go.Proofs.Ytgkkmoliobhpiaa
