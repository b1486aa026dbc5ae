
import Derived.Test.YtbcbmgeoaejlmaaRu
import Derived.Deep.Strs
namespace Go.Proofs.Ytbcbmgeoaejlmaa
open Go.ChangeShapes Go.WideShapes Go.ChangeAt Go.RowKit Go.Deep
section
variable {H : Type} {enc : TypeId × Value → H} {P : Program} {w : World} {base : Nat} {spare : Nat → Bool} {held : Bool}
/-- texts that came in -/
theorem open_nm {t e : TypeId} {fuel : Nat} {cs : List Value} {x : DataW H × List MemPlace} (ht : P.underlying t = some (.slice e)) (he : P.underlying e = some .string) (hc : P.cellsOf e = 1)
    (h : DataW.trod enc P w base spare held fuel t cs = some x) : ∃ (l : List ByteArray) (A : Option Addr) (c : Nat), cs = [.slice A l.length c] ∧ l.length ≤ c ∧ NmIn w A l := by
  rcases open_strs ht he hc h with ⟨rfl, _⟩ | ⟨a, len, cap, m, Sx, rfl, _, hl, hm, hmm, _, hx⟩
  · exact ⟨[], none, 0, rfl, Nat.le_refl _, NmIn.nil _ _⟩
  have hlm : len ≤ m := by rw [hmm]; split <;> omega
  obtain ⟨b, o, spot⟩ := a
  by_cases hz : len = 0
  · subst hz
    exact ⟨[], _, cap, rfl, Nat.zero_le _, NmIn.nil _ _⟩
  have hspot : spot = none := by simpa [Addr.add] using World.cell?_spot (hx 0 (by omega)).1
  subst hspot
  refine ⟨(List.range len).map Sx, _, cap, by simp, by simpa using hl, by simp; omega, Or.inr ⟨b, o, rfl, fun k hk => ?_⟩⟩
  have hk' : k < len := by simpa using hk
  have := hx k (by omega)
  rw [add_plain] at this
  simpa using this

/-- a rule's fields -/
structure RuTy (P : Program) (e ta ea : TypeId) (f0 f1 f2 : Field) : Prop where
  he : P.underlying e = some (.struct #[f0, f1, f2])
  ce : P.cellsOf e = 3
  hta : P.underlying ta = some (.slice ea)
  hea : P.underlying ea = some .string
  cea : P.cellsOf ea = 1
  o : f0.offset = 0 ∧ f1.offset = 1 ∧ f2.offset = 2
  c : P.cellsOf f0.type = 1 ∧ P.cellsOf f1.type = 1 ∧ P.cellsOf f2.type = 1
  u : P.underlying f0.type = some (.int .i64) ∧ P.underlying f1.type = some .string ∧ f2.type = ta
theorem open_rule {e ta ea : TypeId} {f0 f1 f2 : Field} (T : RuTy P e ta ea f0 f1 f2) {fuel : Nat} {v0 v1 v2 : Value} {x : DataW H × List MemPlace} (h : DataW.trod enc P w base spare held fuel e [v0, v1, v2] = some x) :
    ∃ (r : Ru) (A : Option Addr) (c : Nat), v0 = .int .i64 r.1 ∧ v1 = .string r.2.1 ∧ v2 = .slice A r.2.2.length c ∧ r.2.1.size ≤ maxLen ∧ r.2.2.length ≤ c ∧ NmIn w A r.2.2 := by
  obtain ⟨q0, q1, q2⟩ := T.o
  obtain ⟨r0, r1, r2⟩ := T.c
  obtain ⟨u0, u1, u2⟩ := T.u
  obtain ⟨xs, k, hk, _, _, hxl, hf⟩ := DataW.trod_struct T.he h
  match xs, hxl with
  | [y0, y1, y2], _ =>
    have e0 := hf 0 f0 rfl
    have e1 := hf 1 f1 rfl
    have e2 := hf 2 f2 rfl
    simp [q0, q1, q2, r0, r1, r2] at e0 e1 e2
    obtain ⟨z0, p0, _, _⟩ := DataW.trod_int u0 e0
    obtain ⟨s1, p1, _, m1⟩ := DataW.trod_string u1 e1
    rw [u2] at e2
    obtain ⟨al, A, c, p2, l2, t2⟩ := open_nm T.hta T.hea T.cea e2
    simp at p0 p1 p2
    subst p0 p1 p2
    exact ⟨(z0, s1, al), A, c, rfl, rfl, rfl, m1, l2, t2⟩
/-- .. as an argument -/
theorem open_rulev {e ta ea : TypeId} {f0 f1 f2 : Field} (T : RuTy P e ta ea f0 f1 f2) {cs : Array Value} (hs : cs.size = 3) {x : DataW H × List MemPlace} (h : ∃ fuel, DataW.trod enc P w base spare held fuel e (Value.agg cs).cells.toList = some x) :
    ∃ (sp : Int) (n : ByteArray) (al : List ByteArray) (A : Option Addr) (c : Nat), cs = #[.int .i64 sp, .string n, .slice A al.length c] ∧ n.size ≤ maxLen ∧ al.length ≤ c ∧ NmIn w A al := by
  obtain ⟨fuel, hf⟩ := h
  obtain ⟨ls⟩ := cs
  obtain ⟨w0, w1, w2, rfl⟩ : ∃ w0 w1 w2, ls = [w0, w1, w2] := by
    match ls, hs with
    | [w0, w1, w2], _ => exact ⟨w0, w1, w2, rfl⟩
  obtain ⟨⟨sp, n, al⟩, A, c, rfl, rfl, rfl, hn, hac, hal⟩ := open_rule T (fuel := fuel) (x := x) (by simpa [Value.cells] using hf)
  exact ⟨sp, n, al, A, c, rfl, hn, hac, hal⟩
/-- rules that came in -/
theorem open_rus {t e ta ea : TypeId} {f0 f1 f2 : Field} (T : RuTy P e ta ea f0 f1 f2) (ht : P.underlying t = some (.slice e)) {fuel : Nat} {cs : List Value} {x : DataW H × List MemPlace} (h : DataW.trod enc P w base spare held fuel t cs = some x) :
    ∃ (l : List Ru) (A : Option Addr) (c : Nat), cs = [.slice A l.length c] ∧ l.length ≤ c ∧ RuIn w A l := by
  rcases DataW.trod_slice ht h with ⟨rfl, _⟩ | ⟨a, len, cap, elems, rest, n, hn, rfl, _, _, hl, hm, hlen, hel, _, _⟩
  · exact ⟨[], none, 0, rfl, Nat.le_refl _, RuIn.nil _ _⟩
  have hx : ∀ i, i < len → ∃ cs', w.cells? base (a.add (i * 3)) 3 = some cs' ∧ ∃ y, DataW.trod enc P w base spare held n e cs' = some y := by
    intro i hi
    have := hel i hi
    rw [List.getElem?_eq_getElem (by omega), T.ce] at this
    obtain ⟨cs', h1, h2⟩ := Option.bind_eq_some_iff.1 this
    exact ⟨cs', h1, _, h2⟩
  obtain ⟨b, o, spot⟩ := a
  by_cases hz : len = 0
  · subst hz
    exact ⟨[], _, cap, rfl, Nat.zero_le _, RuIn.nil _ _⟩
  have hsp : spot = none := by
    obtain ⟨cs', h1, y, h2⟩ := hx 0 (by omega)
    obtain ⟨_, hl3, hcell⟩ := World.cells?_some h1
    have hc := hcell 0 (by omega)
    rw [List.getElem?_eq_getElem (by omega)] at hc
    simpa [Addr.add] using World.cell?_spot hc
  subst hsp
  have each : ∀ i, i < len → ∃ r : Ru, RuAt w b (o + i * 3) r := by
    intro i hi
    obtain ⟨cs', h1, y, h2⟩ := hx i hi
    obtain ⟨_, hl3, hcell⟩ := World.cells?_some h1
    match cs', hl3 with
    | [v0, v1, v2], _ =>
      have d0 := hcell 0 (by omega)
      have d1 := hcell 1 (by omega)
      have d2 := hcell 2 (by omega)
      rw [Go.Deep.add_add, add_plain] at d0 d1 d2
      simp at d0 d1 d2
      obtain ⟨r, A, c, rfl, rfl, rfl, hr, hc, hN⟩ := open_rule T h2
      exact ⟨r, d0, by simpa [Nat.add_assoc] using d1, hr, A, c, by simpa [Nat.add_assoc] using d2, hc, hN⟩
  obtain ⟨Rx, hR⟩ := choose_lt each
  refine ⟨(List.range len).map Rx, _, cap, by simp, by simpa using hl, by simp; omega, Or.inr ⟨b, o, rfl, fun k hk => ?_⟩⟩
  have hk' : k < len := by simpa using hk
  simpa using hR k hk'
end
end Go.Proofs.Ytbcbmgeoaejlmaa
