import Derived.Test.YthdkkpbhijlpaaaGreatQ08
import Derived.Test.YthdkkpbhijlpaaaGreatQ13
set_option linter.unusedVariables false
namespace Go.Proofs.YthdkkpbhijlpaaaGreat
open Go.ChangeShapes Go.WideShapes Go.ChangeAt Go.RowKit Go.Deep Go.Maps

def preB (s : ByteArray) : Bool := decide (5 ≤ s.size) && ((s.extract 0 5).toList == [100, 97, 116, 97, 45])
def dataB (s : ByteArray) : Bool := preB s && !(s.toList == [100, 97, 116, 97, 45])
theorem litePrefix_data (s : ByteArray) (w : World) (hs : s.size ≤ maxLen) :
    Calls Tryz.prog 180 #[.string s, .string ⟨#[100, 97, 116, 97, 45]⟩] w fun e w' => e = .returned (.bool (preB s)) ∧ w = w' := by
  unfold maxLen at hs
  by_cases h5 : 5 ≤ s.size
  · go_enter Tryz.func180, Tryz.ntmps180
    go_wp2
    go_ret
    exact ⟨ret_bool (by simp [preB, h5]), rfl⟩
  · go_enter Tryz.func180, Tryz.ntmps180
    go_wp2
    go_ret
    exact ⟨ret_bool (by simp [preB, h5]), rfl⟩
theorem prefix_data (s : ByteArray) (w : World) (hs : s.size ≤ maxLen) :
    Calls Tryz.prog 138 #[.string s, .string ⟨#[100, 97, 116, 97, 45]⟩] w fun e w' => e = .returned (.bool (preB s)) ∧ w = w' := by
  go_enter Tryz.func138, Tryz.ntmps138
  go_wp2_with (go_at_call 180; refine (litePrefix_data _ _ hs).mono ?_; rintro e w1 ⟨rfl, rfl⟩)
  go_ret
  exact ⟨rfl, rfl⟩
theorem isData_any (s : ByteArray) (w : World) (hs : s.size ≤ maxLen) :
    Calls Tryz.prog 185 #[.string s] w fun e w' => e = .returned (.bool (dataB s)) ∧ w = w' := by
  have HN := Lib.hid hs
  clear hs
  cases hq : preB s with
  | false =>
    have HQ := Lib.hid hq
    have HM : Hid (dataB s = false) := Lib.hid (by rw [dataB, hq]; rfl)
    clear hq
    go_enter Tryz.func185, Tryz.ntmps185
    go_wp2_with fail
    refine (prefix_data s _ HN.out).mono ?_
    rintro e w1 ⟨rfl, rfl⟩
    rw [HQ.out]
    go_wp2
    go_ret
    exact ⟨by rw [HM.out]; try rfl, rfl⟩
  | true =>
    have HQ := Lib.hid hq
    have HM : Hid (dataB s = !(s.toList == [100, 97, 116, 97, 45])) := Lib.hid (by rw [dataB, hq]; rfl)
    clear hq
    go_enter Tryz.func185, Tryz.ntmps185
    go_wp2_with fail
    refine (prefix_data s _ HN.out).mono ?_
    rintro e w1 ⟨rfl, rfl⟩
    rw [HQ.out]
    go_wp2
    all_goals (go_ret; exact ⟨ret_bool (by rw [HM.out]; try (simp [bne]; try rfl)), rfl⟩)
theorem ownsMap_get {P : Program} {k : TypeId} {R : Value → Option (DataW Value × List MemPlace)} {w : World} {b n : Nat} {D : DataW Value} {t e : TypeId} (h : w.ownsMap P k R b n D) (K : Keyed P k) (ht : P.underlying t = some (.map k e)) {z : Value} (hz : (zeroValue e).run P w = .ok z w) {zd : DataW Value} {zp : List MemPlace} (hzd : R z = some (zd, zp))
    {key : Value} {kl : Lit} (hkey : keyOf P k key = some kl) : ∃ v ps, (Instr.lookup t (.map (some b)) key false).run P w = .ok v w ∧ R v = some (D.atKey kl zd, ps) := by
  obtain ⟨es, clock, hb, F, _, rfl⟩ := h
  rcases Maps.fit_look false K ht hz hb F hkey with ⟨hrun, _, hat⟩ | ⟨e0, y, _, _, hrun, hRv, hat, _⟩
  · exact ⟨z, zp, hrun, by rw [hat zd]; exact hzd⟩
  · exact ⟨e0.val, y.2, hrun, by rw [hat zd]; exact hRv⟩
/-- a look-up that asks for no more than the rule -/
theorem RuMap.get {w0 w : World} {b n c : Nat} {l : List Ru} (h : RuMap w0 w b n l c) {sp : Int} {nm : ByteArray} (h0 : 0 ≤ sp) (h2 : sp ≤ 2) (hn : nm.size ≤ maxLen) :
    ∃ (i : Int) (t : ByteArray) (B : Option Addr) (m k : Nat), (Instr.lookup 158 (.map (some b)) (.agg #[.int .i64 sp, .string nm]) false).run Tryz.prog w = .ok (.agg #[.int .i64 i, .string t, .slice B m k]) w ∧
      (hasRu l sp nm = true → ∃ x ∈ l, ruIs sp nm x = true ∧ RuVal w0 x (.agg #[.int .i64 i, .string t, .slice B m k])) ∧ (hasRu l sp nm = false → m = 0) := by
  obtain ⟨⟨D, hown, hsz, hat⟩, hb, hle⟩ := h
  obtain ⟨kl, hkl⟩ := ruled_key sp nm (wf_space h0 h2) hn
  obtain ⟨v, ps, hrun, hv⟩ := ownsMap_get hown ruKeyed Tryz.underlying158 (zero_rule w) (show rdV _ = some (.held _, []) from rfl) hkl
  obtain ⟨a1, a2⟩ := hat sp nm kl hkl
  have hv' : DataW.held v = D.atKey kl (.held (.agg #[.int .i64 0, .string ⟨#[]⟩, .slice none 0 0])) := by
    have := Option.some.inj hv
    exact congrArg Prod.fst this
  cases hh : hasRu l sp nm with
  | false =>
    rw [Maps.atKey_of_not_has (by rw [a1]; exact hh)] at hv'
    injection hv' with hv'
    subst hv'
    exact ⟨0, ⟨#[]⟩, none, 0, 0, hrun, (fun h => by cases h), fun _ => rfl⟩
  | true =>
    obtain ⟨x, hx, hi, u, hu, hz⟩ := a2 hh
    rw [hz] at hv'
    injection hv' with hv'
    subst hv'
    obtain ⟨B, cc, e, h3⟩ := id hu
    subst e
    exact ⟨_, _, B, _, cc, hrun, fun _ => ⟨x, hx, hi, hu⟩, fun h => by cases h⟩
end Go.Proofs.YthdkkpbhijlpaaaGreat
