import Derived.Test.YthdkkpbhijlpaaaGreatS13
import Derived.Test.YthdkkpbhijlpaaaGreatS05
import Derived.Test.YthdkkpbhijlpaaaGreatS03
import Derived.Test.YthdkkpbhijlpaaaGreatS08
set_option linter.unusedVariables false
namespace Go.Proofs.YthdkkpbhijlpaaaGreat
open Go.ChangeShapes Go.WideShapes Go.ChangeAt Go.RowKit Go.Deep Go.Maps

theorem lay2u {w : World} {g : Nat} {v0 v1 : Value} (h : Lay w g #[v0, v1]) : w.cell? ⟨g, 0, none⟩ = some v0 ∧ w.cell? ⟨g, 1, none⟩ = some v1 := ⟨h.1 0, h.1 1⟩
/-- the two boxes of a configuration and of what is ruled -/
def AskBox (w W : World) (X : Cf) (V : CfV) (sp : Int) (n : ByteArray) : Prop := CfBox w W w.heap.size X V ∧ Lay W (w.heap.size + 1) #[.int .i64 sp, .string n] ∧ w.heap.size + 1 < W.heap.size
theorem AskBox.next {w W W' : World} {X : Cf} {V : CfV} {sp : Int} {n : ByteArray} (h : AskBox w W X V sp n) (hB : Below W.heap.size W W') : AskBox w W' X V sp n :=
  ⟨h.1.next hB, h.2.1.below hB h.2.2, Nat.lt_of_lt_of_le h.2.2 hB.size⟩
theorem AskBox.new {w : World} {X : Cf} {V : CfV} (h : CfIn w X V) (t u : TypeId) (sp : Int) (n : ByteArray) : AskBox w ((w.alloc (.cells #[.bool X.ha, .bool X.hb, .slice V.a1 X.al.length V.c1, .slice V.a2 X.rm.length V.c2, .slice V.a3 X.uw.length V.c3, .slice V.a4 X.at_.length V.c4, .slice V.a5 X.dp.length V.c5, .bool X.cm, .bool X.da] t)).alloc (.cells #[.int .i64 sp, .string n] u)) X V sp n :=
  ⟨(CfBox.new h t).next ((Below.refl _ _).alloc (Nat.le_refl _) _), by simpa using Lay.new (w.alloc (.cells #[.bool X.ha, .bool X.hb, .slice V.a1 X.al.length V.c1, .slice V.a2 X.rm.length V.c2, .slice V.a3 X.uw.length V.c3, .slice V.a4 X.at_.length V.c4, .slice V.a5 X.dp.length V.c5, .bool X.cm, .bool X.da] t)) #[.int .i64 sp, .string n] u, by simp⟩
def unwB (X : Cf) (sp : Int) (n : ByteArray) : Bool := hasRu X.uw sp n && !inL bannedL n
def allB (X : Cf) (sp : Int) (n : ByteArray) : Bool := !(inL bannedL n || hasRu X.uw sp n) && (if X.ha = true then hasRu X.al sp n else !hasRu X.rm sp n)
set_option maxHeartbeats 2000000 in
theorem unwraps_any (X : Cf) (V : CfV) (sp : Int) (n : ByteArray) (w : World) (h0 : 0 ≤ sp) (h2 : sp ≤ 2) (hn : n.size ≤ maxLen) (h : CfIn w X V) (hu : rulesB false X.uw = true) :
    Calls Tryz.prog 86 #[.agg #[.bool X.ha, .bool X.hb, .slice V.a1 X.al.length V.c1, .slice V.a2 X.rm.length V.c2, .slice V.a3 X.uw.length V.c3, .slice V.a4 X.at_.length V.c4, .slice V.a5 X.dp.length V.c5, .bool X.cm, .bool X.da], .agg #[.int .i64 sp, .string n]] w fun e w' => e = .returned (.bool (unwB X sp n)) ∧ Below w.heap.size w w' := by
  have HU := Lib.hid (And.intro (all_safe (rulesB_all hu)) (rulesB_len hu))
  have HX := Lib.hid (AskBox.new h 35 114 sp n)
  have HR := Lib.hid (And.intro h0 h2)
  have HN := Lib.hid hn
  obtain ⟨p0, p1, p2, p3, p4, p5, p6, p7, p8⟩ := lay9 HX.out.1.1
  obtain ⟨r0, r1⟩ := lay2u HX.out.2.1
  clear h hu
  cases hq : hasRu X.uw sp n with
  | false =>
    have HQ := Lib.hid hq
    have HM : Hid (unwB X sp n = false) := Lib.hid (by rw [unwB, hq]; rfl)
    clear hq
    go_enter Tryz.func86, Tryz.ntmps86
    go_wp2_with fail
    refine (hasRule_any X.uw sp n _ V.a3 V.c3 HU.out.1 HU.out.2 HR.out.1 HR.out.2 HN.out HX.out.1.2.1.uw).mono ?_
    rintro e w1 ⟨rfl, hB⟩
    rw [HQ.out]
    have HX := Lib.hid (HX.out.next hB)
    clear hB p0 p1 p2 p3 p4 p5 p6 p7 p8 r0 r1
    go_wp2
    go_ret
    exact ⟨by rw [HM.out]; rfl, HX.out.1.2.2.1⟩
  | true =>
    have HQ := Lib.hid hq
    have HM : Hid (unwB X sp n = !inL bannedL n) := Lib.hid (by rw [unwB, hq]; rfl)
    clear hq
    go_enter Tryz.func86, Tryz.ntmps86
    go_wp2_with fail
    refine (hasRule_any X.uw sp n _ V.a3 V.c3 HU.out.1 HU.out.2 HR.out.1 HR.out.2 HN.out HX.out.1.2.1.uw).mono ?_
    rintro e w1 ⟨rfl, hB⟩
    rw [HQ.out]
    have HX := Lib.hid (HX.out.next hB)
    clear hB p0 p1 p2 p3 p4 p5 p6 p7 p8 r0 r1
    obtain ⟨p0, p1, p2, p3, p4, p5, p6, p7, p8⟩ := lay9 HX.out.1.1
    obtain ⟨r0, r1⟩ := lay2u HX.out.2.1
    go_wp2_with fail
    refine (implIsBanned_any n _ HN.out).mono ?_
    rintro e w2 ⟨rfl, hB⟩
    have HX := Lib.hid (HX.out.next hB)
    clear hB p0 p1 p2 p3 p4 p5 p6 p7 p8 r0 r1
    go_wp2
    go_ret
    exact ⟨by rw [HM.out]; rfl, HX.out.1.2.2.1⟩
set_option maxHeartbeats 2000000 in
theorem l07Unwrap_any (X : Cf) (V : CfV) (sp : Int) (n : ByteArray) (w : World) (h : CfIn w X V) :
    Calls Tryz.prog 118 #[.agg #[.bool X.ha, .bool X.hb, .slice V.a1 X.al.length V.c1, .slice V.a2 X.rm.length V.c2, .slice V.a3 X.uw.length V.c3, .slice V.a4 X.at_.length V.c4, .slice V.a5 X.dp.length V.c5, .bool X.cm, .bool X.da], .int .i64 sp, .string n] w fun e w' => e = .returned (.bool (unwB X sp n)) ∧ Below w.heap.size w w' := by
  have HX := Lib.hid (CfBox.new h 35)
  obtain ⟨p0, p1, p2, p3, p4, p5, p6, p7, p8⟩ := lay9 HX.out.1
  clear h
  cases hq : inL bannedL n with
  | true =>
    have HQ := Lib.hid hq
    have HM : Hid (unwB X sp n = false) := Lib.hid (by rw [unwB, hq]; simp)
    clear hq
    go_enter Tryz.func118, Tryz.ntmps118
    go_wp2_with fail
    refine (l01Banned_any n _).mono ?_
    rintro e w1 ⟨rfl, hB⟩
    rw [HQ.out]
    have HX := Lib.hid (HX.out.next hB)
    clear hB p0 p1 p2 p3 p4 p5 p6 p7 p8
    go_wp2
    go_ret
    exact ⟨by rw [HM.out]; rfl, HX.out.2.2.1⟩
  | false =>
    have HQ := Lib.hid hq
    have HM : Hid (unwB X sp n = decide (0 ≤ ruAt X.uw sp n)) := Lib.hid (by rw [unwB, hq, ruAt_has]; simp)
    clear hq
    go_enter Tryz.func118, Tryz.ntmps118
    go_wp2_with fail
    refine (l01Banned_any n _).mono ?_
    rintro e w1 ⟨rfl, hB⟩
    rw [HQ.out]
    have HX := Lib.hid (HX.out.next hB)
    clear hB p0 p1 p2 p3 p4 p5 p6 p7 p8
    obtain ⟨p0, p1, p2, p3, p4, p5, p6, p7, p8⟩ := lay9 HX.out.1
    go_wp2_with fail
    refine (l07At_any X.uw sp n _ V.a3 V.c3 HX.out.2.1.uw).mono ?_
    rintro e w2 ⟨rfl, rfl⟩
    go_wp2
    all_goals (go_ret; exact ⟨ret_bool (by first | (rw [HM.out]; done) | (rw [HM.out, Bool.eq_iff_iff]; simp <;> omega)), HX.out.2.2.1⟩)
end Go.Proofs.YthdkkpbhijlpaaaGreat
namespace Go.Proofs.YthdkkpbhijlpaaaGreat
open Go.ChangeShapes Go.WideShapes Go.ChangeAt Go.RowKit Go.Deep Go.Maps

def preB (s : ByteArray) : Bool := decide (5 ≤ s.size) && ((s.extract 0 5).toList == [100, 97, 116, 97, 45])
def dataB (s : ByteArray) : Bool := preB s && !(s.toList == [100, 97, 116, 97, 45])
theorem litePrefix_data (s : ByteArray) (w : World) (hs : s.size ≤ maxLen) :
    Calls Tryz.prog 180 #[.string s, .string ⟨#[100, 97, 116, 97, 45]⟩] w fun e w' => e = .returned (.bool (preB s)) ∧ w = w' := by
  unfold maxLen at hs
  by_cases h5 : 5 ≤ s.size
  · go_enter Tryz.func180, Tryz.ntmps180
    go_wp2
    go_ret
    exact ⟨ret_bool (by simp [preB, h5]), rfl⟩
  · go_enter Tryz.func180, Tryz.ntmps180
    go_wp2
    go_ret
    exact ⟨ret_bool (by simp [preB, h5]), rfl⟩
theorem prefix_data (s : ByteArray) (w : World) (hs : s.size ≤ maxLen) :
    Calls Tryz.prog 138 #[.string s, .string ⟨#[100, 97, 116, 97, 45]⟩] w fun e w' => e = .returned (.bool (preB s)) ∧ w = w' := by
  go_enter Tryz.func138, Tryz.ntmps138
  go_wp2_with (go_at_call 180; refine (litePrefix_data _ _ hs).mono ?_; rintro e w1 ⟨rfl, rfl⟩)
  go_ret
  exact ⟨rfl, rfl⟩
theorem isData_any (s : ByteArray) (w : World) (hs : s.size ≤ maxLen) :
    Calls Tryz.prog 185 #[.string s] w fun e w' => e = .returned (.bool (dataB s)) ∧ w = w' := by
  have HN := Lib.hid hs
  clear hs
  cases hq : preB s with
  | false =>
    have HQ := Lib.hid hq
    have HM : Hid (dataB s = false) := Lib.hid (by rw [dataB, hq]; rfl)
    clear hq
    go_enter Tryz.func185, Tryz.ntmps185
    go_wp2_with fail
    refine (prefix_data s _ HN.out).mono ?_
    rintro e w1 ⟨rfl, rfl⟩
    rw [HQ.out]
    go_wp2
    go_ret
    exact ⟨by rw [HM.out]; try rfl, rfl⟩
  | true =>
    have HQ := Lib.hid hq
    have HM : Hid (dataB s = !(s.toList == [100, 97, 116, 97, 45])) := Lib.hid (by rw [dataB, hq]; rfl)
    clear hq
    go_enter Tryz.func185, Tryz.ntmps185
    go_wp2_with fail
    refine (prefix_data s _ HN.out).mono ?_
    rintro e w1 ⟨rfl, rfl⟩
    rw [HQ.out]
    go_wp2
    all_goals (go_ret; exact ⟨ret_bool (by rw [HM.out]; try (simp [bne]; try rfl)), rfl⟩)
theorem ownsMap_get {P : Program} {k : TypeId} {R : Value → Option (DataW Value × List MemPlace)} {w : World} {b n : Nat} {D : DataW Value} {t e : TypeId} (h : w.ownsMap P k R b n D) (K : Keyed P k) (ht : P.underlying t = some (.map k e)) {z : Value} (hz : (zeroValue e).run P w = .ok z w) {zd : DataW Value} {zp : List MemPlace} (hzd : R z = some (zd, zp))
    {key : Value} {kl : Lit} (hkey : keyOf P k key = some kl) : ∃ v ps, (Instr.lookup t (.map (some b)) key false).run P w = .ok v w ∧ R v = some (D.atKey kl zd, ps) := by
  obtain ⟨es, clock, hb, F, _, rfl⟩ := h
  rcases Maps.fit_look false K ht hz hb F hkey with ⟨hrun, _, hat⟩ | ⟨e0, y, _, _, hrun, hRv, hat, _⟩
  · exact ⟨z, zp, hrun, by rw [hat zd]; exact hzd⟩
  · exact ⟨e0.val, y.2, hrun, by rw [hat zd]; exact hRv⟩
/-- a look-up that asks for no more than the rule -/
theorem RuMap.get {w0 w : World} {b n c : Nat} {l : List Ru} (h : RuMap w0 w b n l c) {sp : Int} {nm : ByteArray} (h0 : 0 ≤ sp) (h2 : sp ≤ 2) (hn : nm.size ≤ maxLen) :
    ∃ (i : Int) (t : ByteArray) (B : Option Addr) (m k : Nat), (Instr.lookup 158 (.map (some b)) (.agg #[.int .i64 sp, .string nm]) false).run Tryz.prog w = .ok (.agg #[.int .i64 i, .string t, .slice B m k]) w ∧
      (hasRu l sp nm = true → ∃ x ∈ l, ruIs sp nm x = true ∧ RuVal w0 x (.agg #[.int .i64 i, .string t, .slice B m k])) ∧ (hasRu l sp nm = false → m = 0) := by
  obtain ⟨⟨D, hown, hsz, hat⟩, hb, hle⟩ := h
  obtain ⟨kl, hkl⟩ := ruled_key sp nm (wf_space h0 h2) hn
  obtain ⟨v, ps, hrun, hv⟩ := ownsMap_get hown ruKeyed Tryz.underlying158 (zero_rule w) (show rdV _ = some (.held _, []) from rfl) hkl
  obtain ⟨a1, a2⟩ := hat sp nm kl hkl
  have hv' : DataW.held v = D.atKey kl (.held (.agg #[.int .i64 0, .string ⟨#[]⟩, .slice none 0 0])) := by
    have := Option.some.inj hv
    exact congrArg Prod.fst this
  cases hh : hasRu l sp nm with
  | false =>
    rw [Maps.atKey_of_not_has (by rw [a1]; exact hh)] at hv'
    injection hv' with hv'
    subst hv'
    exact ⟨0, ⟨#[]⟩, none, 0, 0, hrun, (fun h => by cases h), fun _ => rfl⟩
  | true =>
    obtain ⟨x, hx, hi, u, hu, hz⟩ := a2 hh
    rw [hz] at hv'
    injection hv' with hv'
    subst hv'
    obtain ⟨B, cc, e, h3⟩ := id hu
    subst e
    exact ⟨_, _, B, _, cc, hrun, fun _ => ⟨x, hx, hi, hu⟩, fun h => by cases h⟩
end Go.Proofs.YthdkkpbhijlpaaaGreat
