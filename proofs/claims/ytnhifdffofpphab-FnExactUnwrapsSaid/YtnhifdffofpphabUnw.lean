
import Derived.Test.YtnhifdffofpphabAsk
import Derived.Test.YtnhifdffofpphabSets
import Derived.Test.YtnhifdffofpphabHas
namespace Go.Proofs.Ytnhifdffofpphab
open Go.ChangeShapes Go.WideShapes Go.ChangeAt Go.RowKit Go.Deep Go.Maps

theorem lay2u {w : World} {g : Nat} {v0 v1 : Value} (h : Lay w g #[v0, v1]) : w.cell? ⟨g, 0, none⟩ = some v0 ∧ w.cell? ⟨g, 1, none⟩ = some v1 := ⟨h.1 0, h.1 1⟩
/-- the two boxes of a configuration and of what is ruled -/
def AskBox (w W : World) (X : Cf) (V : CfV) (sp : Int) (n : ByteArray) : Prop := CfBox w W w.heap.size X V ∧ Lay W (w.heap.size + 1) #[.int .i64 sp, .string n] ∧ w.heap.size + 1 < W.heap.size
theorem AskBox.next {w W W' : World} {X : Cf} {V : CfV} {sp : Int} {n : ByteArray} (h : AskBox w W X V sp n) (hB : Below W.heap.size W W') : AskBox w W' X V sp n :=
  ⟨h.1.next hB, h.2.1.below hB h.2.2, Nat.lt_of_lt_of_le h.2.2 hB.size⟩
theorem AskBox.new {w : World} {X : Cf} {V : CfV} (h : CfIn w X V) (t u : TypeId) (sp : Int) (n : ByteArray) : AskBox w ((w.alloc (.cells #[.bool X.ha, .bool X.hb, .slice V.a1 X.al.length V.c1, .slice V.a2 X.rm.length V.c2, .slice V.a3 X.uw.length V.c3, .slice V.a4 X.at_.length V.c4, .slice V.a5 X.dp.length V.c5, .bool X.cm, .bool X.da] t)).alloc (.cells #[.int .i64 sp, .string n] u)) X V sp n :=
  ⟨(CfBox.new h t).next ((Below.refl _ _).alloc (Nat.le_refl _) _), by simpa using Lay.new (w.alloc (.cells #[.bool X.ha, .bool X.hb, .slice V.a1 X.al.length V.c1, .slice V.a2 X.rm.length V.c2, .slice V.a3 X.uw.length V.c3, .slice V.a4 X.at_.length V.c4, .slice V.a5 X.dp.length V.c5, .bool X.cm, .bool X.da] t)) #[.int .i64 sp, .string n] u, by simp⟩

def unwB (X : Cf) (sp : Int) (n : ByteArray) : Bool := hasRu X.uw sp n && !inL bannedL n
def allB (X : Cf) (sp : Int) (n : ByteArray) : Bool := !(inL bannedL n || hasRu X.uw sp n) && (if X.ha = true then hasRu X.al sp n else !hasRu X.rm sp n)

set_option maxHeartbeats 2000000 in
theorem unwraps_any (X : Cf) (V : CfV) (sp : Int) (n : ByteArray) (w : World) (h0 : 0 ≤ sp) (h2 : sp ≤ 2) (hn : n.size ≤ maxLen) (h : CfIn w X V) (hu : rulesB false X.uw = true) :
    Calls Try.prog 35 #[.agg #[.bool X.ha, .bool X.hb, .slice V.a1 X.al.length V.c1, .slice V.a2 X.rm.length V.c2, .slice V.a3 X.uw.length V.c3, .slice V.a4 X.at_.length V.c4, .slice V.a5 X.dp.length V.c5, .bool X.cm, .bool X.da], .agg #[.int .i64 sp, .string n]] w fun e w' => e = .returned (.bool (unwB X sp n)) ∧ Below w.heap.size w w' := by
  have HU := Lib.hid (And.intro (all_safe (rulesB_all hu)) (rulesB_len hu))
  have HX := Lib.hid (AskBox.new h 31 51 sp n)
  have HR := Lib.hid (And.intro h0 h2)
  have HN := Lib.hid hn
  obtain ⟨p0, p1, p2, p3, p4, p5, p6, p7, p8⟩ := lay9 HX.out.1.1
  obtain ⟨r0, r1⟩ := lay2u HX.out.2.1
  clear h hu
  cases hq : hasRu X.uw sp n with
  | false =>
    have HQ := Lib.hid hq
    have HM : Hid (unwB X sp n = false) := Lib.hid (by rw [unwB, hq]; rfl)
    clear hq
    go_enter Try.func35, Try.ntmps35
    go_wp2_with fail
    refine (hasRule_any X.uw sp n _ V.a3 V.c3 HU.out.1 HU.out.2 HR.out.1 HR.out.2 HN.out HX.out.1.2.1.uw).mono ?_
    rintro e w1 ⟨rfl, hB⟩
    rw [HQ.out]
    have HX := Lib.hid (HX.out.next hB)
    clear hB p0 p1 p2 p3 p4 p5 p6 p7 p8 r0 r1
    go_wp2
    go_ret
    exact ⟨by rw [HM.out]; rfl, HX.out.1.2.2.1⟩
  | true =>
    have HQ := Lib.hid hq
    have HM : Hid (unwB X sp n = !inL bannedL n) := Lib.hid (by rw [unwB, hq]; rfl)
    clear hq
    go_enter Try.func35, Try.ntmps35
    go_wp2_with fail
    refine (hasRule_any X.uw sp n _ V.a3 V.c3 HU.out.1 HU.out.2 HR.out.1 HR.out.2 HN.out HX.out.1.2.1.uw).mono ?_
    rintro e w1 ⟨rfl, hB⟩
    rw [HQ.out]
    have HX := Lib.hid (HX.out.next hB)
    clear hB p0 p1 p2 p3 p4 p5 p6 p7 p8 r0 r1
    obtain ⟨p0, p1, p2, p3, p4, p5, p6, p7, p8⟩ := lay9 HX.out.1.1
    obtain ⟨r0, r1⟩ := lay2u HX.out.2.1
    go_wp2_with fail
    refine (implIsBanned_any n _ HN.out).mono ?_
    rintro e w2 ⟨rfl, hB⟩
    have HX := Lib.hid (HX.out.next hB)
    clear hB p0 p1 p2 p3 p4 p5 p6 p7 p8 r0 r1
    go_wp2
    go_ret
    exact ⟨by rw [HM.out]; rfl, HX.out.1.2.2.1⟩

set_option maxHeartbeats 2000000 in
theorem l07Unwrap_any (X : Cf) (V : CfV) (sp : Int) (n : ByteArray) (w : World) (h : CfIn w X V) :
    Calls Try.prog 34 #[.agg #[.bool X.ha, .bool X.hb, .slice V.a1 X.al.length V.c1, .slice V.a2 X.rm.length V.c2, .slice V.a3 X.uw.length V.c3, .slice V.a4 X.at_.length V.c4, .slice V.a5 X.dp.length V.c5, .bool X.cm, .bool X.da], .int .i64 sp, .string n] w fun e w' => e = .returned (.bool (unwB X sp n)) ∧ Below w.heap.size w w' := by
  have HX := Lib.hid (CfBox.new h 31)
  obtain ⟨p0, p1, p2, p3, p4, p5, p6, p7, p8⟩ := lay9 HX.out.1
  clear h
  cases hq : inL bannedL n with
  | true =>
    have HQ := Lib.hid hq
    have HM : Hid (unwB X sp n = false) := Lib.hid (by rw [unwB, hq]; simp)
    clear hq
    go_enter Try.func34, Try.ntmps34
    go_wp2_with fail
    refine (l01Banned_any n _).mono ?_
    rintro e w1 ⟨rfl, hB⟩
    rw [HQ.out]
    have HX := Lib.hid (HX.out.next hB)
    clear hB p0 p1 p2 p3 p4 p5 p6 p7 p8
    go_wp2
    go_ret
    exact ⟨by rw [HM.out]; rfl, HX.out.2.2.1⟩
  | false =>
    have HQ := Lib.hid hq
    have HM : Hid (unwB X sp n = decide (0 ≤ ruAt X.uw sp n)) := Lib.hid (by rw [unwB, hq, ruAt_has]; simp)
    clear hq
    go_enter Try.func34, Try.ntmps34
    go_wp2_with fail
    refine (l01Banned_any n _).mono ?_
    rintro e w1 ⟨rfl, hB⟩
    rw [HQ.out]
    have HX := Lib.hid (HX.out.next hB)
    clear hB p0 p1 p2 p3 p4 p5 p6 p7 p8
    obtain ⟨p0, p1, p2, p3, p4, p5, p6, p7, p8⟩ := lay9 HX.out.1
    go_wp2_with fail
    refine (l07At_any X.uw sp n _ V.a3 V.c3 HX.out.2.1.uw).mono ?_
    rintro e w2 ⟨rfl, rfl⟩
    go_wp2
    all_goals (go_ret; exact ⟨ret_bool (by first | (rw [HM.out]; done) | (rw [HM.out, Bool.eq_iff_iff]; simp <;> omega)), HX.out.2.2.1⟩)
end Go.Proofs.Ytnhifdffofpphab
