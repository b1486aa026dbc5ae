
import Derived.Test.YtnhifdffofpphabUnw
namespace Go.Proofs.Ytnhifdffofpphab
open Go.ChangeShapes Go.WideShapes Go.ChangeAt Go.RowKit Go.Deep Go.Maps

set_option maxHeartbeats 4000000 in
theorem allowsElement_any (X : Cf) (V : CfV) (sp : Int) (n : ByteArray) (w : World) (h0 : 0 ≤ sp) (h2 : sp ≤ 2) (hn : n.size ≤ maxLen) (h : CfIn w X V) (ha : rulesB true X.al = true) (hr : rulesB false X.rm = true) (hu : rulesB false X.uw = true) :
    Calls Try.prog 27 #[.agg #[.bool X.ha, .bool X.hb, .slice V.a1 X.al.length V.c1, .slice V.a2 X.rm.length V.c2, .slice V.a3 X.uw.length V.c3, .slice V.a4 X.at_.length V.c4, .slice V.a5 X.dp.length V.c5, .bool X.cm, .bool X.da], .agg #[.int .i64 sp, .string n]] w fun e w' => e = .returned (.bool (allB X sp n)) ∧ Below w.heap.size w w' := by
  have HU := Lib.hid (And.intro (all_safe (rulesB_all hu)) (rulesB_len hu))
  have HL := Lib.hid (And.intro (all_safe (rulesB_all ha)) (rulesB_len ha))
  have HD := Lib.hid (And.intro (all_safe (rulesB_all hr)) (rulesB_len hr))
  have HX := Lib.hid (AskBox.new h 31 51 sp n)
  have HR := Lib.hid (And.intro h0 h2)
  have HN := Lib.hid hn
  obtain ⟨p0, p1, p2, p3, p4, p5, p6, p7, p8⟩ := lay9 HX.out.1.1
  obtain ⟨r0, r1⟩ := lay2u HX.out.2.1
  clear h hu ha hr h0 h2
  cases hq : inL bannedL n with
  | true =>
    have HQ := Lib.hid hq
    have HM : Hid (allB X sp n = false) := Lib.hid (by rw [allB, hq]; rfl)
    clear hq
    go_enter Try.func27, Try.ntmps27
    go_wp2_with fail
    refine (implIsBanned_any n _ HN.out).mono ?_
    rintro e w1 ⟨rfl, hB⟩
    rw [HQ.out]
    have HX := Lib.hid (HX.out.next hB)
    clear hB p0 p1 p2 p3 p4 p5 p6 p7 p8 r0 r1
    obtain ⟨p0, p1, p2, p3, p4, p5, p6, p7, p8⟩ := lay9 HX.out.1.1
    obtain ⟨r0, r1⟩ := lay2u HX.out.2.1
    go_wp2
    all_goals (go_ret; exact ⟨by rw [HM.out]; rfl, HX.out.1.2.2.1⟩)
  | false =>
    have HQ := Lib.hid hq
    cases hz : hasRu X.uw sp n with
    | true =>
      have HZ := Lib.hid hz
      have HM : Hid (allB X sp n = false) := Lib.hid (by rw [allB, hq, hz]; rfl)
      clear hq hz
      go_enter Try.func27, Try.ntmps27
      go_wp2_with fail
      refine (implIsBanned_any n _ HN.out).mono ?_
      rintro e w1 ⟨rfl, hB⟩
      rw [HQ.out]
      have HX := Lib.hid (HX.out.next hB)
      clear hB p0 p1 p2 p3 p4 p5 p6 p7 p8 r0 r1
      obtain ⟨p0, p1, p2, p3, p4, p5, p6, p7, p8⟩ := lay9 HX.out.1.1
      obtain ⟨r0, r1⟩ := lay2u HX.out.2.1
      go_wp2_with fail
      refine (hasRule_any X.uw sp n _ V.a3 V.c3 HU.out.1 HU.out.2 HR.out.1 HR.out.2 HN.out HX.out.1.2.1.uw).mono ?_
      rintro e w2 ⟨rfl, hB⟩
      rw [HZ.out]
      have HX := Lib.hid (HX.out.next hB)
      clear hB p0 p1 p2 p3 p4 p5 p6 p7 p8 r0 r1
      obtain ⟨p0, p1, p2, p3, p4, p5, p6, p7, p8⟩ := lay9 HX.out.1.1
      obtain ⟨r0, r1⟩ := lay2u HX.out.2.1
      go_wp2
      all_goals (go_ret; exact ⟨by rw [HM.out]; rfl, HX.out.1.2.2.1⟩)
    | false =>
      have HZ := Lib.hid hz
      rcases Bool.eq_false_or_eq_true X.ha with hx | hx
      · have HM : Hid (allB X sp n = hasRu X.al sp n) := Lib.hid (by rw [allB, hq, hz, hx]; rfl)
        have HH := Lib.hid hx
        clear hq hz hx
        go_enter Try.func27, Try.ntmps27
        go_wp2_with fail
        refine (implIsBanned_any n _ HN.out).mono ?_
        rintro e w1 ⟨rfl, hB⟩
        rw [HQ.out]
        have HX := Lib.hid (HX.out.next hB)
        clear hB p0 p1 p2 p3 p4 p5 p6 p7 p8 r0 r1
        obtain ⟨p0, p1, p2, p3, p4, p5, p6, p7, p8⟩ := lay9 HX.out.1.1
        obtain ⟨r0, r1⟩ := lay2u HX.out.2.1
        go_wp2_with fail
        refine (hasRule_any X.uw sp n _ V.a3 V.c3 HU.out.1 HU.out.2 HR.out.1 HR.out.2 HN.out HX.out.1.2.1.uw).mono ?_
        rintro e w2 ⟨rfl, hB⟩
        rw [HZ.out]
        have HX := Lib.hid (HX.out.next hB)
        clear hB p0 p1 p2 p3 p4 p5 p6 p7 p8 r0 r1
        obtain ⟨p0, p1, p2, p3, p4, p5, p6, p7, p8⟩ := lay9 HX.out.1.1
        obtain ⟨r0, r1⟩ := lay2u HX.out.2.1
        rw [HH.out] at p0
        go_wp2_with fail
        refine (hasRule_any X.al sp n _ V.a1 V.c1 HL.out.1 HL.out.2 HR.out.1 HR.out.2 HN.out HX.out.1.2.1.al).mono ?_
        rintro e w3 ⟨rfl, hB⟩
        have HX := Lib.hid (HX.out.next hB)
        clear hB p0 p1 p2 p3 p4 p5 p6 p7 p8 r0 r1
        obtain ⟨p0, p1, p2, p3, p4, p5, p6, p7, p8⟩ := lay9 HX.out.1.1
        obtain ⟨r0, r1⟩ := lay2u HX.out.2.1
        go_wp2
        all_goals (go_ret; exact ⟨by rw [HM.out]; rfl, HX.out.1.2.2.1⟩)
      · have HM : Hid (allB X sp n = !hasRu X.rm sp n) := Lib.hid (by rw [allB, hq, hz, hx]; rfl)
        have HH := Lib.hid hx
        clear hq hz hx
        go_enter Try.func27, Try.ntmps27
        go_wp2_with fail
        refine (implIsBanned_any n _ HN.out).mono ?_
        rintro e w1 ⟨rfl, hB⟩
        rw [HQ.out]
        have HX := Lib.hid (HX.out.next hB)
        clear hB p0 p1 p2 p3 p4 p5 p6 p7 p8 r0 r1
        obtain ⟨p0, p1, p2, p3, p4, p5, p6, p7, p8⟩ := lay9 HX.out.1.1
        obtain ⟨r0, r1⟩ := lay2u HX.out.2.1
        go_wp2_with fail
        refine (hasRule_any X.uw sp n _ V.a3 V.c3 HU.out.1 HU.out.2 HR.out.1 HR.out.2 HN.out HX.out.1.2.1.uw).mono ?_
        rintro e w2 ⟨rfl, hB⟩
        rw [HZ.out]
        have HX := Lib.hid (HX.out.next hB)
        clear hB p0 p1 p2 p3 p4 p5 p6 p7 p8 r0 r1
        obtain ⟨p0, p1, p2, p3, p4, p5, p6, p7, p8⟩ := lay9 HX.out.1.1
        obtain ⟨r0, r1⟩ := lay2u HX.out.2.1
        rw [HH.out] at p0
        go_wp2_with fail
        refine (hasRule_any X.rm sp n _ V.a2 V.c2 HD.out.1 HD.out.2 HR.out.1 HR.out.2 HN.out HX.out.1.2.1.rm).mono ?_
        rintro e w3 ⟨rfl, hB⟩
        have HX := Lib.hid (HX.out.next hB)
        clear hB p0 p1 p2 p3 p4 p5 p6 p7 p8 r0 r1
        obtain ⟨p0, p1, p2, p3, p4, p5, p6, p7, p8⟩ := lay9 HX.out.1.1
        obtain ⟨r0, r1⟩ := lay2u HX.out.2.1
        go_wp2
        all_goals (go_ret; exact ⟨by rw [HM.out]; rfl, HX.out.1.2.2.1⟩)

set_option maxHeartbeats 4000000 in
theorem l07Element_any (X : Cf) (V : CfV) (sp : Int) (n : ByteArray) (w : World) (h : CfIn w X V) :
    Calls Try.prog 23 #[.agg #[.bool X.ha, .bool X.hb, .slice V.a1 X.al.length V.c1, .slice V.a2 X.rm.length V.c2, .slice V.a3 X.uw.length V.c3, .slice V.a4 X.at_.length V.c4, .slice V.a5 X.dp.length V.c5, .bool X.cm, .bool X.da], .int .i64 sp, .string n] w fun e w' => e = .returned (.bool (allB X sp n)) ∧ Below w.heap.size w w' := by
  have HX := Lib.hid (CfBox.new h 31)
  obtain ⟨p0, p1, p2, p3, p4, p5, p6, p7, p8⟩ := lay9 HX.out.1
  clear h
  cases hq : inL bannedL n with
  | true =>
    have HQ := Lib.hid hq
    have HM : Hid (allB X sp n = false) := Lib.hid (by rw [allB, hq]; rfl)
    clear hq
    go_enter Try.func23, Try.ntmps23
    go_wp2_with fail
    refine (l01Banned_any n _).mono ?_
    rintro e w1 ⟨rfl, hB⟩
    rw [HQ.out]
    have HX := Lib.hid (HX.out.next hB)
    clear hB p0 p1 p2 p3 p4 p5 p6 p7 p8
    obtain ⟨p0, p1, p2, p3, p4, p5, p6, p7, p8⟩ := lay9 HX.out.1
    go_wp2
    all_goals (go_ret; exact ⟨by rw [HM.out]; rfl, HX.out.2.2.1⟩)
  | false =>
    have HQ := Lib.hid hq
    by_cases hz : 0 ≤ ruAt X.uw sp n
    · have HM : Hid (allB X sp n = false) := Lib.hid (by rw [allB, hq, ← ruAt_has X.uw, decide_eq_true hz]; rfl)
      clear hq
      go_enter Try.func23, Try.ntmps23
      go_wp2_with fail
      refine (l01Banned_any n _).mono ?_
      rintro e w1 ⟨rfl, hB⟩
      rw [HQ.out]
      have HX := Lib.hid (HX.out.next hB)
      clear hB p0 p1 p2 p3 p4 p5 p6 p7 p8
      obtain ⟨p0, p1, p2, p3, p4, p5, p6, p7, p8⟩ := lay9 HX.out.1
      go_wp2_with fail
      refine (l07At_any X.uw sp n _ V.a3 V.c3 HX.out.2.1.uw).mono ?_
      rintro e w2 ⟨rfl, rfl⟩
      go_wp2
      all_goals (go_ret; exact ⟨by rw [HM.out]; rfl, HX.out.2.2.1⟩)
    · rcases Bool.eq_false_or_eq_true X.ha with hx | hx
      · have HM : Hid (allB X sp n = (decide (0 ≤ ruAt X.al sp n))) := Lib.hid (by rw [allB, hq, ← ruAt_has X.uw, decide_eq_false hz, hx, ruAt_has]; rfl)
        have HH := Lib.hid hx
        clear hq hx
        go_enter Try.func23, Try.ntmps23
        go_wp2_with fail
        refine (l01Banned_any n _).mono ?_
        rintro e w1 ⟨rfl, hB⟩
        rw [HQ.out]
        have HX := Lib.hid (HX.out.next hB)
        clear hB p0 p1 p2 p3 p4 p5 p6 p7 p8
        obtain ⟨p0, p1, p2, p3, p4, p5, p6, p7, p8⟩ := lay9 HX.out.1
        rw [HH.out] at p0
        go_wp2_with fail
        refine (l07At_any X.uw sp n _ V.a3 V.c3 HX.out.2.1.uw).mono ?_
        rintro e w2 ⟨rfl, rfl⟩
        go_wp2_with fail
        refine (l07At_any X.al sp n _ V.a1 V.c1 HX.out.2.1.al).mono ?_
        rintro e w3 ⟨rfl, rfl⟩
        go_wp2
        all_goals (go_ret; exact ⟨ret_bool (by first | (rw [HM.out]; done) | (rw [HM.out, Bool.eq_iff_iff]; simp <;> omega)), HX.out.2.2.1⟩)
      · have HM : Hid (allB X sp n = (!decide (0 ≤ ruAt X.rm sp n))) := Lib.hid (by rw [allB, hq, ← ruAt_has X.uw, decide_eq_false hz, hx, ruAt_has]; rfl)
        have HH := Lib.hid hx
        clear hq hx
        go_enter Try.func23, Try.ntmps23
        go_wp2_with fail
        refine (l01Banned_any n _).mono ?_
        rintro e w1 ⟨rfl, hB⟩
        rw [HQ.out]
        have HX := Lib.hid (HX.out.next hB)
        clear hB p0 p1 p2 p3 p4 p5 p6 p7 p8
        obtain ⟨p0, p1, p2, p3, p4, p5, p6, p7, p8⟩ := lay9 HX.out.1
        rw [HH.out] at p0
        go_wp2_with fail
        refine (l07At_any X.uw sp n _ V.a3 V.c3 HX.out.2.1.uw).mono ?_
        rintro e w2 ⟨rfl, rfl⟩
        go_wp2_with fail
        refine (l07At_any X.rm sp n _ V.a2 V.c2 HX.out.2.1.rm).mono ?_
        rintro e w3 ⟨rfl, rfl⟩
        go_wp2
        all_goals (go_ret; exact ⟨ret_bool (by first | (rw [HM.out]; done) | (rw [HM.out, Bool.eq_iff_iff]; simp <;> omega)), HX.out.2.2.1⟩)
end Go.Proofs.Ytnhifdffofpphab
