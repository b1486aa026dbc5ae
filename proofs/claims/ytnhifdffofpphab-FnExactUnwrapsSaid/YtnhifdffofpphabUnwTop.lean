
import Derived.Test.YtnhifdffofpphabAll
namespace Go.Proofs.Ytnhifdffofpphab
open Go.ChangeShapes Go.WideShapes Go.ChangeAt Go.RowKit Go.Deep Go.Maps

noncomputable def askUnw (X : Cf) (sp : Int) (n : ByteArray) : Bool := if askOf X sp n = 0 then unwB X sp n else false
noncomputable def askAll (X : Cf) (sp : Int) (n : ByteArray) : Bool := if askOf X sp n = 0 then allB X sp n else false

set_option maxHeartbeats 2000000 in
theorem implUnwraps_any (X : Cf) (V : CfV) (sp : Int) (n : ByteArray) (w : World) (hn : n.size ≤ maxLen) (h : CfIn w X V) :
    Calls Try.prog 17 #[.agg #[.bool X.ha, .bool X.hb, .slice V.a1 X.al.length V.c1, .slice V.a2 X.rm.length V.c2, .slice V.a3 X.uw.length V.c3, .slice V.a4 X.at_.length V.c4, .slice V.a5 X.dp.length V.c5, .bool X.cm, .bool X.da], .int .i64 sp, .string n] w fun e w' => e = .returned (.tuple #[.bool (askUnw X sp n), .int .i64 (askOf X sp n)]) ∧ Below w.heap.size w w' := by
  have HN := Lib.hid hn
  have HX := Lib.hid (CfBox.new h 31)
  obtain ⟨p0, p1, p2, p3, p4, p5, p6, p7, p8⟩ := lay9 HX.out.1
  clear h
  by_cases hc : askOf X sp n = 0
  · have HC := Lib.hid hc
    have HM : Hid (askUnw X sp n = unwB X sp n) := Lib.hid (by rw [askUnw, if_pos hc])
    clear hc
    go_enter Try.func17, Try.ntmps17
    go_wp2_with fail
    refine (elementFault_any X V sp n _ HN.out HX.out.2.1).mono ?_
    rintro e w1 ⟨rfl, hB⟩
    rw [HC.out]
    have HX := Lib.hid (HX.out.next hB)
    clear hB p0 p1 p2 p3 p4 p5 p6 p7 p8
    obtain ⟨p0, p1, p2, p3, p4, p5, p6, p7, p8⟩ := lay9 HX.out.1
    go_wp2_with fail
    refine (unwraps_any X V sp n _ (askOf_ok HC.out).2.1 (askOf_ok HC.out).2.2 HN.out HX.out.2.1 (cfOK_lists (checkOf_ok (askOf_ok HC.out).1)).2.2).mono ?_
    rintro e w2 ⟨rfl, hB⟩
    have HX := Lib.hid (HX.out.next hB)
    clear hB p0 p1 p2 p3 p4 p5 p6 p7 p8
    go_wp2
    all_goals (go_ret2; exact ⟨by rw [HM.out, HC.out]; try rfl, HX.out.2.2.1⟩)
  · have HM : Hid (askUnw X sp n = false) := Lib.hid (by rw [askUnw, if_neg hc])
    obtain ⟨cd, hcd⟩ : ∃ cd, askOf X sp n = cd := ⟨_, rfl⟩
    have HC := Lib.hid hcd
    rw [hcd] at hc
    clear hcd
    go_enter Try.func17, Try.ntmps17
    go_wp2_with fail
    refine (elementFault_any X V sp n _ HN.out HX.out.2.1).mono ?_
    rintro e w1 ⟨rfl, hB⟩
    rw [HC.out]
    have HX := Lib.hid (HX.out.next hB)
    clear hB p0 p1 p2 p3 p4 p5 p6 p7 p8
    obtain ⟨p0, p1, p2, p3, p4, p5, p6, p7, p8⟩ := lay9 HX.out.1
    go_wp2
    all_goals (go_ret2; exact ⟨by rw [HM.out, HC.out]; try rfl, HX.out.2.2.1⟩)

set_option maxHeartbeats 2000000 in
theorem specUnwraps_any (X : Cf) (V : CfV) (sp : Int) (n : ByteArray) (w : World) (hn : n.size ≤ maxLen) (h : CfIn w X V) :
    Calls Try.prog 16 #[.agg #[.bool X.ha, .bool X.hb, .slice V.a1 X.al.length V.c1, .slice V.a2 X.rm.length V.c2, .slice V.a3 X.uw.length V.c3, .slice V.a4 X.at_.length V.c4, .slice V.a5 X.dp.length V.c5, .bool X.cm, .bool X.da], .int .i64 sp, .string n] w fun e w' => e = .returned (.tuple #[.bool (askUnw X sp n), .int .i64 (askOf X sp n)]) ∧ Below w.heap.size w w' := by
  have HN := Lib.hid hn
  have HX := Lib.hid (CfBox.new h 31)
  obtain ⟨p0, p1, p2, p3, p4, p5, p6, p7, p8⟩ := lay9 HX.out.1
  clear h
  by_cases hl : (65536 : Int) < n.size
  · have HA : Hid (askOf X sp n = 2) := Lib.hid (by rw [askOf, if_pos hl])
    have HM : Hid (askUnw X sp n = false) := Lib.hid (by rw [askUnw, HA.out]; rfl)
    go_enter Try.func16, Try.ntmps16
    go_wp2
    all_goals (go_ret2; exact ⟨by rw [HM.out, HA.out]; try rfl, HX.out.2.2.1⟩)
  · by_cases hc : askOf X sp n = 0
    · have HC := Lib.hid hc
      have HM : Hid (askUnw X sp n = unwB X sp n) := Lib.hid (by rw [askUnw, if_pos hc])
      clear hc
      go_enter Try.func16, Try.ntmps16
      go_wp2_with fail
      refine (l07AskName_any X V sp n _ HN.out HX.out.2.1).mono ?_
      rintro e w1 ⟨rfl, hB⟩
      rw [HC.out]
      have HX := Lib.hid (HX.out.next hB)
      clear hB p0 p1 p2 p3 p4 p5 p6 p7 p8
      obtain ⟨p0, p1, p2, p3, p4, p5, p6, p7, p8⟩ := lay9 HX.out.1
      go_wp2_with fail
      refine (l07Unwrap_any X V sp n _ HX.out.2.1).mono ?_
      rintro e w2 ⟨rfl, hB⟩
      have HX := Lib.hid (HX.out.next hB)
      clear hB p0 p1 p2 p3 p4 p5 p6 p7 p8
      go_wp2
      all_goals (go_ret2; exact ⟨by rw [HM.out, HC.out]; try rfl, HX.out.2.2.1⟩)
    · have HM : Hid (askUnw X sp n = false) := Lib.hid (by rw [askUnw, if_neg hc])
      obtain ⟨cd, hcd⟩ : ∃ cd, askOf X sp n = cd := ⟨_, rfl⟩
      have HC := Lib.hid hcd
      rw [hcd] at hc
      clear hcd
      go_enter Try.func16, Try.ntmps16
      go_wp2_with fail
      refine (l07AskName_any X V sp n _ HN.out HX.out.2.1).mono ?_
      rintro e w1 ⟨rfl, hB⟩
      rw [HC.out]
      have HX := Lib.hid (HX.out.next hB)
      clear hB p0 p1 p2 p3 p4 p5 p6 p7 p8
      obtain ⟨p0, p1, p2, p3, p4, p5, p6, p7, p8⟩ := lay9 HX.out.1
      go_wp2
      all_goals (go_ret2; exact ⟨by rw [HM.out, HC.out]; try rfl, HX.out.2.2.1⟩)

set_option maxHeartbeats 2000000 in
theorem implAllows_any (X : Cf) (V : CfV) (sp : Int) (n : ByteArray) (w : World) (hn : n.size ≤ maxLen) (h : CfIn w X V) :
    Calls Try.prog 10 #[.agg #[.bool X.ha, .bool X.hb, .slice V.a1 X.al.length V.c1, .slice V.a2 X.rm.length V.c2, .slice V.a3 X.uw.length V.c3, .slice V.a4 X.at_.length V.c4, .slice V.a5 X.dp.length V.c5, .bool X.cm, .bool X.da], .int .i64 sp, .string n] w fun e w' => e = .returned (.tuple #[.bool (askAll X sp n), .int .i64 (askOf X sp n)]) ∧ Below w.heap.size w w' := by
  have HN := Lib.hid hn
  have HX := Lib.hid (CfBox.new h 31)
  obtain ⟨p0, p1, p2, p3, p4, p5, p6, p7, p8⟩ := lay9 HX.out.1
  clear h
  by_cases hc : askOf X sp n = 0
  · have HC := Lib.hid hc
    have HM : Hid (askAll X sp n = allB X sp n) := Lib.hid (by rw [askAll, if_pos hc])
    clear hc
    go_enter Try.func10, Try.ntmps10
    go_wp2_with fail
    refine (elementFault_any X V sp n _ HN.out HX.out.2.1).mono ?_
    rintro e w1 ⟨rfl, hB⟩
    rw [HC.out]
    have HX := Lib.hid (HX.out.next hB)
    clear hB p0 p1 p2 p3 p4 p5 p6 p7 p8
    obtain ⟨p0, p1, p2, p3, p4, p5, p6, p7, p8⟩ := lay9 HX.out.1
    go_wp2_with fail
    refine (allowsElement_any X V sp n _ (askOf_ok HC.out).2.1 (askOf_ok HC.out).2.2 HN.out HX.out.2.1 (cfOK_lists (checkOf_ok (askOf_ok HC.out).1)).1 (cfOK_lists (checkOf_ok (askOf_ok HC.out).1)).2.1 (cfOK_lists (checkOf_ok (askOf_ok HC.out).1)).2.2).mono ?_
    rintro e w2 ⟨rfl, hB⟩
    have HX := Lib.hid (HX.out.next hB)
    clear hB p0 p1 p2 p3 p4 p5 p6 p7 p8
    go_wp2
    all_goals (go_ret2; exact ⟨by rw [HM.out, HC.out]; try rfl, HX.out.2.2.1⟩)
  · have HM : Hid (askAll X sp n = false) := Lib.hid (by rw [askAll, if_neg hc])
    obtain ⟨cd, hcd⟩ : ∃ cd, askOf X sp n = cd := ⟨_, rfl⟩
    have HC := Lib.hid hcd
    rw [hcd] at hc
    clear hcd
    go_enter Try.func10, Try.ntmps10
    go_wp2_with fail
    refine (elementFault_any X V sp n _ HN.out HX.out.2.1).mono ?_
    rintro e w1 ⟨rfl, hB⟩
    rw [HC.out]
    have HX := Lib.hid (HX.out.next hB)
    clear hB p0 p1 p2 p3 p4 p5 p6 p7 p8
    obtain ⟨p0, p1, p2, p3, p4, p5, p6, p7, p8⟩ := lay9 HX.out.1
    go_wp2
    all_goals (go_ret2; exact ⟨by rw [HM.out, HC.out]; try rfl, HX.out.2.2.1⟩)

set_option maxHeartbeats 2000000 in
theorem specAllows_any (X : Cf) (V : CfV) (sp : Int) (n : ByteArray) (w : World) (hn : n.size ≤ maxLen) (h : CfIn w X V) :
    Calls Try.prog 8 #[.agg #[.bool X.ha, .bool X.hb, .slice V.a1 X.al.length V.c1, .slice V.a2 X.rm.length V.c2, .slice V.a3 X.uw.length V.c3, .slice V.a4 X.at_.length V.c4, .slice V.a5 X.dp.length V.c5, .bool X.cm, .bool X.da], .int .i64 sp, .string n] w fun e w' => e = .returned (.tuple #[.bool (askAll X sp n), .int .i64 (askOf X sp n)]) ∧ Below w.heap.size w w' := by
  have HN := Lib.hid hn
  have HX := Lib.hid (CfBox.new h 31)
  obtain ⟨p0, p1, p2, p3, p4, p5, p6, p7, p8⟩ := lay9 HX.out.1
  clear h
  by_cases hl : (65536 : Int) < n.size
  · have HA : Hid (askOf X sp n = 2) := Lib.hid (by rw [askOf, if_pos hl])
    have HM : Hid (askAll X sp n = false) := Lib.hid (by rw [askAll, HA.out]; rfl)
    go_enter Try.func8, Try.ntmps8
    go_wp2
    all_goals (go_ret2; exact ⟨by rw [HM.out, HA.out]; try rfl, HX.out.2.2.1⟩)
  · by_cases hc : askOf X sp n = 0
    · have HC := Lib.hid hc
      have HM : Hid (askAll X sp n = allB X sp n) := Lib.hid (by rw [askAll, if_pos hc])
      clear hc
      go_enter Try.func8, Try.ntmps8
      go_wp2_with fail
      refine (l07AskName_any X V sp n _ HN.out HX.out.2.1).mono ?_
      rintro e w1 ⟨rfl, hB⟩
      rw [HC.out]
      have HX := Lib.hid (HX.out.next hB)
      clear hB p0 p1 p2 p3 p4 p5 p6 p7 p8
      obtain ⟨p0, p1, p2, p3, p4, p5, p6, p7, p8⟩ := lay9 HX.out.1
      go_wp2_with fail
      refine (l07Element_any X V sp n _ HX.out.2.1).mono ?_
      rintro e w2 ⟨rfl, hB⟩
      have HX := Lib.hid (HX.out.next hB)
      clear hB p0 p1 p2 p3 p4 p5 p6 p7 p8
      go_wp2
      all_goals (go_ret2; exact ⟨by rw [HM.out, HC.out]; try rfl, HX.out.2.2.1⟩)
    · have HM : Hid (askAll X sp n = false) := Lib.hid (by rw [askAll, if_neg hc])
      obtain ⟨cd, hcd⟩ : ∃ cd, askOf X sp n = cd := ⟨_, rfl⟩
      have HC := Lib.hid hcd
      rw [hcd] at hc
      clear hcd
      go_enter Try.func8, Try.ntmps8
      go_wp2_with fail
      refine (l07AskName_any X V sp n _ HN.out HX.out.2.1).mono ?_
      rintro e w1 ⟨rfl, hB⟩
      rw [HC.out]
      have HX := Lib.hid (HX.out.next hB)
      clear hB p0 p1 p2 p3 p4 p5 p6 p7 p8
      obtain ⟨p0, p1, p2, p3, p4, p5, p6, p7, p8⟩ := lay9 HX.out.1
      go_wp2
      all_goals (go_ret2; exact ⟨by rw [HM.out, HC.out]; try rfl, HX.out.2.2.1⟩)
end Go.Proofs.Ytnhifdffofpphab
