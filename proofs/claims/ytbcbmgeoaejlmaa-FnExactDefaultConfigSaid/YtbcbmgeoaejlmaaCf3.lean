
import Derived.Test.YtbcbmgeoaejlmaaCf2
namespace Go.Proofs.Ytbcbmgeoaejlmaa
open Go.ChangeShapes Go.WideShapes Go.ChangeAt Go.RowKit Go.Deep

theorem eqConfig_same (X : Cf) (V V' : CfV) (w : World) (h : CfIn w X V) (h' : CfIn w X V') :
    Calls Try.prog 21 #[.agg #[.bool X.ha, .bool X.hb, .slice V.a1 X.al.length V.c1, .slice V.a2 X.rm.length V.c2, .slice V.a3 X.uw.length V.c3, .slice V.a4 X.at_.length V.c4, .slice V.a5 X.dp.length V.c5, .bool X.cm, .bool X.da], .agg #[.bool X.ha, .bool X.hb, .slice V'.a1 X.al.length V'.c1, .slice V'.a2 X.rm.length V'.c2, .slice V'.a3 X.uw.length V'.c3, .slice V'.a4 X.at_.length V'.c4, .slice V'.a5 X.dp.length V'.c5, .bool X.cm, .bool X.da]] w fun e w' => e = .returned (.bool true) ∧ Below w.heap.size w w' := by
  obtain ⟨L1, L2, B3⟩ := two_lay (Below.refl (w.heap.size + 1 + 1) ((w.alloc (.cells #[.bool X.ha, .bool X.hb, .slice V.a1 X.al.length V.c1, .slice V.a2 X.rm.length V.c2, .slice V.a3 X.uw.length V.c3, .slice V.a4 X.at_.length V.c4, .slice V.a5 X.dp.length V.c5, .bool X.cm, .bool X.da] 34)).alloc (.cells #[.bool X.ha, .bool X.hb, .slice V'.a1 X.al.length V'.c1, .slice V'.a2 X.rm.length V'.c2, .slice V'.a3 X.uw.length V'.c3, .slice V'.a4 X.at_.length V'.c4, .slice V'.a5 X.dp.length V'.c5, .bool X.cm, .bool X.da] 34)))
  have HX : Hid (CfBox w ((w.alloc (.cells #[.bool X.ha, .bool X.hb, .slice V.a1 X.al.length V.c1, .slice V.a2 X.rm.length V.c2, .slice V.a3 X.uw.length V.c3, .slice V.a4 X.at_.length V.c4, .slice V.a5 X.dp.length V.c5, .bool X.cm, .bool X.da] 34)).alloc (.cells #[.bool X.ha, .bool X.hb, .slice V'.a1 X.al.length V'.c1, .slice V'.a2 X.rm.length V'.c2, .slice V'.a3 X.uw.length V'.c3, .slice V'.a4 X.at_.length V'.c4, .slice V'.a5 X.dp.length V'.c5, .bool X.cm, .bool X.da] 34)) w.heap.size X V) := Lib.hid ⟨L1, h.next B3, B3, by simp; omega⟩
  have HY : Hid (CfBox w ((w.alloc (.cells #[.bool X.ha, .bool X.hb, .slice V.a1 X.al.length V.c1, .slice V.a2 X.rm.length V.c2, .slice V.a3 X.uw.length V.c3, .slice V.a4 X.at_.length V.c4, .slice V.a5 X.dp.length V.c5, .bool X.cm, .bool X.da] 34)).alloc (.cells #[.bool X.ha, .bool X.hb, .slice V'.a1 X.al.length V'.c1, .slice V'.a2 X.rm.length V'.c2, .slice V'.a3 X.uw.length V'.c3, .slice V'.a4 X.at_.length V'.c4, .slice V'.a5 X.dp.length V'.c5, .bool X.cm, .bool X.da] 34)) (w.heap.size + 1) X V') := Lib.hid ⟨L2, h'.next B3, B3, by simp⟩
  clear h h' L1 L2 B3
  go_enter Try.func21, Try.ntmps21
  go_wp2_with fail
  refine (eqRuleS_same X.al _ V.a1 V'.a1 V.c1 V'.c1 HX.out.2.1.al HY.out.2.1.al).mono ?_
  rintro e w1 ⟨rfl, hB⟩
  have HX := Lib.hid (HX.out.next hB)
  have HY := Lib.hid (HY.out.next hB)
  clear hB
  obtain ⟨p0, p1, p2, p3, p4, p5, p6, p7, p8⟩ := lay9 HX.out.1
  obtain ⟨q0, q1, q2, q3, q4, q5, q6, q7, q8⟩ := lay9 HY.out.1
  go_wp2_with fail
  refine (eqRuleS_same X.rm _ V.a2 V'.a2 V.c2 V'.c2 HX.out.2.1.rm HY.out.2.1.rm).mono ?_
  rintro e w2 ⟨rfl, hB⟩
  have HX := Lib.hid (HX.out.next hB)
  have HY := Lib.hid (HY.out.next hB)
  clear p0 p1 p2 p3 p4 p5 p6 p7 p8 q0 q1 q2 q3 q4 q5 q6 q7 q8
  clear hB
  obtain ⟨p0, p1, p2, p3, p4, p5, p6, p7, p8⟩ := lay9 HX.out.1
  obtain ⟨q0, q1, q2, q3, q4, q5, q6, q7, q8⟩ := lay9 HY.out.1
  go_wp2_with fail
  refine (eqRuleS_same X.uw _ V.a3 V'.a3 V.c3 V'.c3 HX.out.2.1.uw HY.out.2.1.uw).mono ?_
  rintro e w3 ⟨rfl, hB⟩
  have HX := Lib.hid (HX.out.next hB)
  have HY := Lib.hid (HY.out.next hB)
  clear p0 p1 p2 p3 p4 p5 p6 p7 p8 q0 q1 q2 q3 q4 q5 q6 q7 q8
  clear hB
  obtain ⟨p0, p1, p2, p3, p4, p5, p6, p7, p8⟩ := lay9 HX.out.1
  obtain ⟨q0, q1, q2, q3, q4, q5, q6, q7, q8⟩ := lay9 HY.out.1
  go_wp2_with fail
  refine (eqNm_same X.at_ _ V.a4 V'.a4 V.c4 V'.c4 HX.out.2.1.at_ HY.out.2.1.at_).mono ?_
  rintro e w4 ⟨rfl, hB⟩
  have HX := Lib.hid (HX.out.next hB)
  have HY := Lib.hid (HY.out.next hB)
  clear p0 p1 p2 p3 p4 p5 p6 p7 p8 q0 q1 q2 q3 q4 q5 q6 q7 q8
  clear hB
  obtain ⟨p0, p1, p2, p3, p4, p5, p6, p7, p8⟩ := lay9 HX.out.1
  obtain ⟨q0, q1, q2, q3, q4, q5, q6, q7, q8⟩ := lay9 HY.out.1
  go_wp2_with fail
  refine (eqNm_same X.dp _ V.a5 V'.a5 V.c5 V'.c5 HX.out.2.1.dp HY.out.2.1.dp).mono ?_
  rintro e w5 ⟨rfl, hB⟩
  have HX := Lib.hid (HX.out.next hB)
  have HY := Lib.hid (HY.out.next hB)
  clear p0 p1 p2 p3 p4 p5 p6 p7 p8 q0 q1 q2 q3 q4 q5 q6 q7 q8
  clear hB
  obtain ⟨p0, p1, p2, p3, p4, p5, p6, p7, p8⟩ := lay9 HX.out.1
  obtain ⟨q0, q1, q2, q3, q4, q5, q6, q7, q8⟩ := lay9 HY.out.1
  go_wp2
  go_ret
  exact ⟨rfl, HX.out.2.2.1⟩
end Go.Proofs.Ytbcbmgeoaejlmaa
