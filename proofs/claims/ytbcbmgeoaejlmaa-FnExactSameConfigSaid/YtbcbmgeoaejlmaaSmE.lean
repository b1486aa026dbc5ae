
import Derived.Test.YtbcbmgeoaejlmaaSmD
namespace Go.Proofs.Ytbcbmgeoaejlmaa
open Go.ChangeShapes Go.WideShapes Go.ChangeAt Go.RowKit Go.Deep Go.Maps

set_option maxHeartbeats 4000000 in
theorem specSame_any (X Y : Cf) (V U : CfV) (w : World) (h : CfIn w X V) (h' : CfIn w Y U) :
    Calls Try.prog 22 #[.agg #[.bool X.ha, .bool X.hb, .slice V.a1 X.al.length V.c1, .slice V.a2 X.rm.length V.c2, .slice V.a3 X.uw.length V.c3, .slice V.a4 X.at_.length V.c4, .slice V.a5 X.dp.length V.c5, .bool X.cm, .bool X.da], .agg #[.bool Y.ha, .bool Y.hb, .slice U.a1 Y.al.length U.c1, .slice U.a2 Y.rm.length U.c2, .slice U.a3 Y.uw.length U.c3, .slice U.a4 Y.at_.length U.c4, .slice U.a5 Y.dp.length U.c5, .bool Y.cm, .bool Y.da]] w fun e w' => e = .returned (.bool (sameC X Y)) ∧ Below w.heap.size w w' := by
  have J0 := Lib.hid (Box2.new h h' 34)
  obtain ⟨p0, p1, p2, p3, p4, p5, p6, p7, p8⟩ := lay9 J0.out.1.1
  obtain ⟨q0, q1, q2, q3, q4, q5, q6, q7, q8⟩ := lay9 J0.out.2.1
  clear h h'
  obtain ⟨cd, hcd⟩ : ∃ cd, checkOf X = cd := ⟨_, rfl⟩
  have KC := Lib.hid hcd
  clear hcd
  obtain ⟨ce, hce⟩ : ∃ ce, checkOf Y = ce := ⟨_, rfl⟩
  have KE := Lib.hid hce
  clear hce
  by_cases hc : cd = 0
  rotate_left
  · have hc' : (cd == 0) = false := by simpa using hc
    have HM : Hid (sameC X Y = false) := Lib.hid (by rw [sameC, KC.out, hc']; rfl)
    clear hc
    go_enter Try.func22, Try.ntmps22
    go_wp2_with fail
    refine (l07Check_any X V _ J0.out.1.2.1).mono ?_
    rintro e w1 ⟨rfl, hB⟩
    rw [KC.out]
    have J0 := Lib.hid (J0.out.next hB)
    clear hB p0 p1 p2 p3 p4 p5 p6 p7 p8 q0 q1 q2 q3 q4 q5 q6 q7 q8
    obtain ⟨p0, p1, p2, p3, p4, p5, p6, p7, p8⟩ := lay9 J0.out.1.1
    obtain ⟨q0, q1, q2, q3, q4, q5, q6, q7, q8⟩ := lay9 J0.out.2.1
    go_wp2
    go_ret
    exact ⟨by rw [HM.out]; try rfl, J0.out.1.2.2.1⟩
  subst hc
  by_cases he : ce = 0
  rotate_left
  · have hc' : (ce == 0) = false := by simpa using he
    have HM : Hid (sameC X Y = false) := Lib.hid (by rw [sameC_two, KC.out, KE.out, hc']; rfl)
    clear he
    go_enter Try.func22, Try.ntmps22
    go_wp2_with fail
    refine (l07Check_any X V _ J0.out.1.2.1).mono ?_
    rintro e w1 ⟨rfl, hB⟩
    rw [KC.out]
    have J0 := Lib.hid (J0.out.next hB)
    clear hB p0 p1 p2 p3 p4 p5 p6 p7 p8 q0 q1 q2 q3 q4 q5 q6 q7 q8
    obtain ⟨p0, p1, p2, p3, p4, p5, p6, p7, p8⟩ := lay9 J0.out.1.1
    obtain ⟨q0, q1, q2, q3, q4, q5, q6, q7, q8⟩ := lay9 J0.out.2.1
    go_wp2_with fail
    refine (l07Check_any Y U _ J0.out.2.2.1).mono ?_
    rintro e w1 ⟨rfl, hB⟩
    rw [KE.out]
    have J0 := Lib.hid (J0.out.next hB)
    clear hB p0 p1 p2 p3 p4 p5 p6 p7 p8 q0 q1 q2 q3 q4 q5 q6 q7 q8
    obtain ⟨p0, p1, p2, p3, p4, p5, p6, p7, p8⟩ := lay9 J0.out.1.1
    obtain ⟨q0, q1, q2, q3, q4, q5, q6, q7, q8⟩ := lay9 J0.out.2.1
    go_wp2
    go_ret
    exact ⟨by rw [HM.out]; try rfl, J0.out.1.2.2.1⟩
  subst he
  have HM : Hid (sameC X Y = eqCf X Y) := Lib.hid (by rw [sameC, KC.out]; rfl)
  go_enter Try.func22, Try.ntmps22
  go_wp2_with fail
  refine (l07Check_any X V _ J0.out.1.2.1).mono ?_
  rintro e w1 ⟨rfl, hB⟩
  rw [KC.out]
  have J0 := Lib.hid (J0.out.next hB)
  clear hB p0 p1 p2 p3 p4 p5 p6 p7 p8 q0 q1 q2 q3 q4 q5 q6 q7 q8
  obtain ⟨p0, p1, p2, p3, p4, p5, p6, p7, p8⟩ := lay9 J0.out.1.1
  obtain ⟨q0, q1, q2, q3, q4, q5, q6, q7, q8⟩ := lay9 J0.out.2.1
  go_wp2_with fail
  refine (l07Check_any Y U _ J0.out.2.2.1).mono ?_
  rintro e w1 ⟨rfl, hB⟩
  rw [KE.out]
  have J0 := Lib.hid (J0.out.next hB)
  clear hB p0 p1 p2 p3 p4 p5 p6 p7 p8 q0 q1 q2 q3 q4 q5 q6 q7 q8
  obtain ⟨p0, p1, p2, p3, p4, p5, p6, p7, p8⟩ := lay9 J0.out.1.1
  obtain ⟨q0, q1, q2, q3, q4, q5, q6, q7, q8⟩ := lay9 J0.out.2.1
  go_wp2_with fail
  refine (l07Same_any X Y V U _ J0.out.1.2.1 J0.out.2.2.1).mono ?_
  rintro e w1 ⟨rfl, hB⟩
  have J0 := Lib.hid (J0.out.next hB)
  clear hB p0 p1 p2 p3 p4 p5 p6 p7 p8 q0 q1 q2 q3 q4 q5 q6 q7 q8
  obtain ⟨p0, p1, p2, p3, p4, p5, p6, p7, p8⟩ := lay9 J0.out.1.1
  obtain ⟨q0, q1, q2, q3, q4, q5, q6, q7, q8⟩ := lay9 J0.out.2.1
  go_wp2
  go_ret
  exact ⟨by rw [HM.out]; try rfl, J0.out.1.2.2.1⟩
end Go.Proofs.Ytbcbmgeoaejlmaa
