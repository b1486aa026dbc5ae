
import Derived.Test.YtbcbmgeoaejlmaaSmC
import Derived.Test.YtbcbmgeoaejlmaaCfG
import Derived.Test.YtbcbmgeoaejlmaaCfE
import Derived.Deep.RegionHeld3
namespace Go.Proofs.Ytbcbmgeoaejlmaa
open Go.ChangeShapes Go.WideShapes Go.ChangeAt Go.RowKit Go.Deep Go.Maps

theorem sameRule_fn : RuEq Try.prog 75 := fun x y W B C cc dd _ _ hN _ _ hM => sameRule_any x y W B C cc dd hN hM

set_option maxHeartbeats 8000000 in
theorem implSame_any (X Y : Cf) (V U : CfV) (w : World) (h : CfIn w X V) (h' : CfIn w Y U) :
    Calls Try.prog 23 #[.agg #[.bool X.ha, .bool X.hb, .slice V.a1 X.al.length V.c1, .slice V.a2 X.rm.length V.c2, .slice V.a3 X.uw.length V.c3, .slice V.a4 X.at_.length V.c4, .slice V.a5 X.dp.length V.c5, .bool X.cm, .bool X.da], .agg #[.bool Y.ha, .bool Y.hb, .slice U.a1 Y.al.length U.c1, .slice U.a2 Y.rm.length U.c2, .slice U.a3 Y.uw.length U.c3, .slice U.a4 Y.at_.length U.c4, .slice U.a5 Y.dp.length U.c5, .bool Y.cm, .bool Y.da]] w fun e w' => e = .returned (.bool (sameC X Y)) ∧ Below w.heap.size w w' := by
  have hmf : ∀ (fn : Fn) (first cap : Array Value) (w : World), (Instr.makeFunc fn first cap).run Try.prog w = .ok (.func fn first cap) w := fun _ _ _ _ => rfl
  have J0 := Lib.hid (Box2.new h h' 34)
  obtain ⟨p0, p1, p2, p3, p4, p5, p6, p7, p8⟩ := lay9 J0.out.1.1
  obtain ⟨q0, q1, q2, q3, q4, q5, q6, q7, q8⟩ := lay9 J0.out.2.1
  clear h h'
  obtain ⟨cd, hcd⟩ : ∃ cd, checkOf X = cd := ⟨_, rfl⟩
  have KC := Lib.hid hcd
  clear hcd
  by_cases hc : cd = 0
  rotate_left
  · have hc' : (cd == 0) = false := by simpa using hc
    have HM : Hid (sameC X Y = false) := Lib.hid (by rw [sameC, KC.out, hc']; rfl)
    clear hc
    go_enter Try.func23, Try.ntmps23
    go_wp2_with fail
    refine (implCheck_any X V _ J0.out.1.2.1).mono ?_
    rintro e w1 ⟨rfl, hB⟩
    rw [KC.out]
    have J0 := Lib.hid (J0.out.next hB)
    clear hB p0 p1 p2 p3 p4 p5 p6 p7 p8 q0 q1 q2 q3 q4 q5 q6 q7 q8
    obtain ⟨p0, p1, p2, p3, p4, p5, p6, p7, p8⟩ := lay9 J0.out.1.1
    obtain ⟨q0, q1, q2, q3, q4, q5, q6, q7, q8⟩ := lay9 J0.out.2.1
    go_wp2
    go_ret
    exact ⟨by rw [HM.out]; try rfl, J0.out.1.2.2.1⟩
  subst hc
  have Kha0 : (X.ha == Y.ha) = false ∨ (X.ha == Y.ha) = true := by cases (X.ha == Y.ha) <;> simp
  rcases Kha0 with Kha0 | Kha0
  · have Kha := Lib.hid Kha0
    have HM : Hid (sameC X Y = false) := Lib.hid (by simp [sameC, eqCf, Kha0])
    go_enter Try.func23, Try.ntmps23
    go_wp2_with fail
    refine (implCheck_any X V _ J0.out.1.2.1).mono ?_
    rintro e w1 ⟨rfl, hB⟩
    rw [KC.out]
    have J0 := Lib.hid (J0.out.next hB)
    clear hB p0 p1 p2 p3 p4 p5 p6 p7 p8 q0 q1 q2 q3 q4 q5 q6 q7 q8
    obtain ⟨p0, p1, p2, p3, p4, p5, p6, p7, p8⟩ := lay9 J0.out.1.1
    obtain ⟨q0, q1, q2, q3, q4, q5, q6, q7, q8⟩ := lay9 J0.out.2.1
    go_wp2
    go_ret
    exact ⟨by rw [HM.out]; try rfl, J0.out.1.2.2.1⟩
  have Kha := Lib.hid Kha0
  have Khb0 : (X.hb == Y.hb) = false ∨ (X.hb == Y.hb) = true := by cases (X.hb == Y.hb) <;> simp
  rcases Khb0 with Khb0 | Khb0
  · have Khb := Lib.hid Khb0
    have HM : Hid (sameC X Y = false) := Lib.hid (by simp [sameC, eqCf, Khb0])
    go_enter Try.func23, Try.ntmps23
    go_wp2_with fail
    refine (implCheck_any X V _ J0.out.1.2.1).mono ?_
    rintro e w1 ⟨rfl, hB⟩
    rw [KC.out]
    have J0 := Lib.hid (J0.out.next hB)
    clear hB p0 p1 p2 p3 p4 p5 p6 p7 p8 q0 q1 q2 q3 q4 q5 q6 q7 q8
    obtain ⟨p0, p1, p2, p3, p4, p5, p6, p7, p8⟩ := lay9 J0.out.1.1
    obtain ⟨q0, q1, q2, q3, q4, q5, q6, q7, q8⟩ := lay9 J0.out.2.1
    go_wp2
    go_ret
    exact ⟨by rw [HM.out]; try rfl, J0.out.1.2.2.1⟩
  have Khb := Lib.hid Khb0
  have Kcm0 : (X.cm == Y.cm) = false ∨ (X.cm == Y.cm) = true := by cases (X.cm == Y.cm) <;> simp
  rcases Kcm0 with Kcm0 | Kcm0
  · have Kcm := Lib.hid Kcm0
    have HM : Hid (sameC X Y = false) := Lib.hid (by simp [sameC, eqCf, Kcm0])
    go_enter Try.func23, Try.ntmps23
    go_wp2_with fail
    refine (implCheck_any X V _ J0.out.1.2.1).mono ?_
    rintro e w1 ⟨rfl, hB⟩
    rw [KC.out]
    have J0 := Lib.hid (J0.out.next hB)
    clear hB p0 p1 p2 p3 p4 p5 p6 p7 p8 q0 q1 q2 q3 q4 q5 q6 q7 q8
    obtain ⟨p0, p1, p2, p3, p4, p5, p6, p7, p8⟩ := lay9 J0.out.1.1
    obtain ⟨q0, q1, q2, q3, q4, q5, q6, q7, q8⟩ := lay9 J0.out.2.1
    go_wp2
    go_ret
    exact ⟨by rw [HM.out]; try rfl, J0.out.1.2.2.1⟩
  have Kcm := Lib.hid Kcm0
  have Kda0 : (X.da == Y.da) = false ∨ (X.da == Y.da) = true := by cases (X.da == Y.da) <;> simp
  rcases Kda0 with Kda0 | Kda0
  · have Kda := Lib.hid Kda0
    have HM : Hid (sameC X Y = false) := Lib.hid (by simp [sameC, eqCf, Kda0])
    go_enter Try.func23, Try.ntmps23
    go_wp2_with fail
    refine (implCheck_any X V _ J0.out.1.2.1).mono ?_
    rintro e w1 ⟨rfl, hB⟩
    rw [KC.out]
    have J0 := Lib.hid (J0.out.next hB)
    clear hB p0 p1 p2 p3 p4 p5 p6 p7 p8 q0 q1 q2 q3 q4 q5 q6 q7 q8
    obtain ⟨p0, p1, p2, p3, p4, p5, p6, p7, p8⟩ := lay9 J0.out.1.1
    obtain ⟨q0, q1, q2, q3, q4, q5, q6, q7, q8⟩ := lay9 J0.out.2.1
    go_wp2
    go_ret
    exact ⟨by rw [HM.out]; try rfl, J0.out.1.2.2.1⟩
  have Kda := Lib.hid Kda0
  have Kal0 : eqB X.al Y.al = false ∨ eqB X.al Y.al = true := by cases eqB X.al Y.al <;> simp
  rcases Kal0 with Kal0 | Kal0
  · have Kal := Lib.hid Kal0
    have HM : Hid (sameC X Y = false) := Lib.hid (by simp [sameC, eqCf, Kal0])
    clear Kal0
    go_enter Try.func23, Try.ntmps23
    go_wp2_with fail
    refine (implCheck_any X V _ J0.out.1.2.1).mono ?_
    rintro e w1 ⟨rfl, hB⟩
    rw [KC.out]
    have J0 := Lib.hid (J0.out.next hB)
    clear hB p0 p1 p2 p3 p4 p5 p6 p7 p8 q0 q1 q2 q3 q4 q5 q6 q7 q8
    obtain ⟨p0, p1, p2, p3, p4, p5, p6, p7, p8⟩ := lay9 J0.out.1.1
    obtain ⟨q0, q1, q2, q3, q4, q5, q6, q7, q8⟩ := lay9 J0.out.2.1
    go_wp2_with fail
    refine (ruEqualFunc_any 75 (enters_of Try.func75 (by kernel_rfl) rfl) X.al Y.al _ V.a1 U.a1 V.c1 U.c1 J0.out.1.2.1.al J0.out.2.2.1.al sameRule_fn).mono ?_
    rintro e w1 ⟨rfl, hB⟩
    rw [Kal.out]
    have J0 := Lib.hid (J0.out.next hB)
    clear hB p0 p1 p2 p3 p4 p5 p6 p7 p8 q0 q1 q2 q3 q4 q5 q6 q7 q8
    obtain ⟨p0, p1, p2, p3, p4, p5, p6, p7, p8⟩ := lay9 J0.out.1.1
    obtain ⟨q0, q1, q2, q3, q4, q5, q6, q7, q8⟩ := lay9 J0.out.2.1
    go_wp2
    go_ret
    exact ⟨by rw [HM.out]; try rfl, J0.out.1.2.2.1⟩
  have Kal := Lib.hid Kal0
  clear Kal0
  have Krm0 : eqB X.rm Y.rm = false ∨ eqB X.rm Y.rm = true := by cases eqB X.rm Y.rm <;> simp
  rcases Krm0 with Krm0 | Krm0
  · have Krm := Lib.hid Krm0
    have HM : Hid (sameC X Y = false) := Lib.hid (by simp [sameC, eqCf, Krm0])
    clear Krm0
    go_enter Try.func23, Try.ntmps23
    go_wp2_with fail
    refine (implCheck_any X V _ J0.out.1.2.1).mono ?_
    rintro e w1 ⟨rfl, hB⟩
    rw [KC.out]
    have J0 := Lib.hid (J0.out.next hB)
    clear hB p0 p1 p2 p3 p4 p5 p6 p7 p8 q0 q1 q2 q3 q4 q5 q6 q7 q8
    obtain ⟨p0, p1, p2, p3, p4, p5, p6, p7, p8⟩ := lay9 J0.out.1.1
    obtain ⟨q0, q1, q2, q3, q4, q5, q6, q7, q8⟩ := lay9 J0.out.2.1
    go_wp2_with fail
    refine (ruEqualFunc_any 75 (enters_of Try.func75 (by kernel_rfl) rfl) X.al Y.al _ V.a1 U.a1 V.c1 U.c1 J0.out.1.2.1.al J0.out.2.2.1.al sameRule_fn).mono ?_
    rintro e w1 ⟨rfl, hB⟩
    rw [Kal.out]
    have J0 := Lib.hid (J0.out.next hB)
    clear hB p0 p1 p2 p3 p4 p5 p6 p7 p8 q0 q1 q2 q3 q4 q5 q6 q7 q8
    obtain ⟨p0, p1, p2, p3, p4, p5, p6, p7, p8⟩ := lay9 J0.out.1.1
    obtain ⟨q0, q1, q2, q3, q4, q5, q6, q7, q8⟩ := lay9 J0.out.2.1
    go_wp2_with fail
    refine (ruEqualFunc_any 75 (enters_of Try.func75 (by kernel_rfl) rfl) X.rm Y.rm _ V.a2 U.a2 V.c2 U.c2 J0.out.1.2.1.rm J0.out.2.2.1.rm sameRule_fn).mono ?_
    rintro e w1 ⟨rfl, hB⟩
    rw [Krm.out]
    have J0 := Lib.hid (J0.out.next hB)
    clear hB p0 p1 p2 p3 p4 p5 p6 p7 p8 q0 q1 q2 q3 q4 q5 q6 q7 q8
    obtain ⟨p0, p1, p2, p3, p4, p5, p6, p7, p8⟩ := lay9 J0.out.1.1
    obtain ⟨q0, q1, q2, q3, q4, q5, q6, q7, q8⟩ := lay9 J0.out.2.1
    go_wp2
    go_ret
    exact ⟨by rw [HM.out]; try rfl, J0.out.1.2.2.1⟩
  have Krm := Lib.hid Krm0
  clear Krm0
  have Kuw0 : eqB X.uw Y.uw = false ∨ eqB X.uw Y.uw = true := by cases eqB X.uw Y.uw <;> simp
  rcases Kuw0 with Kuw0 | Kuw0
  · have Kuw := Lib.hid Kuw0
    have HM : Hid (sameC X Y = false) := Lib.hid (by simp [sameC, eqCf, Kuw0])
    clear Kuw0
    go_enter Try.func23, Try.ntmps23
    go_wp2_with fail
    refine (implCheck_any X V _ J0.out.1.2.1).mono ?_
    rintro e w1 ⟨rfl, hB⟩
    rw [KC.out]
    have J0 := Lib.hid (J0.out.next hB)
    clear hB p0 p1 p2 p3 p4 p5 p6 p7 p8 q0 q1 q2 q3 q4 q5 q6 q7 q8
    obtain ⟨p0, p1, p2, p3, p4, p5, p6, p7, p8⟩ := lay9 J0.out.1.1
    obtain ⟨q0, q1, q2, q3, q4, q5, q6, q7, q8⟩ := lay9 J0.out.2.1
    go_wp2_with fail
    refine (ruEqualFunc_any 75 (enters_of Try.func75 (by kernel_rfl) rfl) X.al Y.al _ V.a1 U.a1 V.c1 U.c1 J0.out.1.2.1.al J0.out.2.2.1.al sameRule_fn).mono ?_
    rintro e w1 ⟨rfl, hB⟩
    rw [Kal.out]
    have J0 := Lib.hid (J0.out.next hB)
    clear hB p0 p1 p2 p3 p4 p5 p6 p7 p8 q0 q1 q2 q3 q4 q5 q6 q7 q8
    obtain ⟨p0, p1, p2, p3, p4, p5, p6, p7, p8⟩ := lay9 J0.out.1.1
    obtain ⟨q0, q1, q2, q3, q4, q5, q6, q7, q8⟩ := lay9 J0.out.2.1
    go_wp2_with fail
    refine (ruEqualFunc_any 75 (enters_of Try.func75 (by kernel_rfl) rfl) X.rm Y.rm _ V.a2 U.a2 V.c2 U.c2 J0.out.1.2.1.rm J0.out.2.2.1.rm sameRule_fn).mono ?_
    rintro e w1 ⟨rfl, hB⟩
    rw [Krm.out]
    have J0 := Lib.hid (J0.out.next hB)
    clear hB p0 p1 p2 p3 p4 p5 p6 p7 p8 q0 q1 q2 q3 q4 q5 q6 q7 q8
    obtain ⟨p0, p1, p2, p3, p4, p5, p6, p7, p8⟩ := lay9 J0.out.1.1
    obtain ⟨q0, q1, q2, q3, q4, q5, q6, q7, q8⟩ := lay9 J0.out.2.1
    go_wp2_with fail
    refine (ruEqualFunc_any 75 (enters_of Try.func75 (by kernel_rfl) rfl) X.uw Y.uw _ V.a3 U.a3 V.c3 U.c3 J0.out.1.2.1.uw J0.out.2.2.1.uw sameRule_fn).mono ?_
    rintro e w1 ⟨rfl, hB⟩
    rw [Kuw.out]
    have J0 := Lib.hid (J0.out.next hB)
    clear hB p0 p1 p2 p3 p4 p5 p6 p7 p8 q0 q1 q2 q3 q4 q5 q6 q7 q8
    obtain ⟨p0, p1, p2, p3, p4, p5, p6, p7, p8⟩ := lay9 J0.out.1.1
    obtain ⟨q0, q1, q2, q3, q4, q5, q6, q7, q8⟩ := lay9 J0.out.2.1
    go_wp2
    go_ret
    exact ⟨by rw [HM.out]; try rfl, J0.out.1.2.2.1⟩
  have Kuw := Lib.hid Kuw0
  clear Kuw0
  have Kat_0 : eqB X.at_ Y.at_ = false ∨ eqB X.at_ Y.at_ = true := by cases eqB X.at_ Y.at_ <;> simp
  rcases Kat_0 with Kat_0 | Kat_0
  · have Kat_ := Lib.hid Kat_0
    have HM : Hid (sameC X Y = false) := Lib.hid (by simp [sameC, eqCf, Kat_0])
    clear Kat_0
    go_enter Try.func23, Try.ntmps23
    go_wp2_with fail
    refine (implCheck_any X V _ J0.out.1.2.1).mono ?_
    rintro e w1 ⟨rfl, hB⟩
    rw [KC.out]
    have J0 := Lib.hid (J0.out.next hB)
    clear hB p0 p1 p2 p3 p4 p5 p6 p7 p8 q0 q1 q2 q3 q4 q5 q6 q7 q8
    obtain ⟨p0, p1, p2, p3, p4, p5, p6, p7, p8⟩ := lay9 J0.out.1.1
    obtain ⟨q0, q1, q2, q3, q4, q5, q6, q7, q8⟩ := lay9 J0.out.2.1
    go_wp2_with fail
    refine (ruEqualFunc_any 75 (enters_of Try.func75 (by kernel_rfl) rfl) X.al Y.al _ V.a1 U.a1 V.c1 U.c1 J0.out.1.2.1.al J0.out.2.2.1.al sameRule_fn).mono ?_
    rintro e w1 ⟨rfl, hB⟩
    rw [Kal.out]
    have J0 := Lib.hid (J0.out.next hB)
    clear hB p0 p1 p2 p3 p4 p5 p6 p7 p8 q0 q1 q2 q3 q4 q5 q6 q7 q8
    obtain ⟨p0, p1, p2, p3, p4, p5, p6, p7, p8⟩ := lay9 J0.out.1.1
    obtain ⟨q0, q1, q2, q3, q4, q5, q6, q7, q8⟩ := lay9 J0.out.2.1
    go_wp2_with fail
    refine (ruEqualFunc_any 75 (enters_of Try.func75 (by kernel_rfl) rfl) X.rm Y.rm _ V.a2 U.a2 V.c2 U.c2 J0.out.1.2.1.rm J0.out.2.2.1.rm sameRule_fn).mono ?_
    rintro e w1 ⟨rfl, hB⟩
    rw [Krm.out]
    have J0 := Lib.hid (J0.out.next hB)
    clear hB p0 p1 p2 p3 p4 p5 p6 p7 p8 q0 q1 q2 q3 q4 q5 q6 q7 q8
    obtain ⟨p0, p1, p2, p3, p4, p5, p6, p7, p8⟩ := lay9 J0.out.1.1
    obtain ⟨q0, q1, q2, q3, q4, q5, q6, q7, q8⟩ := lay9 J0.out.2.1
    go_wp2_with fail
    refine (ruEqualFunc_any 75 (enters_of Try.func75 (by kernel_rfl) rfl) X.uw Y.uw _ V.a3 U.a3 V.c3 U.c3 J0.out.1.2.1.uw J0.out.2.2.1.uw sameRule_fn).mono ?_
    rintro e w1 ⟨rfl, hB⟩
    rw [Kuw.out]
    have J0 := Lib.hid (J0.out.next hB)
    clear hB p0 p1 p2 p3 p4 p5 p6 p7 p8 q0 q1 q2 q3 q4 q5 q6 q7 q8
    obtain ⟨p0, p1, p2, p3, p4, p5, p6, p7, p8⟩ := lay9 J0.out.1.1
    obtain ⟨q0, q1, q2, q3, q4, q5, q6, q7, q8⟩ := lay9 J0.out.2.1
    go_wp2_with fail
    refine (slicesEqual_any X.at_ Y.at_ _ V.a4 U.a4 V.c4 U.c4 J0.out.1.2.1.at_ J0.out.2.2.1.at_).mono ?_
    rintro e w1 ⟨rfl, hB⟩
    rw [Kat_.out]
    have J0 := Lib.hid (J0.out.next hB)
    clear hB p0 p1 p2 p3 p4 p5 p6 p7 p8 q0 q1 q2 q3 q4 q5 q6 q7 q8
    obtain ⟨p0, p1, p2, p3, p4, p5, p6, p7, p8⟩ := lay9 J0.out.1.1
    obtain ⟨q0, q1, q2, q3, q4, q5, q6, q7, q8⟩ := lay9 J0.out.2.1
    go_wp2
    go_ret
    exact ⟨by rw [HM.out]; try rfl, J0.out.1.2.2.1⟩
  have Kat_ := Lib.hid Kat_0
  clear Kat_0
  have Kdp0 : eqB X.dp Y.dp = false ∨ eqB X.dp Y.dp = true := by cases eqB X.dp Y.dp <;> simp
  rcases Kdp0 with Kdp0 | Kdp0
  · have Kdp := Lib.hid Kdp0
    have HM : Hid (sameC X Y = false) := Lib.hid (by simp [sameC, eqCf, Kdp0])
    clear Kdp0
    go_enter Try.func23, Try.ntmps23
    go_wp2_with fail
    refine (implCheck_any X V _ J0.out.1.2.1).mono ?_
    rintro e w1 ⟨rfl, hB⟩
    rw [KC.out]
    have J0 := Lib.hid (J0.out.next hB)
    clear hB p0 p1 p2 p3 p4 p5 p6 p7 p8 q0 q1 q2 q3 q4 q5 q6 q7 q8
    obtain ⟨p0, p1, p2, p3, p4, p5, p6, p7, p8⟩ := lay9 J0.out.1.1
    obtain ⟨q0, q1, q2, q3, q4, q5, q6, q7, q8⟩ := lay9 J0.out.2.1
    go_wp2_with fail
    refine (ruEqualFunc_any 75 (enters_of Try.func75 (by kernel_rfl) rfl) X.al Y.al _ V.a1 U.a1 V.c1 U.c1 J0.out.1.2.1.al J0.out.2.2.1.al sameRule_fn).mono ?_
    rintro e w1 ⟨rfl, hB⟩
    rw [Kal.out]
    have J0 := Lib.hid (J0.out.next hB)
    clear hB p0 p1 p2 p3 p4 p5 p6 p7 p8 q0 q1 q2 q3 q4 q5 q6 q7 q8
    obtain ⟨p0, p1, p2, p3, p4, p5, p6, p7, p8⟩ := lay9 J0.out.1.1
    obtain ⟨q0, q1, q2, q3, q4, q5, q6, q7, q8⟩ := lay9 J0.out.2.1
    go_wp2_with fail
    refine (ruEqualFunc_any 75 (enters_of Try.func75 (by kernel_rfl) rfl) X.rm Y.rm _ V.a2 U.a2 V.c2 U.c2 J0.out.1.2.1.rm J0.out.2.2.1.rm sameRule_fn).mono ?_
    rintro e w1 ⟨rfl, hB⟩
    rw [Krm.out]
    have J0 := Lib.hid (J0.out.next hB)
    clear hB p0 p1 p2 p3 p4 p5 p6 p7 p8 q0 q1 q2 q3 q4 q5 q6 q7 q8
    obtain ⟨p0, p1, p2, p3, p4, p5, p6, p7, p8⟩ := lay9 J0.out.1.1
    obtain ⟨q0, q1, q2, q3, q4, q5, q6, q7, q8⟩ := lay9 J0.out.2.1
    go_wp2_with fail
    refine (ruEqualFunc_any 75 (enters_of Try.func75 (by kernel_rfl) rfl) X.uw Y.uw _ V.a3 U.a3 V.c3 U.c3 J0.out.1.2.1.uw J0.out.2.2.1.uw sameRule_fn).mono ?_
    rintro e w1 ⟨rfl, hB⟩
    rw [Kuw.out]
    have J0 := Lib.hid (J0.out.next hB)
    clear hB p0 p1 p2 p3 p4 p5 p6 p7 p8 q0 q1 q2 q3 q4 q5 q6 q7 q8
    obtain ⟨p0, p1, p2, p3, p4, p5, p6, p7, p8⟩ := lay9 J0.out.1.1
    obtain ⟨q0, q1, q2, q3, q4, q5, q6, q7, q8⟩ := lay9 J0.out.2.1
    go_wp2_with fail
    refine (slicesEqual_any X.at_ Y.at_ _ V.a4 U.a4 V.c4 U.c4 J0.out.1.2.1.at_ J0.out.2.2.1.at_).mono ?_
    rintro e w1 ⟨rfl, hB⟩
    rw [Kat_.out]
    have J0 := Lib.hid (J0.out.next hB)
    clear hB p0 p1 p2 p3 p4 p5 p6 p7 p8 q0 q1 q2 q3 q4 q5 q6 q7 q8
    obtain ⟨p0, p1, p2, p3, p4, p5, p6, p7, p8⟩ := lay9 J0.out.1.1
    obtain ⟨q0, q1, q2, q3, q4, q5, q6, q7, q8⟩ := lay9 J0.out.2.1
    go_wp2_with fail
    refine (slicesEqual_any X.dp Y.dp _ V.a5 U.a5 V.c5 U.c5 J0.out.1.2.1.dp J0.out.2.2.1.dp).mono ?_
    rintro e w1 ⟨rfl, hB⟩
    rw [Kdp.out]
    have J0 := Lib.hid (J0.out.next hB)
    clear hB p0 p1 p2 p3 p4 p5 p6 p7 p8 q0 q1 q2 q3 q4 q5 q6 q7 q8
    obtain ⟨p0, p1, p2, p3, p4, p5, p6, p7, p8⟩ := lay9 J0.out.1.1
    obtain ⟨q0, q1, q2, q3, q4, q5, q6, q7, q8⟩ := lay9 J0.out.2.1
    go_wp2
    go_ret
    exact ⟨by rw [HM.out]; try rfl, J0.out.1.2.2.1⟩
  have Kdp := Lib.hid Kdp0
  clear Kdp0
  have HM : Hid (sameC X Y = true) := Lib.hid (by simp only [sameC, eqCf, Kha.out, Khb.out, Kcm.out, Kda.out, Kal.out, Krm.out, Kuw.out, Kat_.out, Kdp.out, KC.out]; rfl)
  go_enter Try.func23, Try.ntmps23
  go_wp2_with fail
  refine (implCheck_any X V _ J0.out.1.2.1).mono ?_
  rintro e w1 ⟨rfl, hB⟩
  rw [KC.out]
  have J0 := Lib.hid (J0.out.next hB)
  clear hB p0 p1 p2 p3 p4 p5 p6 p7 p8 q0 q1 q2 q3 q4 q5 q6 q7 q8
  obtain ⟨p0, p1, p2, p3, p4, p5, p6, p7, p8⟩ := lay9 J0.out.1.1
  obtain ⟨q0, q1, q2, q3, q4, q5, q6, q7, q8⟩ := lay9 J0.out.2.1
  go_wp2_with fail
  refine (ruEqualFunc_any 75 (enters_of Try.func75 (by kernel_rfl) rfl) X.al Y.al _ V.a1 U.a1 V.c1 U.c1 J0.out.1.2.1.al J0.out.2.2.1.al sameRule_fn).mono ?_
  rintro e w1 ⟨rfl, hB⟩
  rw [Kal.out]
  have J0 := Lib.hid (J0.out.next hB)
  clear hB p0 p1 p2 p3 p4 p5 p6 p7 p8 q0 q1 q2 q3 q4 q5 q6 q7 q8
  obtain ⟨p0, p1, p2, p3, p4, p5, p6, p7, p8⟩ := lay9 J0.out.1.1
  obtain ⟨q0, q1, q2, q3, q4, q5, q6, q7, q8⟩ := lay9 J0.out.2.1
  go_wp2_with fail
  refine (ruEqualFunc_any 75 (enters_of Try.func75 (by kernel_rfl) rfl) X.rm Y.rm _ V.a2 U.a2 V.c2 U.c2 J0.out.1.2.1.rm J0.out.2.2.1.rm sameRule_fn).mono ?_
  rintro e w1 ⟨rfl, hB⟩
  rw [Krm.out]
  have J0 := Lib.hid (J0.out.next hB)
  clear hB p0 p1 p2 p3 p4 p5 p6 p7 p8 q0 q1 q2 q3 q4 q5 q6 q7 q8
  obtain ⟨p0, p1, p2, p3, p4, p5, p6, p7, p8⟩ := lay9 J0.out.1.1
  obtain ⟨q0, q1, q2, q3, q4, q5, q6, q7, q8⟩ := lay9 J0.out.2.1
  go_wp2_with fail
  refine (ruEqualFunc_any 75 (enters_of Try.func75 (by kernel_rfl) rfl) X.uw Y.uw _ V.a3 U.a3 V.c3 U.c3 J0.out.1.2.1.uw J0.out.2.2.1.uw sameRule_fn).mono ?_
  rintro e w1 ⟨rfl, hB⟩
  rw [Kuw.out]
  have J0 := Lib.hid (J0.out.next hB)
  clear hB p0 p1 p2 p3 p4 p5 p6 p7 p8 q0 q1 q2 q3 q4 q5 q6 q7 q8
  obtain ⟨p0, p1, p2, p3, p4, p5, p6, p7, p8⟩ := lay9 J0.out.1.1
  obtain ⟨q0, q1, q2, q3, q4, q5, q6, q7, q8⟩ := lay9 J0.out.2.1
  go_wp2_with fail
  refine (slicesEqual_any X.at_ Y.at_ _ V.a4 U.a4 V.c4 U.c4 J0.out.1.2.1.at_ J0.out.2.2.1.at_).mono ?_
  rintro e w1 ⟨rfl, hB⟩
  rw [Kat_.out]
  have J0 := Lib.hid (J0.out.next hB)
  clear hB p0 p1 p2 p3 p4 p5 p6 p7 p8 q0 q1 q2 q3 q4 q5 q6 q7 q8
  obtain ⟨p0, p1, p2, p3, p4, p5, p6, p7, p8⟩ := lay9 J0.out.1.1
  obtain ⟨q0, q1, q2, q3, q4, q5, q6, q7, q8⟩ := lay9 J0.out.2.1
  go_wp2_with fail
  refine (slicesEqual_any X.dp Y.dp _ V.a5 U.a5 V.c5 U.c5 J0.out.1.2.1.dp J0.out.2.2.1.dp).mono ?_
  rintro e w1 ⟨rfl, hB⟩
  rw [Kdp.out]
  have J0 := Lib.hid (J0.out.next hB)
  clear hB p0 p1 p2 p3 p4 p5 p6 p7 p8 q0 q1 q2 q3 q4 q5 q6 q7 q8
  obtain ⟨p0, p1, p2, p3, p4, p5, p6, p7, p8⟩ := lay9 J0.out.1.1
  obtain ⟨q0, q1, q2, q3, q4, q5, q6, q7, q8⟩ := lay9 J0.out.2.1
  go_wp2
  go_ret
  exact ⟨by rw [HM.out]; try rfl, J0.out.1.2.2.1⟩

set_option maxHeartbeats 8000000 in
theorem l07Same_any (X Y : Cf) (V U : CfV) (w : World) (h : CfIn w X V) (h' : CfIn w Y U) :
    Calls Try.prog 72 #[.agg #[.bool X.ha, .bool X.hb, .slice V.a1 X.al.length V.c1, .slice V.a2 X.rm.length V.c2, .slice V.a3 X.uw.length V.c3, .slice V.a4 X.at_.length V.c4, .slice V.a5 X.dp.length V.c5, .bool X.cm, .bool X.da], .agg #[.bool Y.ha, .bool Y.hb, .slice U.a1 Y.al.length U.c1, .slice U.a2 Y.rm.length U.c2, .slice U.a3 Y.uw.length U.c3, .slice U.a4 Y.at_.length U.c4, .slice U.a5 Y.dp.length U.c5, .bool Y.cm, .bool Y.da]] w fun e w' => e = .returned (.bool (eqCf X Y)) ∧ Below w.heap.size w w' := by
  have J0 := Lib.hid (Box2.new h h' 34)
  obtain ⟨p0, p1, p2, p3, p4, p5, p6, p7, p8⟩ := lay9 J0.out.1.1
  obtain ⟨q0, q1, q2, q3, q4, q5, q6, q7, q8⟩ := lay9 J0.out.2.1
  clear h h'
  have Kha0 : (X.ha == Y.ha) = false ∨ (X.ha == Y.ha) = true := by cases (X.ha == Y.ha) <;> simp
  rcases Kha0 with Kha0 | Kha0
  · have Kha := Lib.hid Kha0
    have HM : Hid (eqCf X Y = false) := Lib.hid (by simp [eqCf, Kha0])
    go_enter Try.func72, Try.ntmps72
    go_wp2
    go_ret
    exact ⟨by rw [HM.out]; try rfl, J0.out.1.2.2.1⟩
  have Kha := Lib.hid Kha0
  have Khb0 : (X.hb == Y.hb) = false ∨ (X.hb == Y.hb) = true := by cases (X.hb == Y.hb) <;> simp
  rcases Khb0 with Khb0 | Khb0
  · have Khb := Lib.hid Khb0
    have HM : Hid (eqCf X Y = false) := Lib.hid (by simp [eqCf, Khb0])
    go_enter Try.func72, Try.ntmps72
    go_wp2
    go_ret
    exact ⟨by rw [HM.out]; try rfl, J0.out.1.2.2.1⟩
  have Khb := Lib.hid Khb0
  have Kal0 : eqB X.al Y.al = false ∨ eqB X.al Y.al = true := by cases eqB X.al Y.al <;> simp
  rcases Kal0 with Kal0 | Kal0
  · have Kal := Lib.hid Kal0
    have HM : Hid (eqCf X Y = false) := Lib.hid (by simp [eqCf, Kal0])
    clear Kal0
    go_enter Try.func72, Try.ntmps72
    go_wp2_with fail
    refine (l07SameRules_any X.al Y.al _ V.a1 U.a1 V.c1 U.c1 J0.out.1.2.1.al J0.out.2.2.1.al).mono ?_
    rintro e w1 ⟨rfl, hB⟩
    rw [Kal.out]
    have J0 := Lib.hid (J0.out.next hB)
    clear hB p0 p1 p2 p3 p4 p5 p6 p7 p8 q0 q1 q2 q3 q4 q5 q6 q7 q8
    obtain ⟨p0, p1, p2, p3, p4, p5, p6, p7, p8⟩ := lay9 J0.out.1.1
    obtain ⟨q0, q1, q2, q3, q4, q5, q6, q7, q8⟩ := lay9 J0.out.2.1
    go_wp2
    go_ret
    exact ⟨by rw [HM.out]; try rfl, J0.out.1.2.2.1⟩
  have Kal := Lib.hid Kal0
  clear Kal0
  have Krm0 : eqB X.rm Y.rm = false ∨ eqB X.rm Y.rm = true := by cases eqB X.rm Y.rm <;> simp
  rcases Krm0 with Krm0 | Krm0
  · have Krm := Lib.hid Krm0
    have HM : Hid (eqCf X Y = false) := Lib.hid (by simp [eqCf, Krm0])
    clear Krm0
    go_enter Try.func72, Try.ntmps72
    go_wp2_with fail
    refine (l07SameRules_any X.al Y.al _ V.a1 U.a1 V.c1 U.c1 J0.out.1.2.1.al J0.out.2.2.1.al).mono ?_
    rintro e w1 ⟨rfl, hB⟩
    rw [Kal.out]
    have J0 := Lib.hid (J0.out.next hB)
    clear hB p0 p1 p2 p3 p4 p5 p6 p7 p8 q0 q1 q2 q3 q4 q5 q6 q7 q8
    obtain ⟨p0, p1, p2, p3, p4, p5, p6, p7, p8⟩ := lay9 J0.out.1.1
    obtain ⟨q0, q1, q2, q3, q4, q5, q6, q7, q8⟩ := lay9 J0.out.2.1
    go_wp2_with fail
    refine (l07SameRules_any X.rm Y.rm _ V.a2 U.a2 V.c2 U.c2 J0.out.1.2.1.rm J0.out.2.2.1.rm).mono ?_
    rintro e w1 ⟨rfl, hB⟩
    rw [Krm.out]
    have J0 := Lib.hid (J0.out.next hB)
    clear hB p0 p1 p2 p3 p4 p5 p6 p7 p8 q0 q1 q2 q3 q4 q5 q6 q7 q8
    obtain ⟨p0, p1, p2, p3, p4, p5, p6, p7, p8⟩ := lay9 J0.out.1.1
    obtain ⟨q0, q1, q2, q3, q4, q5, q6, q7, q8⟩ := lay9 J0.out.2.1
    go_wp2
    go_ret
    exact ⟨by rw [HM.out]; try rfl, J0.out.1.2.2.1⟩
  have Krm := Lib.hid Krm0
  clear Krm0
  have Kuw0 : eqB X.uw Y.uw = false ∨ eqB X.uw Y.uw = true := by cases eqB X.uw Y.uw <;> simp
  rcases Kuw0 with Kuw0 | Kuw0
  · have Kuw := Lib.hid Kuw0
    have HM : Hid (eqCf X Y = false) := Lib.hid (by simp [eqCf, Kuw0])
    clear Kuw0
    go_enter Try.func72, Try.ntmps72
    go_wp2_with fail
    refine (l07SameRules_any X.al Y.al _ V.a1 U.a1 V.c1 U.c1 J0.out.1.2.1.al J0.out.2.2.1.al).mono ?_
    rintro e w1 ⟨rfl, hB⟩
    rw [Kal.out]
    have J0 := Lib.hid (J0.out.next hB)
    clear hB p0 p1 p2 p3 p4 p5 p6 p7 p8 q0 q1 q2 q3 q4 q5 q6 q7 q8
    obtain ⟨p0, p1, p2, p3, p4, p5, p6, p7, p8⟩ := lay9 J0.out.1.1
    obtain ⟨q0, q1, q2, q3, q4, q5, q6, q7, q8⟩ := lay9 J0.out.2.1
    go_wp2_with fail
    refine (l07SameRules_any X.rm Y.rm _ V.a2 U.a2 V.c2 U.c2 J0.out.1.2.1.rm J0.out.2.2.1.rm).mono ?_
    rintro e w1 ⟨rfl, hB⟩
    rw [Krm.out]
    have J0 := Lib.hid (J0.out.next hB)
    clear hB p0 p1 p2 p3 p4 p5 p6 p7 p8 q0 q1 q2 q3 q4 q5 q6 q7 q8
    obtain ⟨p0, p1, p2, p3, p4, p5, p6, p7, p8⟩ := lay9 J0.out.1.1
    obtain ⟨q0, q1, q2, q3, q4, q5, q6, q7, q8⟩ := lay9 J0.out.2.1
    go_wp2_with fail
    refine (l07SameRules_any X.uw Y.uw _ V.a3 U.a3 V.c3 U.c3 J0.out.1.2.1.uw J0.out.2.2.1.uw).mono ?_
    rintro e w1 ⟨rfl, hB⟩
    rw [Kuw.out]
    have J0 := Lib.hid (J0.out.next hB)
    clear hB p0 p1 p2 p3 p4 p5 p6 p7 p8 q0 q1 q2 q3 q4 q5 q6 q7 q8
    obtain ⟨p0, p1, p2, p3, p4, p5, p6, p7, p8⟩ := lay9 J0.out.1.1
    obtain ⟨q0, q1, q2, q3, q4, q5, q6, q7, q8⟩ := lay9 J0.out.2.1
    go_wp2
    go_ret
    exact ⟨by rw [HM.out]; try rfl, J0.out.1.2.2.1⟩
  have Kuw := Lib.hid Kuw0
  clear Kuw0
  have Kat_0 : eqB X.at_ Y.at_ = false ∨ eqB X.at_ Y.at_ = true := by cases eqB X.at_ Y.at_ <;> simp
  rcases Kat_0 with Kat_0 | Kat_0
  · have Kat_ := Lib.hid Kat_0
    have HM : Hid (eqCf X Y = false) := Lib.hid (by simp [eqCf, Kat_0])
    clear Kat_0
    go_enter Try.func72, Try.ntmps72
    go_wp2_with fail
    refine (l07SameRules_any X.al Y.al _ V.a1 U.a1 V.c1 U.c1 J0.out.1.2.1.al J0.out.2.2.1.al).mono ?_
    rintro e w1 ⟨rfl, hB⟩
    rw [Kal.out]
    have J0 := Lib.hid (J0.out.next hB)
    clear hB p0 p1 p2 p3 p4 p5 p6 p7 p8 q0 q1 q2 q3 q4 q5 q6 q7 q8
    obtain ⟨p0, p1, p2, p3, p4, p5, p6, p7, p8⟩ := lay9 J0.out.1.1
    obtain ⟨q0, q1, q2, q3, q4, q5, q6, q7, q8⟩ := lay9 J0.out.2.1
    go_wp2_with fail
    refine (l07SameRules_any X.rm Y.rm _ V.a2 U.a2 V.c2 U.c2 J0.out.1.2.1.rm J0.out.2.2.1.rm).mono ?_
    rintro e w1 ⟨rfl, hB⟩
    rw [Krm.out]
    have J0 := Lib.hid (J0.out.next hB)
    clear hB p0 p1 p2 p3 p4 p5 p6 p7 p8 q0 q1 q2 q3 q4 q5 q6 q7 q8
    obtain ⟨p0, p1, p2, p3, p4, p5, p6, p7, p8⟩ := lay9 J0.out.1.1
    obtain ⟨q0, q1, q2, q3, q4, q5, q6, q7, q8⟩ := lay9 J0.out.2.1
    go_wp2_with fail
    refine (l07SameRules_any X.uw Y.uw _ V.a3 U.a3 V.c3 U.c3 J0.out.1.2.1.uw J0.out.2.2.1.uw).mono ?_
    rintro e w1 ⟨rfl, hB⟩
    rw [Kuw.out]
    have J0 := Lib.hid (J0.out.next hB)
    clear hB p0 p1 p2 p3 p4 p5 p6 p7 p8 q0 q1 q2 q3 q4 q5 q6 q7 q8
    obtain ⟨p0, p1, p2, p3, p4, p5, p6, p7, p8⟩ := lay9 J0.out.1.1
    obtain ⟨q0, q1, q2, q3, q4, q5, q6, q7, q8⟩ := lay9 J0.out.2.1
    go_wp2_with fail
    refine (l00SameTexts_any X.at_ Y.at_ _ V.a4 U.a4 V.c4 U.c4 J0.out.1.2.1.at_ J0.out.2.2.1.at_).mono ?_
    rintro e w1 ⟨rfl, hB⟩
    rw [Kat_.out]
    have J0 := Lib.hid (J0.out.next hB)
    clear hB p0 p1 p2 p3 p4 p5 p6 p7 p8 q0 q1 q2 q3 q4 q5 q6 q7 q8
    obtain ⟨p0, p1, p2, p3, p4, p5, p6, p7, p8⟩ := lay9 J0.out.1.1
    obtain ⟨q0, q1, q2, q3, q4, q5, q6, q7, q8⟩ := lay9 J0.out.2.1
    go_wp2
    go_ret
    exact ⟨by rw [HM.out]; try rfl, J0.out.1.2.2.1⟩
  have Kat_ := Lib.hid Kat_0
  clear Kat_0
  have Kdp0 : eqB X.dp Y.dp = false ∨ eqB X.dp Y.dp = true := by cases eqB X.dp Y.dp <;> simp
  rcases Kdp0 with Kdp0 | Kdp0
  · have Kdp := Lib.hid Kdp0
    have HM : Hid (eqCf X Y = false) := Lib.hid (by simp [eqCf, Kdp0])
    clear Kdp0
    go_enter Try.func72, Try.ntmps72
    go_wp2_with fail
    refine (l07SameRules_any X.al Y.al _ V.a1 U.a1 V.c1 U.c1 J0.out.1.2.1.al J0.out.2.2.1.al).mono ?_
    rintro e w1 ⟨rfl, hB⟩
    rw [Kal.out]
    have J0 := Lib.hid (J0.out.next hB)
    clear hB p0 p1 p2 p3 p4 p5 p6 p7 p8 q0 q1 q2 q3 q4 q5 q6 q7 q8
    obtain ⟨p0, p1, p2, p3, p4, p5, p6, p7, p8⟩ := lay9 J0.out.1.1
    obtain ⟨q0, q1, q2, q3, q4, q5, q6, q7, q8⟩ := lay9 J0.out.2.1
    go_wp2_with fail
    refine (l07SameRules_any X.rm Y.rm _ V.a2 U.a2 V.c2 U.c2 J0.out.1.2.1.rm J0.out.2.2.1.rm).mono ?_
    rintro e w1 ⟨rfl, hB⟩
    rw [Krm.out]
    have J0 := Lib.hid (J0.out.next hB)
    clear hB p0 p1 p2 p3 p4 p5 p6 p7 p8 q0 q1 q2 q3 q4 q5 q6 q7 q8
    obtain ⟨p0, p1, p2, p3, p4, p5, p6, p7, p8⟩ := lay9 J0.out.1.1
    obtain ⟨q0, q1, q2, q3, q4, q5, q6, q7, q8⟩ := lay9 J0.out.2.1
    go_wp2_with fail
    refine (l07SameRules_any X.uw Y.uw _ V.a3 U.a3 V.c3 U.c3 J0.out.1.2.1.uw J0.out.2.2.1.uw).mono ?_
    rintro e w1 ⟨rfl, hB⟩
    rw [Kuw.out]
    have J0 := Lib.hid (J0.out.next hB)
    clear hB p0 p1 p2 p3 p4 p5 p6 p7 p8 q0 q1 q2 q3 q4 q5 q6 q7 q8
    obtain ⟨p0, p1, p2, p3, p4, p5, p6, p7, p8⟩ := lay9 J0.out.1.1
    obtain ⟨q0, q1, q2, q3, q4, q5, q6, q7, q8⟩ := lay9 J0.out.2.1
    go_wp2_with fail
    refine (l00SameTexts_any X.at_ Y.at_ _ V.a4 U.a4 V.c4 U.c4 J0.out.1.2.1.at_ J0.out.2.2.1.at_).mono ?_
    rintro e w1 ⟨rfl, hB⟩
    rw [Kat_.out]
    have J0 := Lib.hid (J0.out.next hB)
    clear hB p0 p1 p2 p3 p4 p5 p6 p7 p8 q0 q1 q2 q3 q4 q5 q6 q7 q8
    obtain ⟨p0, p1, p2, p3, p4, p5, p6, p7, p8⟩ := lay9 J0.out.1.1
    obtain ⟨q0, q1, q2, q3, q4, q5, q6, q7, q8⟩ := lay9 J0.out.2.1
    go_wp2_with fail
    refine (l00SameTexts_any X.dp Y.dp _ V.a5 U.a5 V.c5 U.c5 J0.out.1.2.1.dp J0.out.2.2.1.dp).mono ?_
    rintro e w1 ⟨rfl, hB⟩
    rw [Kdp.out]
    have J0 := Lib.hid (J0.out.next hB)
    clear hB p0 p1 p2 p3 p4 p5 p6 p7 p8 q0 q1 q2 q3 q4 q5 q6 q7 q8
    obtain ⟨p0, p1, p2, p3, p4, p5, p6, p7, p8⟩ := lay9 J0.out.1.1
    obtain ⟨q0, q1, q2, q3, q4, q5, q6, q7, q8⟩ := lay9 J0.out.2.1
    go_wp2
    go_ret
    exact ⟨by rw [HM.out]; try rfl, J0.out.1.2.2.1⟩
  have Kdp := Lib.hid Kdp0
  clear Kdp0
  have Kcm0 : (X.cm == Y.cm) = false ∨ (X.cm == Y.cm) = true := by cases (X.cm == Y.cm) <;> simp
  rcases Kcm0 with Kcm0 | Kcm0
  · have Kcm := Lib.hid Kcm0
    have HM : Hid (eqCf X Y = false) := Lib.hid (by simp [eqCf, Kcm0])
    go_enter Try.func72, Try.ntmps72
    go_wp2_with fail
    refine (l07SameRules_any X.al Y.al _ V.a1 U.a1 V.c1 U.c1 J0.out.1.2.1.al J0.out.2.2.1.al).mono ?_
    rintro e w1 ⟨rfl, hB⟩
    rw [Kal.out]
    have J0 := Lib.hid (J0.out.next hB)
    clear hB p0 p1 p2 p3 p4 p5 p6 p7 p8 q0 q1 q2 q3 q4 q5 q6 q7 q8
    obtain ⟨p0, p1, p2, p3, p4, p5, p6, p7, p8⟩ := lay9 J0.out.1.1
    obtain ⟨q0, q1, q2, q3, q4, q5, q6, q7, q8⟩ := lay9 J0.out.2.1
    go_wp2_with fail
    refine (l07SameRules_any X.rm Y.rm _ V.a2 U.a2 V.c2 U.c2 J0.out.1.2.1.rm J0.out.2.2.1.rm).mono ?_
    rintro e w1 ⟨rfl, hB⟩
    rw [Krm.out]
    have J0 := Lib.hid (J0.out.next hB)
    clear hB p0 p1 p2 p3 p4 p5 p6 p7 p8 q0 q1 q2 q3 q4 q5 q6 q7 q8
    obtain ⟨p0, p1, p2, p3, p4, p5, p6, p7, p8⟩ := lay9 J0.out.1.1
    obtain ⟨q0, q1, q2, q3, q4, q5, q6, q7, q8⟩ := lay9 J0.out.2.1
    go_wp2_with fail
    refine (l07SameRules_any X.uw Y.uw _ V.a3 U.a3 V.c3 U.c3 J0.out.1.2.1.uw J0.out.2.2.1.uw).mono ?_
    rintro e w1 ⟨rfl, hB⟩
    rw [Kuw.out]
    have J0 := Lib.hid (J0.out.next hB)
    clear hB p0 p1 p2 p3 p4 p5 p6 p7 p8 q0 q1 q2 q3 q4 q5 q6 q7 q8
    obtain ⟨p0, p1, p2, p3, p4, p5, p6, p7, p8⟩ := lay9 J0.out.1.1
    obtain ⟨q0, q1, q2, q3, q4, q5, q6, q7, q8⟩ := lay9 J0.out.2.1
    go_wp2_with fail
    refine (l00SameTexts_any X.at_ Y.at_ _ V.a4 U.a4 V.c4 U.c4 J0.out.1.2.1.at_ J0.out.2.2.1.at_).mono ?_
    rintro e w1 ⟨rfl, hB⟩
    rw [Kat_.out]
    have J0 := Lib.hid (J0.out.next hB)
    clear hB p0 p1 p2 p3 p4 p5 p6 p7 p8 q0 q1 q2 q3 q4 q5 q6 q7 q8
    obtain ⟨p0, p1, p2, p3, p4, p5, p6, p7, p8⟩ := lay9 J0.out.1.1
    obtain ⟨q0, q1, q2, q3, q4, q5, q6, q7, q8⟩ := lay9 J0.out.2.1
    go_wp2_with fail
    refine (l00SameTexts_any X.dp Y.dp _ V.a5 U.a5 V.c5 U.c5 J0.out.1.2.1.dp J0.out.2.2.1.dp).mono ?_
    rintro e w1 ⟨rfl, hB⟩
    rw [Kdp.out]
    have J0 := Lib.hid (J0.out.next hB)
    clear hB p0 p1 p2 p3 p4 p5 p6 p7 p8 q0 q1 q2 q3 q4 q5 q6 q7 q8
    obtain ⟨p0, p1, p2, p3, p4, p5, p6, p7, p8⟩ := lay9 J0.out.1.1
    obtain ⟨q0, q1, q2, q3, q4, q5, q6, q7, q8⟩ := lay9 J0.out.2.1
    go_wp2
    go_ret
    exact ⟨by rw [HM.out]; try rfl, J0.out.1.2.2.1⟩
  have Kcm := Lib.hid Kcm0
  have Kda0 : (X.da == Y.da) = false ∨ (X.da == Y.da) = true := by cases (X.da == Y.da) <;> simp
  rcases Kda0 with Kda0 | Kda0
  · have Kda := Lib.hid Kda0
    have HM : Hid (eqCf X Y = false) := Lib.hid (by simp [eqCf, Kda0])
    go_enter Try.func72, Try.ntmps72
    go_wp2_with fail
    refine (l07SameRules_any X.al Y.al _ V.a1 U.a1 V.c1 U.c1 J0.out.1.2.1.al J0.out.2.2.1.al).mono ?_
    rintro e w1 ⟨rfl, hB⟩
    rw [Kal.out]
    have J0 := Lib.hid (J0.out.next hB)
    clear hB p0 p1 p2 p3 p4 p5 p6 p7 p8 q0 q1 q2 q3 q4 q5 q6 q7 q8
    obtain ⟨p0, p1, p2, p3, p4, p5, p6, p7, p8⟩ := lay9 J0.out.1.1
    obtain ⟨q0, q1, q2, q3, q4, q5, q6, q7, q8⟩ := lay9 J0.out.2.1
    go_wp2_with fail
    refine (l07SameRules_any X.rm Y.rm _ V.a2 U.a2 V.c2 U.c2 J0.out.1.2.1.rm J0.out.2.2.1.rm).mono ?_
    rintro e w1 ⟨rfl, hB⟩
    rw [Krm.out]
    have J0 := Lib.hid (J0.out.next hB)
    clear hB p0 p1 p2 p3 p4 p5 p6 p7 p8 q0 q1 q2 q3 q4 q5 q6 q7 q8
    obtain ⟨p0, p1, p2, p3, p4, p5, p6, p7, p8⟩ := lay9 J0.out.1.1
    obtain ⟨q0, q1, q2, q3, q4, q5, q6, q7, q8⟩ := lay9 J0.out.2.1
    go_wp2_with fail
    refine (l07SameRules_any X.uw Y.uw _ V.a3 U.a3 V.c3 U.c3 J0.out.1.2.1.uw J0.out.2.2.1.uw).mono ?_
    rintro e w1 ⟨rfl, hB⟩
    rw [Kuw.out]
    have J0 := Lib.hid (J0.out.next hB)
    clear hB p0 p1 p2 p3 p4 p5 p6 p7 p8 q0 q1 q2 q3 q4 q5 q6 q7 q8
    obtain ⟨p0, p1, p2, p3, p4, p5, p6, p7, p8⟩ := lay9 J0.out.1.1
    obtain ⟨q0, q1, q2, q3, q4, q5, q6, q7, q8⟩ := lay9 J0.out.2.1
    go_wp2_with fail
    refine (l00SameTexts_any X.at_ Y.at_ _ V.a4 U.a4 V.c4 U.c4 J0.out.1.2.1.at_ J0.out.2.2.1.at_).mono ?_
    rintro e w1 ⟨rfl, hB⟩
    rw [Kat_.out]
    have J0 := Lib.hid (J0.out.next hB)
    clear hB p0 p1 p2 p3 p4 p5 p6 p7 p8 q0 q1 q2 q3 q4 q5 q6 q7 q8
    obtain ⟨p0, p1, p2, p3, p4, p5, p6, p7, p8⟩ := lay9 J0.out.1.1
    obtain ⟨q0, q1, q2, q3, q4, q5, q6, q7, q8⟩ := lay9 J0.out.2.1
    go_wp2_with fail
    refine (l00SameTexts_any X.dp Y.dp _ V.a5 U.a5 V.c5 U.c5 J0.out.1.2.1.dp J0.out.2.2.1.dp).mono ?_
    rintro e w1 ⟨rfl, hB⟩
    rw [Kdp.out]
    have J0 := Lib.hid (J0.out.next hB)
    clear hB p0 p1 p2 p3 p4 p5 p6 p7 p8 q0 q1 q2 q3 q4 q5 q6 q7 q8
    obtain ⟨p0, p1, p2, p3, p4, p5, p6, p7, p8⟩ := lay9 J0.out.1.1
    obtain ⟨q0, q1, q2, q3, q4, q5, q6, q7, q8⟩ := lay9 J0.out.2.1
    go_wp2
    go_ret
    exact ⟨by rw [HM.out]; try rfl, J0.out.1.2.2.1⟩
  have Kda := Lib.hid Kda0
  have HM : Hid (eqCf X Y = true) := Lib.hid (by simp only [eqCf, Kha.out, Khb.out, Kal.out, Krm.out, Kuw.out, Kat_.out, Kdp.out, Kcm.out, Kda.out]; rfl)
  go_enter Try.func72, Try.ntmps72
  go_wp2_with fail
  refine (l07SameRules_any X.al Y.al _ V.a1 U.a1 V.c1 U.c1 J0.out.1.2.1.al J0.out.2.2.1.al).mono ?_
  rintro e w1 ⟨rfl, hB⟩
  rw [Kal.out]
  have J0 := Lib.hid (J0.out.next hB)
  clear hB p0 p1 p2 p3 p4 p5 p6 p7 p8 q0 q1 q2 q3 q4 q5 q6 q7 q8
  obtain ⟨p0, p1, p2, p3, p4, p5, p6, p7, p8⟩ := lay9 J0.out.1.1
  obtain ⟨q0, q1, q2, q3, q4, q5, q6, q7, q8⟩ := lay9 J0.out.2.1
  go_wp2_with fail
  refine (l07SameRules_any X.rm Y.rm _ V.a2 U.a2 V.c2 U.c2 J0.out.1.2.1.rm J0.out.2.2.1.rm).mono ?_
  rintro e w1 ⟨rfl, hB⟩
  rw [Krm.out]
  have J0 := Lib.hid (J0.out.next hB)
  clear hB p0 p1 p2 p3 p4 p5 p6 p7 p8 q0 q1 q2 q3 q4 q5 q6 q7 q8
  obtain ⟨p0, p1, p2, p3, p4, p5, p6, p7, p8⟩ := lay9 J0.out.1.1
  obtain ⟨q0, q1, q2, q3, q4, q5, q6, q7, q8⟩ := lay9 J0.out.2.1
  go_wp2_with fail
  refine (l07SameRules_any X.uw Y.uw _ V.a3 U.a3 V.c3 U.c3 J0.out.1.2.1.uw J0.out.2.2.1.uw).mono ?_
  rintro e w1 ⟨rfl, hB⟩
  rw [Kuw.out]
  have J0 := Lib.hid (J0.out.next hB)
  clear hB p0 p1 p2 p3 p4 p5 p6 p7 p8 q0 q1 q2 q3 q4 q5 q6 q7 q8
  obtain ⟨p0, p1, p2, p3, p4, p5, p6, p7, p8⟩ := lay9 J0.out.1.1
  obtain ⟨q0, q1, q2, q3, q4, q5, q6, q7, q8⟩ := lay9 J0.out.2.1
  go_wp2_with fail
  refine (l00SameTexts_any X.at_ Y.at_ _ V.a4 U.a4 V.c4 U.c4 J0.out.1.2.1.at_ J0.out.2.2.1.at_).mono ?_
  rintro e w1 ⟨rfl, hB⟩
  rw [Kat_.out]
  have J0 := Lib.hid (J0.out.next hB)
  clear hB p0 p1 p2 p3 p4 p5 p6 p7 p8 q0 q1 q2 q3 q4 q5 q6 q7 q8
  obtain ⟨p0, p1, p2, p3, p4, p5, p6, p7, p8⟩ := lay9 J0.out.1.1
  obtain ⟨q0, q1, q2, q3, q4, q5, q6, q7, q8⟩ := lay9 J0.out.2.1
  go_wp2_with fail
  refine (l00SameTexts_any X.dp Y.dp _ V.a5 U.a5 V.c5 U.c5 J0.out.1.2.1.dp J0.out.2.2.1.dp).mono ?_
  rintro e w1 ⟨rfl, hB⟩
  rw [Kdp.out]
  have J0 := Lib.hid (J0.out.next hB)
  clear hB p0 p1 p2 p3 p4 p5 p6 p7 p8 q0 q1 q2 q3 q4 q5 q6 q7 q8
  obtain ⟨p0, p1, p2, p3, p4, p5, p6, p7, p8⟩ := lay9 J0.out.1.1
  obtain ⟨q0, q1, q2, q3, q4, q5, q6, q7, q8⟩ := lay9 J0.out.2.1
  go_wp2
  go_ret
  exact ⟨by rw [HM.out]; try rfl, J0.out.1.2.2.1⟩
end Go.Proofs.Ytbcbmgeoaejlmaa
