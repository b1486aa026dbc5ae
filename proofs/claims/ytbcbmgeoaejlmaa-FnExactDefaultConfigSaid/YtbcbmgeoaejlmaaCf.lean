
import Derived.Test.YtbcbmgeoaejlmaaRuL
import Derived.Test.YtbcbmgeoaejlmaaRuB
import Derived.Deep.RegionHeld3
namespace Go.Proofs.Ytbcbmgeoaejlmaa
open Go.ChangeShapes Go.WideShapes Go.ChangeAt Go.RowKit Go.Deep

/-- a configuration -/
structure Cf where
  ha : Bool
  hb : Bool
  al : List Ru
  rm : List Ru
  uw : List Ru
  at_ : List ByteArray
  dp : List ByteArray
  cm : Bool
  da : Bool
/-- where its lists stand -/
structure CfV where
  a1 : Option Addr
  c1 : Nat
  a2 : Option Addr
  c2 : Nat
  a3 : Option Addr
  c3 : Nat
  a4 : Option Addr
  c4 : Nat
  a5 : Option Addr
  c5 : Nat
structure CfIn (w : World) (X : Cf) (V : CfV) : Prop where
  al : RuIn w V.a1 X.al
  rm : RuIn w V.a2 X.rm
  uw : RuIn w V.a3 X.uw
  at_ : NmIn w V.a4 X.at_
  dp : NmIn w V.a5 X.dp
  l4 : X.at_.length ≤ V.c4
  l5 : X.dp.length ≤ V.c5
theorem CfIn.next {w w' : World} {X : Cf} {V : CfV} (h : CfIn w X V) (hB : Below w.heap.size w w') : CfIn w' X V := ⟨h.al.next hB, h.rm.next hB, h.uw.next hB, h.at_.next hB, h.dp.next hB, h.l4, h.l5⟩
theorem lay9 {w : World} {g : Nat} {v0 v1 v2 v3 v4 v5 v6 v7 v8 : Value} (h : Lay w g #[v0, v1, v2, v3, v4, v5, v6, v7, v8]) : w.cell? ⟨g, 0, none⟩ = some v0 ∧ w.cell? ⟨g, 1, none⟩ = some v1 ∧ w.cell? ⟨g, 2, none⟩ = some v2 ∧ w.cell? ⟨g, 3, none⟩ = some v3 ∧ w.cell? ⟨g, 4, none⟩ = some v4 ∧ w.cell? ⟨g, 5, none⟩ = some v5 ∧ w.cell? ⟨g, 6, none⟩ = some v6 ∧ w.cell? ⟨g, 7, none⟩ = some v7 ∧ w.cell? ⟨g, 8, none⟩ = some v8 :=
  ⟨h.1 0, h.1 1, h.1 2, h.1 3, h.1 4, h.1 5, h.1 6, h.1 7, h.1 8⟩
/-- its box g, made behind w -/
def CfBox (w W : World) (g : Nat) (X : Cf) (V : CfV) : Prop := Lay W g #[.bool X.ha, .bool X.hb, .slice V.a1 X.al.length V.c1, .slice V.a2 X.rm.length V.c2, .slice V.a3 X.uw.length V.c3, .slice V.a4 X.at_.length V.c4, .slice V.a5 X.dp.length V.c5, .bool X.cm, .bool X.da] ∧ CfIn W X V ∧ Below w.heap.size w W ∧ g < W.heap.size
theorem CfBox.next {w W W' : World} {g : Nat} {X : Cf} {V : CfV} (h : CfBox w W g X V) (hB : Below W.heap.size W W') : CfBox w W' g X V :=
  ⟨h.1.below hB h.2.2.2, h.2.1.next hB, h.2.2.1.trans (hB.mono h.2.2.1.size), Nat.lt_of_lt_of_le h.2.2.2 hB.size⟩
theorem CfBox.new {w : World} {X : Cf} {V : CfV} (h : CfIn w X V) (t : TypeId) : CfBox w (w.alloc (.cells #[.bool X.ha, .bool X.hb, .slice V.a1 X.al.length V.c1, .slice V.a2 X.rm.length V.c2, .slice V.a3 X.uw.length V.c3, .slice V.a4 X.at_.length V.c4, .slice V.a5 X.dp.length V.c5, .bool X.cm, .bool X.da] t)) w.heap.size X V :=
  ⟨Lay.new _ _ _, h.next ((Below.refl _ _).alloc (Nat.le_refl _) _), (Below.refl _ _).alloc (Nat.le_refl _) _, by simp⟩
theorem CfBox.base {w0 w W : World} {g : Nat} {X : Cf} {V : CfV} (h : CfBox w W g X V) (hB : Below w0.heap.size w0 w) : CfBox w0 W g X V := ⟨h.1, h.2.1, hB.trans (h.2.2.1.mono hB.size), h.2.2.2⟩

def cfSize (X : Cf) : Nat := (X.al.length + rusSize X.al) + (X.rm.length + rusSize X.rm) + (X.uw.length + rusSize X.uw) + (X.at_.length + nmSize X.at_) + (X.dp.length + nmSize X.dp)

set_option maxHeartbeats 2000000 in
theorem szConfig_any (X : Cf) (V : CfV) (m : Nat) (w : World) (hm : m ≤ 1048576) (h : CfIn w X V) :
    Calls Try.prog 15 #[.agg #[.bool X.ha, .bool X.hb, .slice V.a1 X.al.length V.c1, .slice V.a2 X.rm.length V.c2, .slice V.a3 X.uw.length V.c3, .slice V.a4 X.at_.length V.c4, .slice V.a5 X.dp.length V.c5, .bool X.cm, .bool X.da], .int .i64 (m : Int)] w fun e w' => e = .returned (.int .i64 (left m (cfSize X))) ∧ Below w.heap.size w w' := by
  have HX := Lib.hid (CfBox.new h 25)
  obtain ⟨p0, p1, p2, p3, p4, p5, p6, p7, p8⟩ := lay9 HX.out.1
  clear h
  obtain ⟨m0, hm0⟩ : ∃ m0 : Nat, m0 = m := ⟨m, rfl⟩
  subst hm0
  have M0 := Lib.hid hm
  by_cases d0 : (X.al.length + rusSize X.al) ≤ m0
  · obtain ⟨m1, hm1⟩ : ∃ k : Nat, k + (X.al.length + rusSize X.al) = m0 := ⟨m0 - (X.al.length + rusSize X.al), by omega⟩
    have L0 : Hid (left m0 (X.al.length + rusSize X.al) = (m1 : Int)) := Lib.hid (by rw [left_le d0]; omega)
    have M1 : Hid (m1 ≤ 1048576) := Lib.hid (by have := M0.out; omega)
    by_cases d1 : (X.rm.length + rusSize X.rm) ≤ m1
    · obtain ⟨m2, hm2⟩ : ∃ k : Nat, k + (X.rm.length + rusSize X.rm) = m1 := ⟨m1 - (X.rm.length + rusSize X.rm), by omega⟩
      have L1 : Hid (left m1 (X.rm.length + rusSize X.rm) = (m2 : Int)) := Lib.hid (by rw [left_le d1]; omega)
      have M2 : Hid (m2 ≤ 1048576) := Lib.hid (by have := M1.out; omega)
      by_cases d2 : (X.uw.length + rusSize X.uw) ≤ m2
      · obtain ⟨m3, hm3⟩ : ∃ k : Nat, k + (X.uw.length + rusSize X.uw) = m2 := ⟨m2 - (X.uw.length + rusSize X.uw), by omega⟩
        have L2 : Hid (left m2 (X.uw.length + rusSize X.uw) = (m3 : Int)) := Lib.hid (by rw [left_le d2]; omega)
        have M3 : Hid (m3 ≤ 1048576) := Lib.hid (by have := M2.out; omega)
        by_cases d3 : (X.at_.length + nmSize X.at_) ≤ m3
        · obtain ⟨m4, hm4⟩ : ∃ k : Nat, k + (X.at_.length + nmSize X.at_) = m3 := ⟨m3 - (X.at_.length + nmSize X.at_), by omega⟩
          have L3 : Hid (left m3 (X.at_.length + nmSize X.at_) = (m4 : Int)) := Lib.hid (by rw [left_le d3]; omega)
          have M4 : Hid (m4 ≤ 1048576) := Lib.hid (by have := M3.out; omega)
          by_cases d4 : (X.dp.length + nmSize X.dp) ≤ m4
          · obtain ⟨m5, hm5⟩ : ∃ k : Nat, k + (X.dp.length + nmSize X.dp) = m4 := ⟨m4 - (X.dp.length + nmSize X.dp), by omega⟩
            have L4 : Hid (left m4 (X.dp.length + nmSize X.dp) = (m5 : Int)) := Lib.hid (by rw [left_le d4]; omega)
            have M5 : Hid (m5 ≤ 1048576) := Lib.hid (by have := M4.out; omega)
            have HM : Hid (left m0 (cfSize X) = (m5 : Int)) := Lib.hid (by unfold cfSize; rw [left_le (by omega)]; omega)
            clear hm hm1 hm2 hm3 hm4 hm5 d0 d1 d2 d3 d4
            go_enter Try.func15, Try.ntmps15
            go_wp2_with fail
            refine (szRuleS_any X.al m0 _ V.a1 V.c1 M0.out HX.out.2.1.al).mono ?_
            rintro e w0 ⟨rfl, hB⟩
            rw [L0.out]
            have HX := Lib.hid (HX.out.next hB)
            clear hB p0 p1 p2 p3 p4 p5 p6 p7 p8
            obtain ⟨p0, p1, p2, p3, p4, p5, p6, p7, p8⟩ := lay9 HX.out.1
            go_wp2_with fail
            refine (szRuleS_any X.rm m1 _ V.a2 V.c2 M1.out HX.out.2.1.rm).mono ?_
            rintro e w1 ⟨rfl, hB⟩
            rw [L1.out]
            have HX := Lib.hid (HX.out.next hB)
            clear hB p0 p1 p2 p3 p4 p5 p6 p7 p8
            obtain ⟨p0, p1, p2, p3, p4, p5, p6, p7, p8⟩ := lay9 HX.out.1
            go_wp2_with fail
            refine (szRuleS_any X.uw m2 _ V.a3 V.c3 M2.out HX.out.2.1.uw).mono ?_
            rintro e w2 ⟨rfl, hB⟩
            rw [L2.out]
            have HX := Lib.hid (HX.out.next hB)
            clear hB p0 p1 p2 p3 p4 p5 p6 p7 p8
            obtain ⟨p0, p1, p2, p3, p4, p5, p6, p7, p8⟩ := lay9 HX.out.1
            go_wp2_with fail
            refine (szStringS_any X.at_ m3 _ V.a4 V.c4 M3.out HX.out.2.1.at_).mono ?_
            rintro e w3 ⟨rfl, rfl⟩
            rw [L3.out]
            go_wp2_with fail
            refine (szStringS_any X.dp m4 _ V.a5 V.c5 M4.out HX.out.2.1.dp).mono ?_
            rintro e w4 ⟨rfl, rfl⟩
            rw [L4.out]
            go_wp2
            go_ret
            exact ⟨by rw [HM.out]; go_num, HX.out.2.2.1⟩
          · have L4 : Hid (left m4 (X.dp.length + nmSize X.dp) = -1) := Lib.hid (left_gt d4)
            have HM : Hid (left m0 (cfSize X) = -1) := Lib.hid (by unfold cfSize; rw [left_gt (by omega)])
            clear hm hm1 hm2 hm3 hm4 d0 d1 d2 d3 d4
            go_enter Try.func15, Try.ntmps15
            go_wp2_with fail
            refine (szRuleS_any X.al m0 _ V.a1 V.c1 M0.out HX.out.2.1.al).mono ?_
            rintro e w0 ⟨rfl, hB⟩
            rw [L0.out]
            have HX := Lib.hid (HX.out.next hB)
            clear hB p0 p1 p2 p3 p4 p5 p6 p7 p8
            obtain ⟨p0, p1, p2, p3, p4, p5, p6, p7, p8⟩ := lay9 HX.out.1
            go_wp2_with fail
            refine (szRuleS_any X.rm m1 _ V.a2 V.c2 M1.out HX.out.2.1.rm).mono ?_
            rintro e w1 ⟨rfl, hB⟩
            rw [L1.out]
            have HX := Lib.hid (HX.out.next hB)
            clear hB p0 p1 p2 p3 p4 p5 p6 p7 p8
            obtain ⟨p0, p1, p2, p3, p4, p5, p6, p7, p8⟩ := lay9 HX.out.1
            go_wp2_with fail
            refine (szRuleS_any X.uw m2 _ V.a3 V.c3 M2.out HX.out.2.1.uw).mono ?_
            rintro e w2 ⟨rfl, hB⟩
            rw [L2.out]
            have HX := Lib.hid (HX.out.next hB)
            clear hB p0 p1 p2 p3 p4 p5 p6 p7 p8
            obtain ⟨p0, p1, p2, p3, p4, p5, p6, p7, p8⟩ := lay9 HX.out.1
            go_wp2_with fail
            refine (szStringS_any X.at_ m3 _ V.a4 V.c4 M3.out HX.out.2.1.at_).mono ?_
            rintro e w3 ⟨rfl, rfl⟩
            rw [L3.out]
            go_wp2_with fail
            refine (szStringS_any X.dp m4 _ V.a5 V.c5 M4.out HX.out.2.1.dp).mono ?_
            rintro e w4 ⟨rfl, rfl⟩
            rw [L4.out]
            go_wp2
            go_ret
            exact ⟨by rw [HM.out]; rfl, HX.out.2.2.1⟩
        · have L3 : Hid (left m3 (X.at_.length + nmSize X.at_) = -1) := Lib.hid (left_gt d3)
          have HM : Hid (left m0 (cfSize X) = -1) := Lib.hid (by unfold cfSize; rw [left_gt (by omega)])
          clear hm hm1 hm2 hm3 d0 d1 d2 d3
          go_enter Try.func15, Try.ntmps15
          go_wp2_with fail
          refine (szRuleS_any X.al m0 _ V.a1 V.c1 M0.out HX.out.2.1.al).mono ?_
          rintro e w0 ⟨rfl, hB⟩
          rw [L0.out]
          have HX := Lib.hid (HX.out.next hB)
          clear hB p0 p1 p2 p3 p4 p5 p6 p7 p8
          obtain ⟨p0, p1, p2, p3, p4, p5, p6, p7, p8⟩ := lay9 HX.out.1
          go_wp2_with fail
          refine (szRuleS_any X.rm m1 _ V.a2 V.c2 M1.out HX.out.2.1.rm).mono ?_
          rintro e w1 ⟨rfl, hB⟩
          rw [L1.out]
          have HX := Lib.hid (HX.out.next hB)
          clear hB p0 p1 p2 p3 p4 p5 p6 p7 p8
          obtain ⟨p0, p1, p2, p3, p4, p5, p6, p7, p8⟩ := lay9 HX.out.1
          go_wp2_with fail
          refine (szRuleS_any X.uw m2 _ V.a3 V.c3 M2.out HX.out.2.1.uw).mono ?_
          rintro e w2 ⟨rfl, hB⟩
          rw [L2.out]
          have HX := Lib.hid (HX.out.next hB)
          clear hB p0 p1 p2 p3 p4 p5 p6 p7 p8
          obtain ⟨p0, p1, p2, p3, p4, p5, p6, p7, p8⟩ := lay9 HX.out.1
          go_wp2_with fail
          refine (szStringS_any X.at_ m3 _ V.a4 V.c4 M3.out HX.out.2.1.at_).mono ?_
          rintro e w3 ⟨rfl, rfl⟩
          rw [L3.out]
          go_wp2
          go_ret
          exact ⟨by rw [HM.out]; rfl, HX.out.2.2.1⟩
      · have L2 : Hid (left m2 (X.uw.length + rusSize X.uw) = -1) := Lib.hid (left_gt d2)
        have HM : Hid (left m0 (cfSize X) = -1) := Lib.hid (by unfold cfSize; rw [left_gt (by omega)])
        clear hm hm1 hm2 d0 d1 d2
        go_enter Try.func15, Try.ntmps15
        go_wp2_with fail
        refine (szRuleS_any X.al m0 _ V.a1 V.c1 M0.out HX.out.2.1.al).mono ?_
        rintro e w0 ⟨rfl, hB⟩
        rw [L0.out]
        have HX := Lib.hid (HX.out.next hB)
        clear hB p0 p1 p2 p3 p4 p5 p6 p7 p8
        obtain ⟨p0, p1, p2, p3, p4, p5, p6, p7, p8⟩ := lay9 HX.out.1
        go_wp2_with fail
        refine (szRuleS_any X.rm m1 _ V.a2 V.c2 M1.out HX.out.2.1.rm).mono ?_
        rintro e w1 ⟨rfl, hB⟩
        rw [L1.out]
        have HX := Lib.hid (HX.out.next hB)
        clear hB p0 p1 p2 p3 p4 p5 p6 p7 p8
        obtain ⟨p0, p1, p2, p3, p4, p5, p6, p7, p8⟩ := lay9 HX.out.1
        go_wp2_with fail
        refine (szRuleS_any X.uw m2 _ V.a3 V.c3 M2.out HX.out.2.1.uw).mono ?_
        rintro e w2 ⟨rfl, hB⟩
        rw [L2.out]
        have HX := Lib.hid (HX.out.next hB)
        clear hB p0 p1 p2 p3 p4 p5 p6 p7 p8
        obtain ⟨p0, p1, p2, p3, p4, p5, p6, p7, p8⟩ := lay9 HX.out.1
        go_wp2
        go_ret
        exact ⟨by rw [HM.out]; rfl, HX.out.2.2.1⟩
    · have L1 : Hid (left m1 (X.rm.length + rusSize X.rm) = -1) := Lib.hid (left_gt d1)
      have HM : Hid (left m0 (cfSize X) = -1) := Lib.hid (by unfold cfSize; rw [left_gt (by omega)])
      clear hm hm1 d0 d1
      go_enter Try.func15, Try.ntmps15
      go_wp2_with fail
      refine (szRuleS_any X.al m0 _ V.a1 V.c1 M0.out HX.out.2.1.al).mono ?_
      rintro e w0 ⟨rfl, hB⟩
      rw [L0.out]
      have HX := Lib.hid (HX.out.next hB)
      clear hB p0 p1 p2 p3 p4 p5 p6 p7 p8
      obtain ⟨p0, p1, p2, p3, p4, p5, p6, p7, p8⟩ := lay9 HX.out.1
      go_wp2_with fail
      refine (szRuleS_any X.rm m1 _ V.a2 V.c2 M1.out HX.out.2.1.rm).mono ?_
      rintro e w1 ⟨rfl, hB⟩
      rw [L1.out]
      have HX := Lib.hid (HX.out.next hB)
      clear hB p0 p1 p2 p3 p4 p5 p6 p7 p8
      obtain ⟨p0, p1, p2, p3, p4, p5, p6, p7, p8⟩ := lay9 HX.out.1
      go_wp2
      go_ret
      exact ⟨by rw [HM.out]; rfl, HX.out.2.2.1⟩
  · have L0 : Hid (left m0 (X.al.length + rusSize X.al) = -1) := Lib.hid (left_gt d0)
    have HM : Hid (left m0 (cfSize X) = -1) := Lib.hid (by unfold cfSize; rw [left_gt (by omega)])
    clear hm  d0
    go_enter Try.func15, Try.ntmps15
    go_wp2_with fail
    refine (szRuleS_any X.al m0 _ V.a1 V.c1 M0.out HX.out.2.1.al).mono ?_
    rintro e w0 ⟨rfl, hB⟩
    rw [L0.out]
    have HX := Lib.hid (HX.out.next hB)
    clear hB p0 p1 p2 p3 p4 p5 p6 p7 p8
    obtain ⟨p0, p1, p2, p3, p4, p5, p6, p7, p8⟩ := lay9 HX.out.1
    go_wp2
    go_ret
    exact ⟨by rw [HM.out]; rfl, HX.out.2.2.1⟩

/-- a configuration that is handed back from a variable -/
theorem ret_config {fn : Func} {p : Tmp} {R : Ending → World → Prop} {a : Act} {W : World} {g : Nat} {v0 v1 v2 v3 v4 v5 v6 v7 v8 : Value} (hres : fn.results = #[.cell p 34])
    (hL : Lay W g #[v0, v1, v2, v3, v4, v5, v6, v7, v8]) (hp : a.tmps.getD p undef = .pointer (some ⟨g, 0, none⟩)) (hd : a.defers = []) (hR : R (.returned (.agg #[v0, v1, v2, v3, v4, v5, v6, v7, v8])) W) : bodyPost Try.prog fn R .ret a W := by
  refine bodyPost_ret (v := .agg #[v0, v1, v2, v3, v4, v5, v6, v7, v8]) ?_ hd hR
  have hp' : a.tmps[p]?.getD undef = .pointer (some ⟨g, 0, none⟩) := by simpa using hp
  have h0 := hL.1
  simp [results, hres, hp', go_sem, h0]
end Go.Proofs.Ytbcbmgeoaejlmaa
