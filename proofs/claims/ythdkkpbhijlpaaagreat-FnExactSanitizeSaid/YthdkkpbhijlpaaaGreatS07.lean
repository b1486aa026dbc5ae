import Derived.Deep.RegionHeld3
import Derived.Test.YthdkkpbhijlpaaaGreatS05
import Derived.Test.YthdkkpbhijlpaaaGreatS06
import Derived.Test.YthdkkpbhijlpaaaGreatS04
set_option linter.unusedVariables false
namespace Go.Proofs.YthdkkpbhijlpaaaGreat
open Go.ChangeShapes Go.WideShapes Go.ChangeAt Go.RowKit Go.Deep

/-- a configuration -/
structure Cf where
  ha : Bool
  hb : Bool
  al : List Ru
  rm : List Ru
  uw : List Ru
  at_ : List ByteArray
  dp : List ByteArray
  cm : Bool
  da : Bool
/-- where its lists stand -/
structure CfV where
  a1 : Option Addr
  c1 : Nat
  a2 : Option Addr
  c2 : Nat
  a3 : Option Addr
  c3 : Nat
  a4 : Option Addr
  c4 : Nat
  a5 : Option Addr
  c5 : Nat
structure CfIn (w : World) (X : Cf) (V : CfV) : Prop where
  al : RuIn w V.a1 X.al
  rm : RuIn w V.a2 X.rm
  uw : RuIn w V.a3 X.uw
  at_ : NmIn w V.a4 X.at_
  dp : NmIn w V.a5 X.dp
  l4 : X.at_.length ≤ V.c4
  l5 : X.dp.length ≤ V.c5
theorem CfIn.next {w w' : World} {X : Cf} {V : CfV} (h : CfIn w X V) (hB : Below w.heap.size w w') : CfIn w' X V := ⟨h.al.next hB, h.rm.next hB, h.uw.next hB, h.at_.next hB, h.dp.next hB, h.l4, h.l5⟩
theorem lay9 {w : World} {g : Nat} {v0 v1 v2 v3 v4 v5 v6 v7 v8 : Value} (h : Lay w g #[v0, v1, v2, v3, v4, v5, v6, v7, v8]) : w.cell? ⟨g, 0, none⟩ = some v0 ∧ w.cell? ⟨g, 1, none⟩ = some v1 ∧ w.cell? ⟨g, 2, none⟩ = some v2 ∧ w.cell? ⟨g, 3, none⟩ = some v3 ∧ w.cell? ⟨g, 4, none⟩ = some v4 ∧ w.cell? ⟨g, 5, none⟩ = some v5 ∧ w.cell? ⟨g, 6, none⟩ = some v6 ∧ w.cell? ⟨g, 7, none⟩ = some v7 ∧ w.cell? ⟨g, 8, none⟩ = some v8 :=
  ⟨h.1 0, h.1 1, h.1 2, h.1 3, h.1 4, h.1 5, h.1 6, h.1 7, h.1 8⟩
/-- its box g, made behind w -/
def CfBox (w W : World) (g : Nat) (X : Cf) (V : CfV) : Prop := Lay W g #[.bool X.ha, .bool X.hb, .slice V.a1 X.al.length V.c1, .slice V.a2 X.rm.length V.c2, .slice V.a3 X.uw.length V.c3, .slice V.a4 X.at_.length V.c4, .slice V.a5 X.dp.length V.c5, .bool X.cm, .bool X.da] ∧ CfIn W X V ∧ Below w.heap.size w W ∧ g < W.heap.size
theorem CfBox.next {w W W' : World} {g : Nat} {X : Cf} {V : CfV} (h : CfBox w W g X V) (hB : Below W.heap.size W W') : CfBox w W' g X V :=
  ⟨h.1.below hB h.2.2.2, h.2.1.next hB, h.2.2.1.trans (hB.mono h.2.2.1.size), Nat.lt_of_lt_of_le h.2.2.2 hB.size⟩
theorem CfBox.new {w : World} {X : Cf} {V : CfV} (h : CfIn w X V) (t : TypeId) : CfBox w (w.alloc (.cells #[.bool X.ha, .bool X.hb, .slice V.a1 X.al.length V.c1, .slice V.a2 X.rm.length V.c2, .slice V.a3 X.uw.length V.c3, .slice V.a4 X.at_.length V.c4, .slice V.a5 X.dp.length V.c5, .bool X.cm, .bool X.da] t)) w.heap.size X V :=
  ⟨Lay.new _ _ _, h.next ((Below.refl _ _).alloc (Nat.le_refl _) _), (Below.refl _ _).alloc (Nat.le_refl _) _, by simp⟩
def cfSize (X : Cf) : Nat := (X.al.length + rusSize X.al) + (X.rm.length + rusSize X.rm) + (X.uw.length + rusSize X.uw) + (X.at_.length + nmSize X.at_) + (X.dp.length + nmSize X.dp)
set_option maxHeartbeats 2000000 in
theorem szConfig_any (X : Cf) (V : CfV) (m : Nat) (w : World) (hm : m ≤ 1048576) (h : CfIn w X V) :
    Calls Tryz.prog 9 #[.agg #[.bool X.ha, .bool X.hb, .slice V.a1 X.al.length V.c1, .slice V.a2 X.rm.length V.c2, .slice V.a3 X.uw.length V.c3, .slice V.a4 X.at_.length V.c4, .slice V.a5 X.dp.length V.c5, .bool X.cm, .bool X.da], .int .i64 (m : Int)] w fun e w' => e = .returned (.int .i64 (left m (cfSize X))) ∧ Below w.heap.size w w' := by
  have HX := Lib.hid (CfBox.new h 26)
  obtain ⟨p0, p1, p2, p3, p4, p5, p6, p7, p8⟩ := lay9 HX.out.1
  clear h
  obtain ⟨m0, hm0⟩ : ∃ m0 : Nat, m0 = m := ⟨m, rfl⟩
  subst hm0
  have M0 := Lib.hid hm
  by_cases d0 : (X.al.length + rusSize X.al) ≤ m0
  · obtain ⟨m1, hm1⟩ : ∃ k : Nat, k + (X.al.length + rusSize X.al) = m0 := ⟨m0 - (X.al.length + rusSize X.al), by omega⟩
    have L0 : Hid (left m0 (X.al.length + rusSize X.al) = (m1 : Int)) := Lib.hid (by rw [left_le d0]; omega)
    have M1 : Hid (m1 ≤ 1048576) := Lib.hid (by have := M0.out; omega)
    by_cases d1 : (X.rm.length + rusSize X.rm) ≤ m1
    · obtain ⟨m2, hm2⟩ : ∃ k : Nat, k + (X.rm.length + rusSize X.rm) = m1 := ⟨m1 - (X.rm.length + rusSize X.rm), by omega⟩
      have L1 : Hid (left m1 (X.rm.length + rusSize X.rm) = (m2 : Int)) := Lib.hid (by rw [left_le d1]; omega)
      have M2 : Hid (m2 ≤ 1048576) := Lib.hid (by have := M1.out; omega)
      by_cases d2 : (X.uw.length + rusSize X.uw) ≤ m2
      · obtain ⟨m3, hm3⟩ : ∃ k : Nat, k + (X.uw.length + rusSize X.uw) = m2 := ⟨m2 - (X.uw.length + rusSize X.uw), by omega⟩
        have L2 : Hid (left m2 (X.uw.length + rusSize X.uw) = (m3 : Int)) := Lib.hid (by rw [left_le d2]; omega)
        have M3 : Hid (m3 ≤ 1048576) := Lib.hid (by have := M2.out; omega)
        by_cases d3 : (X.at_.length + nmSize X.at_) ≤ m3
        · obtain ⟨m4, hm4⟩ : ∃ k : Nat, k + (X.at_.length + nmSize X.at_) = m3 := ⟨m3 - (X.at_.length + nmSize X.at_), by omega⟩
          have L3 : Hid (left m3 (X.at_.length + nmSize X.at_) = (m4 : Int)) := Lib.hid (by rw [left_le d3]; omega)
          have M4 : Hid (m4 ≤ 1048576) := Lib.hid (by have := M3.out; omega)
          by_cases d4 : (X.dp.length + nmSize X.dp) ≤ m4
          · obtain ⟨m5, hm5⟩ : ∃ k : Nat, k + (X.dp.length + nmSize X.dp) = m4 := ⟨m4 - (X.dp.length + nmSize X.dp), by omega⟩
            have L4 : Hid (left m4 (X.dp.length + nmSize X.dp) = (m5 : Int)) := Lib.hid (by rw [left_le d4]; omega)
            have M5 : Hid (m5 ≤ 1048576) := Lib.hid (by have := M4.out; omega)
            have HM : Hid (left m0 (cfSize X) = (m5 : Int)) := Lib.hid (by unfold cfSize; rw [left_le (by omega)]; omega)
            clear hm hm1 hm2 hm3 hm4 hm5 d0 d1 d2 d3 d4
            go_enter Tryz.func9, Tryz.ntmps9
            go_wp2_with fail
            refine (szRuleS_any X.al m0 _ V.a1 V.c1 M0.out HX.out.2.1.al).mono ?_
            rintro e w0 ⟨rfl, hB⟩
            rw [L0.out]
            have HX := Lib.hid (HX.out.next hB)
            clear hB p0 p1 p2 p3 p4 p5 p6 p7 p8
            obtain ⟨p0, p1, p2, p3, p4, p5, p6, p7, p8⟩ := lay9 HX.out.1
            go_wp2_with fail
            refine (szRuleS_any X.rm m1 _ V.a2 V.c2 M1.out HX.out.2.1.rm).mono ?_
            rintro e w1 ⟨rfl, hB⟩
            rw [L1.out]
            have HX := Lib.hid (HX.out.next hB)
            clear hB p0 p1 p2 p3 p4 p5 p6 p7 p8
            obtain ⟨p0, p1, p2, p3, p4, p5, p6, p7, p8⟩ := lay9 HX.out.1
            go_wp2_with fail
            refine (szRuleS_any X.uw m2 _ V.a3 V.c3 M2.out HX.out.2.1.uw).mono ?_
            rintro e w2 ⟨rfl, hB⟩
            rw [L2.out]
            have HX := Lib.hid (HX.out.next hB)
            clear hB p0 p1 p2 p3 p4 p5 p6 p7 p8
            obtain ⟨p0, p1, p2, p3, p4, p5, p6, p7, p8⟩ := lay9 HX.out.1
            go_wp2_with fail
            refine (szStringS_any X.at_ m3 _ V.a4 V.c4 M3.out HX.out.2.1.at_).mono ?_
            rintro e w3 ⟨rfl, rfl⟩
            rw [L3.out]
            go_wp2_with fail
            refine (szStringS_any X.dp m4 _ V.a5 V.c5 M4.out HX.out.2.1.dp).mono ?_
            rintro e w4 ⟨rfl, rfl⟩
            rw [L4.out]
            go_wp2
            go_ret
            exact ⟨by rw [HM.out]; go_num, HX.out.2.2.1⟩
          · have L4 : Hid (left m4 (X.dp.length + nmSize X.dp) = -1) := Lib.hid (left_gt d4)
            have HM : Hid (left m0 (cfSize X) = -1) := Lib.hid (by unfold cfSize; rw [left_gt (by omega)])
            clear hm hm1 hm2 hm3 hm4 d0 d1 d2 d3 d4
            go_enter Tryz.func9, Tryz.ntmps9
            go_wp2_with fail
            refine (szRuleS_any X.al m0 _ V.a1 V.c1 M0.out HX.out.2.1.al).mono ?_
            rintro e w0 ⟨rfl, hB⟩
            rw [L0.out]
            have HX := Lib.hid (HX.out.next hB)
            clear hB p0 p1 p2 p3 p4 p5 p6 p7 p8
            obtain ⟨p0, p1, p2, p3, p4, p5, p6, p7, p8⟩ := lay9 HX.out.1
            go_wp2_with fail
            refine (szRuleS_any X.rm m1 _ V.a2 V.c2 M1.out HX.out.2.1.rm).mono ?_
            rintro e w1 ⟨rfl, hB⟩
            rw [L1.out]
            have HX := Lib.hid (HX.out.next hB)
            clear hB p0 p1 p2 p3 p4 p5 p6 p7 p8
            obtain ⟨p0, p1, p2, p3, p4, p5, p6, p7, p8⟩ := lay9 HX.out.1
            go_wp2_with fail
            refine (szRuleS_any X.uw m2 _ V.a3 V.c3 M2.out HX.out.2.1.uw).mono ?_
            rintro e w2 ⟨rfl, hB⟩
            rw [L2.out]
            have HX := Lib.hid (HX.out.next hB)
            clear hB p0 p1 p2 p3 p4 p5 p6 p7 p8
            obtain ⟨p0, p1, p2, p3, p4, p5, p6, p7, p8⟩ := lay9 HX.out.1
            go_wp2_with fail
            refine (szStringS_any X.at_ m3 _ V.a4 V.c4 M3.out HX.out.2.1.at_).mono ?_
            rintro e w3 ⟨rfl, rfl⟩
            rw [L3.out]
            go_wp2_with fail
            refine (szStringS_any X.dp m4 _ V.a5 V.c5 M4.out HX.out.2.1.dp).mono ?_
            rintro e w4 ⟨rfl, rfl⟩
            rw [L4.out]
            go_wp2
            go_ret
            exact ⟨by rw [HM.out]; rfl, HX.out.2.2.1⟩
        · have L3 : Hid (left m3 (X.at_.length + nmSize X.at_) = -1) := Lib.hid (left_gt d3)
          have HM : Hid (left m0 (cfSize X) = -1) := Lib.hid (by unfold cfSize; rw [left_gt (by omega)])
          clear hm hm1 hm2 hm3 d0 d1 d2 d3
          go_enter Tryz.func9, Tryz.ntmps9
          go_wp2_with fail
          refine (szRuleS_any X.al m0 _ V.a1 V.c1 M0.out HX.out.2.1.al).mono ?_
          rintro e w0 ⟨rfl, hB⟩
          rw [L0.out]
          have HX := Lib.hid (HX.out.next hB)
          clear hB p0 p1 p2 p3 p4 p5 p6 p7 p8
          obtain ⟨p0, p1, p2, p3, p4, p5, p6, p7, p8⟩ := lay9 HX.out.1
          go_wp2_with fail
          refine (szRuleS_any X.rm m1 _ V.a2 V.c2 M1.out HX.out.2.1.rm).mono ?_
          rintro e w1 ⟨rfl, hB⟩
          rw [L1.out]
          have HX := Lib.hid (HX.out.next hB)
          clear hB p0 p1 p2 p3 p4 p5 p6 p7 p8
          obtain ⟨p0, p1, p2, p3, p4, p5, p6, p7, p8⟩ := lay9 HX.out.1
          go_wp2_with fail
          refine (szRuleS_any X.uw m2 _ V.a3 V.c3 M2.out HX.out.2.1.uw).mono ?_
          rintro e w2 ⟨rfl, hB⟩
          rw [L2.out]
          have HX := Lib.hid (HX.out.next hB)
          clear hB p0 p1 p2 p3 p4 p5 p6 p7 p8
          obtain ⟨p0, p1, p2, p3, p4, p5, p6, p7, p8⟩ := lay9 HX.out.1
          go_wp2_with fail
          refine (szStringS_any X.at_ m3 _ V.a4 V.c4 M3.out HX.out.2.1.at_).mono ?_
          rintro e w3 ⟨rfl, rfl⟩
          rw [L3.out]
          go_wp2
          go_ret
          exact ⟨by rw [HM.out]; rfl, HX.out.2.2.1⟩
      · have L2 : Hid (left m2 (X.uw.length + rusSize X.uw) = -1) := Lib.hid (left_gt d2)
        have HM : Hid (left m0 (cfSize X) = -1) := Lib.hid (by unfold cfSize; rw [left_gt (by omega)])
        clear hm hm1 hm2 d0 d1 d2
        go_enter Tryz.func9, Tryz.ntmps9
        go_wp2_with fail
        refine (szRuleS_any X.al m0 _ V.a1 V.c1 M0.out HX.out.2.1.al).mono ?_
        rintro e w0 ⟨rfl, hB⟩
        rw [L0.out]
        have HX := Lib.hid (HX.out.next hB)
        clear hB p0 p1 p2 p3 p4 p5 p6 p7 p8
        obtain ⟨p0, p1, p2, p3, p4, p5, p6, p7, p8⟩ := lay9 HX.out.1
        go_wp2_with fail
        refine (szRuleS_any X.rm m1 _ V.a2 V.c2 M1.out HX.out.2.1.rm).mono ?_
        rintro e w1 ⟨rfl, hB⟩
        rw [L1.out]
        have HX := Lib.hid (HX.out.next hB)
        clear hB p0 p1 p2 p3 p4 p5 p6 p7 p8
        obtain ⟨p0, p1, p2, p3, p4, p5, p6, p7, p8⟩ := lay9 HX.out.1
        go_wp2_with fail
        refine (szRuleS_any X.uw m2 _ V.a3 V.c3 M2.out HX.out.2.1.uw).mono ?_
        rintro e w2 ⟨rfl, hB⟩
        rw [L2.out]
        have HX := Lib.hid (HX.out.next hB)
        clear hB p0 p1 p2 p3 p4 p5 p6 p7 p8
        obtain ⟨p0, p1, p2, p3, p4, p5, p6, p7, p8⟩ := lay9 HX.out.1
        go_wp2
        go_ret
        exact ⟨by rw [HM.out]; rfl, HX.out.2.2.1⟩
    · have L1 : Hid (left m1 (X.rm.length + rusSize X.rm) = -1) := Lib.hid (left_gt d1)
      have HM : Hid (left m0 (cfSize X) = -1) := Lib.hid (by unfold cfSize; rw [left_gt (by omega)])
      clear hm hm1 d0 d1
      go_enter Tryz.func9, Tryz.ntmps9
      go_wp2_with fail
      refine (szRuleS_any X.al m0 _ V.a1 V.c1 M0.out HX.out.2.1.al).mono ?_
      rintro e w0 ⟨rfl, hB⟩
      rw [L0.out]
      have HX := Lib.hid (HX.out.next hB)
      clear hB p0 p1 p2 p3 p4 p5 p6 p7 p8
      obtain ⟨p0, p1, p2, p3, p4, p5, p6, p7, p8⟩ := lay9 HX.out.1
      go_wp2_with fail
      refine (szRuleS_any X.rm m1 _ V.a2 V.c2 M1.out HX.out.2.1.rm).mono ?_
      rintro e w1 ⟨rfl, hB⟩
      rw [L1.out]
      have HX := Lib.hid (HX.out.next hB)
      clear hB p0 p1 p2 p3 p4 p5 p6 p7 p8
      obtain ⟨p0, p1, p2, p3, p4, p5, p6, p7, p8⟩ := lay9 HX.out.1
      go_wp2
      go_ret
      exact ⟨by rw [HM.out]; rfl, HX.out.2.2.1⟩
  · have L0 : Hid (left m0 (X.al.length + rusSize X.al) = -1) := Lib.hid (left_gt d0)
    have HM : Hid (left m0 (cfSize X) = -1) := Lib.hid (by unfold cfSize; rw [left_gt (by omega)])
    clear hm  d0
    go_enter Tryz.func9, Tryz.ntmps9
    go_wp2_with fail
    refine (szRuleS_any X.al m0 _ V.a1 V.c1 M0.out HX.out.2.1.al).mono ?_
    rintro e w0 ⟨rfl, hB⟩
    rw [L0.out]
    have HX := Lib.hid (HX.out.next hB)
    clear hB p0 p1 p2 p3 p4 p5 p6 p7 p8
    obtain ⟨p0, p1, p2, p3, p4, p5, p6, p7, p8⟩ := lay9 HX.out.1
    go_wp2
    go_ret
    exact ⟨by rw [HM.out]; rfl, HX.out.2.2.1⟩
/-- a configuration that is handed back from a variable -/
theorem ret_config {fn : Func} {p : Tmp} {R : Ending → World → Prop} {a : Act} {W : World} {g : Nat} {v0 v1 v2 v3 v4 v5 v6 v7 v8 : Value} (hres : fn.results = #[.cell p 35])
    (hL : Lay W g #[v0, v1, v2, v3, v4, v5, v6, v7, v8]) (hp : a.tmps.getD p undef = .pointer (some ⟨g, 0, none⟩)) (hd : a.defers = []) (hR : R (.returned (.agg #[v0, v1, v2, v3, v4, v5, v6, v7, v8])) W) : bodyPost Tryz.prog fn R .ret a W := by
  refine bodyPost_ret (v := .agg #[v0, v1, v2, v3, v4, v5, v6, v7, v8]) ?_ hd hR
  have hp' : a.tmps[p]?.getD undef = .pointer (some ⟨g, 0, none⟩) := by simpa using hp
  have h0 := hL.1
  simp [results, hres, hp', go_sem, h0]
end Go.Proofs.YthdkkpbhijlpaaaGreat
namespace Go.Proofs.YthdkkpbhijlpaaaGreat
open Go.ChangeShapes Go.WideShapes Go.ChangeAt Go.RowKit Go.Deep
section
variable {H : Type} {enc : TypeId × Value → H} {P : Program} {w : World} {base : Nat} {spare : Nat → Bool} {held : Bool}
/-- a configuration's fields -/
structure CfTy (P : Program) (k rs e ta ea : TypeId) (f0 f1 f2 : Field) (g0 g1 g2 g3 g4 g5 g6 g7 g8 : Field) : Prop where
  T : RuTy P e ta ea f0 f1 f2
  hk : P.underlying k = some (.struct #[g0, g1, g2, g3, g4, g5, g6, g7, g8])
  hrs : P.underlying rs = some (.slice e)
  o : g0.offset = 0 ∧ g1.offset = 1 ∧ g2.offset = 2 ∧ g3.offset = 3 ∧ g4.offset = 4 ∧ g5.offset = 5 ∧ g6.offset = 6 ∧ g7.offset = 7 ∧ g8.offset = 8
  c : P.cellsOf g0.type = 1 ∧ P.cellsOf g1.type = 1 ∧ P.cellsOf g2.type = 1 ∧ P.cellsOf g3.type = 1 ∧ P.cellsOf g4.type = 1 ∧ P.cellsOf g5.type = 1 ∧ P.cellsOf g6.type = 1 ∧ P.cellsOf g7.type = 1 ∧ P.cellsOf g8.type = 1
  u : P.underlying g0.type = some .bool ∧ P.underlying g1.type = some .bool ∧ g2.type = rs ∧ g3.type = rs ∧ g4.type = rs ∧ g5.type = ta ∧ g6.type = ta ∧ P.underlying g7.type = some .bool ∧ P.underlying g8.type = some .bool
/-- a configuration that came in -/
theorem open_config {k rs e ta ea : TypeId} {f0 f1 f2 : Field} {g0 g1 g2 g3 g4 g5 g6 g7 g8 : Field} (T : CfTy P k rs e ta ea f0 f1 f2 g0 g1 g2 g3 g4 g5 g6 g7 g8) {cs : Array Value} (hs : cs.size = 9) {x : DataW H × List MemPlace} (h : ∃ fuel, DataW.trod enc P w base spare held fuel k (Value.agg cs).cells.toList = some x) :
    ∃ (X : Cf) (V : CfV), cs = #[.bool X.ha, .bool X.hb, .slice V.a1 X.al.length V.c1, .slice V.a2 X.rm.length V.c2, .slice V.a3 X.uw.length V.c3, .slice V.a4 X.at_.length V.c4, .slice V.a5 X.dp.length V.c5, .bool X.cm, .bool X.da] ∧ CfIn w X V := by
  obtain ⟨fuel, h⟩ := h
  obtain ⟨ls⟩ := cs
  obtain ⟨v0, v1, v2, v3, v4, v5, v6, v7, v8, rfl⟩ : ∃ v0 v1 v2 v3 v4 v5 v6 v7 v8, ls = [v0, v1, v2, v3, v4, v5, v6, v7, v8] := by
    match ls, hs with
    | [v0, v1, v2, v3, v4, v5, v6, v7, v8], _ => exact ⟨v0, v1, v2, v3, v4, v5, v6, v7, v8, rfl⟩
  replace h : DataW.trod enc P w base spare held fuel k [v0, v1, v2, v3, v4, v5, v6, v7, v8] = some x := by simpa [Value.cells] using h
  obtain ⟨q0, q1, q2, q3, q4, q5, q6, q7, q8⟩ := T.o
  obtain ⟨r0, r1, r2, r3, r4, r5, r6, r7, r8⟩ := T.c
  obtain ⟨u0, u1, u2, u3, u4, u5, u6, u7, u8⟩ := T.u
  obtain ⟨xs, k, hk, _, _, hxl, hf⟩ := DataW.trod_struct T.hk h
  match xs, hxl with
  | [y0, y1, y2, y3, y4, y5, y6, y7, y8], _ =>
    have e0 := hf 0 g0 rfl
    have e1 := hf 1 g1 rfl
    have e2 := hf 2 g2 rfl
    have e3 := hf 3 g3 rfl
    have e4 := hf 4 g4 rfl
    have e5 := hf 5 g5 rfl
    have e6 := hf 6 g6 rfl
    have e7 := hf 7 g7 rfl
    have e8 := hf 8 g8 rfl
    clear hf h
    simp [q0, r0] at e0
    simp [q1, r1] at e1
    simp [q2, r2] at e2
    simp [q3, r3] at e3
    simp [q4, r4] at e4
    simp [q5, r5] at e5
    simp [q6, r6] at e6
    simp [q7, r7] at e7
    simp [q8, r8] at e8
    obtain ⟨z0, p0, _⟩ := DataW.trod_bool u0 e0
    obtain ⟨z1, p1, _⟩ := DataW.trod_bool u1 e1
    rw [u2] at e2
    rw [u3] at e3
    rw [u4] at e4
    rw [u5] at e5
    rw [u6] at e6
    obtain ⟨l2, A2, c2, p2, _, t2⟩ := open_rus T.T T.hrs e2
    obtain ⟨l3, A3, c3, p3, _, t3⟩ := open_rus T.T T.hrs e3
    obtain ⟨l4, A4, c4, p4, _, t4⟩ := open_rus T.T T.hrs e4
    obtain ⟨l5, A5, c5, p5, m5, t5⟩ := open_nm T.T.hta T.T.hea T.T.cea e5
    obtain ⟨l6, A6, c6, p6, m6, t6⟩ := open_nm T.T.hta T.T.hea T.T.cea e6
    obtain ⟨z7, p7, _⟩ := DataW.trod_bool u7 e7
    obtain ⟨z8, p8, _⟩ := DataW.trod_bool u8 e8
    simp at p0 p1 p2 p3 p4 p5 p6 p7 p8
    subst p0 p1 p2 p3 p4 p5 p6 p7 p8
    exact ⟨⟨z0, z1, l2, l3, l4, l5, l6, z7, z8⟩, ⟨A2, c2, A3, c3, A4, c4, A5, c5, A6, c6⟩, rfl, ⟨t2, t3, t4, t5, t6, m5, m6⟩⟩
end
end Go.Proofs.YthdkkpbhijlpaaaGreat
namespace Go.Proofs.YthdkkpbhijlpaaaGreat
open Go.ChangeShapes Go.WideShapes Go.ChangeAt Go.RowKit

abbrev wantS : ByteArray := { data := #[106, 97, 118, 97, 115, 99, 114, 105, 112, 116, 58] }
def wantI (k : Nat) : Int := if h : k < wantS.size then (wantS[k].toNat : Int) else 0
def skipB (c : Int) (k : Nat) : Bool := c == 9 || c == 10 || c == 13 || (k == 0 && decide (c ≤ 32))
/-- from a place on, k bytes of the scheme having been met -/
def badL : List UInt8 → Nat → Bool
  | [], k => k == 11
  | c :: r, k => if 11 ≤ k then true else if skipB (c.toNat : Int) k = true then badL r k else if lowB (c.toNat : Int) = wantI k then badL r (k + 1) else false
theorem badL_full (l : List UInt8) : badL l 11 = true := by cases l <;> simp [badL]
theorem drop_cons {s : ByteArray} {n : Nat} (h : n < s.size) : s.data.toList.drop n = s[n] :: s.data.toList.drop (n + 1) := by
  rw [List.drop_eq_getElem_cons (by simpa using h)]; rfl
theorem badL_skip {s : ByteArray} {n m : Nat} {b : Bool} (h : n < s.size) (hm : m < 11) (hk : skipB (s[n].toNat : Int) m = true) (hb : badL (s.data.toList.drop n) m = b) : badL (s.data.toList.drop (n + 1)) m = b := by
  rw [drop_cons h, badL, if_neg (by omega), if_pos hk] at hb; exact hb
theorem badL_hit {s : ByteArray} {n m : Nat} {b : Bool} (h : n < s.size) (hm : m < 11) (hk : skipB (s[n].toNat : Int) m = false) (he : lowB (s[n].toNat : Int) = wantI m) (hb : badL (s.data.toList.drop n) m = b) : badL (s.data.toList.drop (n + 1)) (m + 1) = b := by
  rw [drop_cons h, badL, if_neg (by omega), if_neg (by simp [hk]), if_pos he] at hb; exact hb
theorem badL_miss {s : ByteArray} {n m : Nat} {b : Bool} (h : n < s.size) (hm : m < 11) (hk : skipB (s[n].toNat : Int) m = false) (he : ¬ lowB (s[n].toNat : Int) = wantI m) (hb : badL (s.data.toList.drop n) m = b) : false = b := by
  rw [drop_cons h, badL, if_neg (by omega), if_neg (by simp [hk]), if_neg he] at hb; exact hb
theorem badL_end {s : ByteArray} {m : Nat} {b : Bool} (hb : badL (s.data.toList.drop s.size) m = b) : ((m : Int) == 11) = b := by
  rw [List.drop_of_length_le (by simp), badL] at hb; rw [← hb, Bool.eq_iff_iff]; simp; omega
theorem wantI_in {m : Nat} (h : m < wantS.size) : wantI m = (wantS[m].toNat : Int) := by rw [wantI, dif_pos h]
theorem size_want : wantS.size = 11 := rfl
theorem low_great {c : Int} (h1 : 65 ≤ c) (h2 : c ≤ 90) : lowB c = c + 32 := by simp [lowB, great, h1, h2]
theorem low_other {c : Int} (h : ¬ (65 ≤ c ∧ c ≤ 90)) : lowB c = c := by rw [lowB, if_neg (by simp [great]; omega)]
theorem want_eq {m : Nat} {x : Int} (h : m < wantS.size) (e : (x != (wantS[m].toNat : Int)) = false) : x = wantI m := by rw [wantI_in h]; simpa using e
theorem want_ne {m : Nat} {x : Int} (h : m < wantS.size) (e : (x != (wantS[m].toNat : Int)) = true) : ¬ x = wantI m := by rw [wantI_in h]; simpa using e
set_option maxHeartbeats 2000000 in
theorem l01Bad_any (s : ByteArray) (w : World) (hs : s.size ≤ maxLen) :
    Calls Tryz.prog 153 #[.string s] w fun e w' => e = .returned (.bool (badL s.data.toList 0)) ∧ w = w' := by
  unfold maxLen at hs
  go_enter Tryz.func153, Tryz.ntmps153
  go_wp2
  go_loop [5, 4, 6] (fun i k _ => ∃ n m : Nat, n ≤ s.size ∧ m ≤ 11 ∧ i = .int .i64 n ∧ k = .int .i64 m ∧ badL (s.data.toList.drop n) m = badL s.data.toList 0) (fun i _ _ => s.size - (intOf i).toNat)
  case atStart => exact ⟨0, 0, by omega, by omega, rfl, rfl, rfl⟩
  case round =>
    obtain ⟨n, m, hn, hm, rfl, rfl, hall⟩ := hrel
    have HA := Lib.hid hall
    clear hall
    by_cases hlt : n < s.size
    · by_cases hm2 : m < 11
      · by_cases h9 : ((s[n].toNat : Int) == 9) = true
        · have HK := Lib.hid (show skipB (s[n].toNat : Int) m = true by simp [skipB, h9])
          go_wp2
          go_round
          case rel => exact ⟨n + 1, m, by omega, by omega, by go_num, rfl, badL_skip hlt hm2 HK.out HA.out⟩
          case measure => simp [intOf]; omega
        · have h9' : ((s[n].toNat : Int) == 9) = false := by simpa using h9
          clear h9
          by_cases h10 : ((s[n].toNat : Int) == 10) = true
          · have HK := Lib.hid (show skipB (s[n].toNat : Int) m = true by simp [skipB, h10])
            go_wp2
            go_round
            case rel => exact ⟨n + 1, m, by omega, by omega, by go_num, rfl, badL_skip hlt hm2 HK.out HA.out⟩
            case measure => simp [intOf]; omega
          · have h10' : ((s[n].toNat : Int) == 10) = false := by simpa using h10
            clear h10
            by_cases h13 : ((s[n].toNat : Int) == 13) = true
            · have HK := Lib.hid (show skipB (s[n].toNat : Int) m = true by simp [skipB, h13])
              go_wp2
              go_round
              case rel => exact ⟨n + 1, m, by omega, by omega, by go_num, rfl, badL_skip hlt hm2 HK.out HA.out⟩
              case measure => simp [intOf]; omega
            · have h13' : ((s[n].toNat : Int) == 13) = false := by simpa using h13
              clear h13
              by_cases h32 : m = 0 ∧ (s[n].toNat : Int) ≤ 32
              · obtain ⟨hm0, h32⟩ := h32
                have HK := Lib.hid (show skipB (s[n].toNat : Int) m = true by simp [skipB, h32, hm0])
                have hm0' : ((m : Int) == 0) = true := by simp [hm0]
                clear hm0
                go_wp2
                go_round
                case rel => exact ⟨n + 1, m, by omega, by omega, by go_num, rfl, badL_skip hlt hm2 HK.out HA.out⟩
                case measure => simp [intOf]; omega
              · have HK := Lib.hid (show skipB (s[n].toNat : Int) m = false by simp [skipB]; simp at h9' h10' h13'; omega)
                have h32' : ((m : Int) == 0) = false ∨ (((m : Int) == 0) = true ∧ 32 < (s[n].toNat : Int)) := by
                  by_cases q : m = 0
                  · exact Or.inr ⟨by simp [q], by omega⟩
                  · exact Or.inl (by simp; omega)
                clear h32
                have hw : m < wantS.size := by rw [size_want]; exact hm2
                have HW := Lib.hid hw
                clear hw
                rcases h32' with q | ⟨q, q2⟩
                all_goals
                  by_cases hg : 65 ≤ (s[n].toNat : Int) ∧ (s[n].toNat : Int) ≤ 90
                  · obtain ⟨g1, g2⟩ := hg
                    go_wp2
                    · go_ret
                      exact ⟨ret_bool (badL_miss hlt hm2 HK.out (by rw [low_great g1 g2]; exact want_ne HW.out (by assumption)) HA.out), rfl⟩
                    · go_round
                      case rel => exact ⟨n + 1, m + 1, by omega, by omega, by go_num, by go_num, badL_hit hlt hm2 HK.out (by rw [low_great g1 g2]; exact want_eq HW.out (by assumption)) HA.out⟩
                      case measure => simp [intOf]; omega
                  · have HG := Lib.hid hg
                    have hg' : (s[n].toNat : Int) < 65 ∨ (65 ≤ (s[n].toNat : Int) ∧ decide ((s[n].toNat : Int) ≤ 90) = false) := by
                      by_cases q : (s[n].toNat : Int) < 65
                      · exact Or.inl q
                      · exact Or.inr ⟨by omega, by simp; omega⟩
                    clear hg
                    rcases hg' with q3 | ⟨q3, q4⟩
                    all_goals
                      go_wp2
                      · go_ret
                        exact ⟨ret_bool (badL_miss hlt hm2 HK.out (by rw [low_other HG.out]; exact want_ne HW.out (by assumption)) HA.out), rfl⟩
                      · go_round
                        case rel => exact ⟨n + 1, m + 1, by omega, by omega, by go_num, by go_num, badL_hit hlt hm2 HK.out (by rw [low_other HG.out]; exact want_eq HW.out (by assumption)) HA.out⟩
                        case measure => simp [intOf]; omega
      · obtain rfl : m = 11 := by omega
        go_wp2
        go_ret
        exact ⟨ret_bool (by rw [← HA.out, badL_full]), rfl⟩
    · obtain rfl : n = s.size := by omega
      go_wp2
      go_ret
      exact ⟨ret_bool (badL_end HA.out), rfl⟩
end Go.Proofs.YthdkkpbhijlpaaaGreat
