import Derived.Test.YthdkkpbhijlpaaaGreatS38
import Derived.Test.YthdkkpbhijlpaaaGreatS12
import Derived.Test.YthdkkpbhijlpaaaGreatS07
set_option linter.unusedVariables false
namespace Go.Proofs.YthdkkpbhijlpaaaGreat
open Go.ChangeShapes Go.WideShapes Go.ChangeAt Go.RowKit Go.Deep

set_option maxHeartbeats 2000000 in
theorem sieveBy_any (X : Cf) (V : CfV) (w : World) :
    Calls Tryz.prog 40 #[.agg #[.bool X.ha, .bool X.hb, .slice V.a1 X.al.length V.c1, .slice V.a2 X.rm.length V.c2, .slice V.a3 X.uw.length V.c3, .slice V.a4 X.at_.length V.c4, .slice V.a5 X.dp.length V.c5, .bool X.cm, .bool X.da]] w fun e w' => e = .returned (.func (.func 83) #[] #[.pointer (some ⟨w.heap.size, 0, none⟩), .pointer (some ⟨w.heap.size + 1, 0, none⟩)]) ∧ Below w.heap.size w w' ∧ w.heap.size + 1 < w'.heap.size ∧ Lay w' w.heap.size #[.bool X.ha, .bool X.hb, .slice V.a1 X.al.length V.c1, .slice V.a2 X.rm.length V.c2, .slice V.a3 X.uw.length V.c3, .slice V.a4 X.at_.length V.c4, .slice V.a5 X.dp.length V.c5, .bool X.cm, .bool X.da] ∧ w'.cell? ⟨w.heap.size + 1, 0, none⟩ = some (.func (.func 83) #[] #[.pointer (some ⟨w.heap.size, 0, none⟩), .pointer (some ⟨w.heap.size + 1, 0, none⟩)]) := by
  have LC := Lib.hid (Lay.new w #[.bool X.ha, .bool X.hb, .slice V.a1 X.al.length V.c1, .slice V.a2 X.rm.length V.c2, .slice V.a3 X.uw.length V.c3, .slice V.a4 X.at_.length V.c4, .slice V.a5 X.dp.length V.c5, .bool X.cm, .bool X.da] 35)
  have hs1 : (w.alloc (.cells #[.bool X.ha, .bool X.hb, .slice V.a1 X.al.length V.c1, .slice V.a2 X.rm.length V.c2, .slice V.a3 X.uw.length V.c3, .slice V.a4 X.at_.length V.c4, .slice V.a5 X.dp.length V.c5, .bool X.cm, .bool X.da] 35)).heap.size = w.heap.size + 1 := by simp
  go_enter Tryz.func40, Tryz.ntmps40
  go_wp2
  go_ret
  refine ⟨rfl, by go_grown, by simp, ?_, ?_⟩
  · exact LC.out.below ((Below.refl _ _).alloc (Nat.le_refl _) _) (by simp)
  · rw [← hs1]
    exact World.cell?_alloc_new _ _ _ _
set_option maxHeartbeats 2000000 in
set_option maxRecDepth 100000 in
theorem implSanitize_any (X : Cf) (V : CfV) (F : Fo) (w : World) (A : Option Addr) (c b o lo hi : Nat) (h : CfIn w X V) (hmx : MaxAt w) (hd : F.nodes ≤ 1048576) (hh : hi ≤ w.heap.size) (hA : RowAt lo hi A F.len b o) (hF : FoAt w lo hi b o F) :
    Calls Tryz.prog 13 #[.slice A F.len c, .agg #[.bool X.ha, .bool X.hb, .slice V.a1 X.al.length V.c1, .slice V.a2 X.rm.length V.c2, .slice V.a3 X.uw.length V.c3, .slice V.a4 X.at_.length V.c4, .slice V.a5 X.dp.length V.c5, .bool X.cm, .bool X.da]] w fun e w' => ∃ v bl, e = .returned (.tuple #[v, .int .i64 (sanC X F)]) ∧ GRow w' w.heap.size v (sanO X F) bl ∧ Below w.heap.size w w' := by
  have HA := Lib.hid hA
  have HC := Lib.hid h
  have HMX := Lib.hid hmx
  have B0 : Hid (Below w.heap.size w (w.alloc (.cells #[.bool X.ha, .bool X.hb, .slice V.a1 X.al.length V.c1, .slice V.a2 X.rm.length V.c2, .slice V.a3 X.uw.length V.c3, .slice V.a4 X.at_.length V.c4, .slice V.a5 X.dp.length V.c5, .bool X.cm, .bool X.da] 35))) := Lib.hid ((Below.refl _ _).alloc (Nat.le_refl _) _)
  have HX : Hid (Lay (w.alloc (.cells #[.bool X.ha, .bool X.hb, .slice V.a1 X.al.length V.c1, .slice V.a2 X.rm.length V.c2, .slice V.a3 X.uw.length V.c3, .slice V.a4 X.at_.length V.c4, .slice V.a5 X.dp.length V.c5, .bool X.cm, .bool X.da] 35)) w.heap.size #[.bool X.ha, .bool X.hb, .slice V.a1 X.al.length V.c1, .slice V.a2 X.rm.length V.c2, .slice V.a3 X.uw.length V.c3, .slice V.a4 X.at_.length V.c4, .slice V.a5 X.dp.length V.c5, .bool X.cm, .bool X.da]) := Lib.hid (Lay.new w #[.bool X.ha, .bool X.hb, .slice V.a1 X.al.length V.c1, .slice V.a2 X.rm.length V.c2, .slice V.a3 X.uw.length V.c3, .slice V.a4 X.at_.length V.c4, .slice V.a5 X.dp.length V.c5, .bool X.cm, .bool X.da] 35)
  have HF := Lib.hid hF
  obtain ⟨p0, p1, p2, p3, p4, p5, p6, p7, p8⟩ := lay9 HX.out
  clear h hA hF hmx
  by_cases hk : faultOf F = 0
  · have HK := Lib.hid hk
    have HG := Lib.hid (fine_good hk)
    by_cases hc : checkOf X = 0
    · have HCK := Lib.hid hc
      have HS : Hid (sanC X F = 0) := Lib.hid (by unfold sanC; rw [if_pos hk, hc])
      have HO : Hid (sanO X F = F.san X) := Lib.hid (by unfold sanO; rw [if_pos HS.out])
      have HRL := Lib.hid (cfOK_lists (checkOf_ok hc))
      have eg : ∀ args w, (callFunc 83 args).run Tryz.prog w = .ok (.enter 83 args) w := fun args w => by kernel_rfl
      clear hk hc
      go_enter Tryz.func13, Tryz.ntmps13
      go_wp2_with (first
        | (go_at_call 38; refine (treeFault_any F _ A c b o lo hi hd (Nat.le_trans hh B0.out.size) HA.out (FoAt.below HA.out HF.out B0.out hh)).mono ?_; rintro e w1 ⟨rfl, hB⟩; rw [HK.out]; have B1 := Lib.hid (B0.out.trans (hB.mono B0.out.size)); have X1 := Lib.hid (HX.out.below hB (by simp)); clear p0 p1 p2 p3 p4 p5 p6 p7 p8; obtain ⟨p0, p1, p2, p3, p4, p5, p6, p7, p8⟩ := lay9 X1.out; clear hB)
        | (go_at_call 39; refine (implCheck_any X V _ (HC.out.next B1.out)).mono ?_; rintro e w2 ⟨rfl, hB⟩; rw [HCK.out]; have B2 := Lib.hid (B1.out.trans (hB.mono B1.out.size)); have X2 := Lib.hid (X1.out.below hB (World.block_lt_of_cell? _ ⟨w.heap.size, 0, none⟩ p0)); clear p0 p1 p2 p3 p4 p5 p6 p7 p8; obtain ⟨p0, p1, p2, p3, p4, p5, p6, p7, p8⟩ := lay9 X2.out; clear hB)
        | (go_at_call 40; refine (sieveBy_any X V _).mono ?_; rintro e w3 ⟨rfl, hB, hs3, hl3, hc3⟩; have B3 := Lib.hid (B2.out.trans (hB.mono B2.out.size)); have H3 := Lib.hid (And.intro hs3 (And.intro hl3 hc3)); clear hB hs3 hl3 hc3)
        | (go_at_fn 83; refine (leave_lt X V HRL.out.1 HRL.out.2.1 HRL.out.2.2 (F.nodes + 1) F (Nat.lt_succ_self _) w3 A c b o lo hi _ _ HG.out.1 HG.out.2 ⟨Nat.lt_of_succ_lt H3.out.1, H3.out.1, H3.out.2.1, H3.out.2.2, HC.out.next B3.out, HMX.out.below B3.out⟩ HA.out (Nat.le_trans hh B3.out.size) (FoAt.below HA.out HF.out B3.out hh)).mono ?_; rintro e w4 ⟨v, bl, rfl, hB, hG⟩; have H4 := Lib.hid (And.intro hG (B3.out.trans (hB.mono B3.out.size))); clear hB hG))
      go_ret2
      exact ⟨v, bl, by rw [HS.out]; rfl, by rw [HO.out]; exact H4.out.1.low B3.out.size, H4.out.2⟩
    · have HS : Hid (sanC X F = checkOf X) := Lib.hid (by unfold sanC; rw [if_pos hk])
      have HO : Hid (sanO X F = .nil) := Lib.hid (by unfold sanO; rw [if_neg (by rw [HS.out]; exact hc)])
      have hc' : (checkOf X != 0) = true := by simpa using hc
      have HCC := Lib.hid (fun W (hW : Below w.heap.size w W) => implCheck_any X V W (HC.out.next hW))
      generalize checkOf X = C at HS hc' HCC
      clear hk hc
      go_enter Tryz.func13, Tryz.ntmps13
      go_wp2_with (first
        | (go_at_call 38; refine (treeFault_any F _ A c b o lo hi hd (Nat.le_trans hh B0.out.size) HA.out (FoAt.below HA.out HF.out B0.out hh)).mono ?_; rintro e w1 ⟨rfl, hB⟩; rw [HK.out]; have B1 := Lib.hid (B0.out.trans (hB.mono B0.out.size)); have X1 := Lib.hid (HX.out.below hB (by simp)); clear p0 p1 p2 p3 p4 p5 p6 p7 p8; obtain ⟨p0, p1, p2, p3, p4, p5, p6, p7, p8⟩ := lay9 X1.out; clear hB)
        | (go_at_call 39; refine (HCC.out _ B1.out).mono ?_; rintro e w2 ⟨rfl, hB⟩; have B2 := Lib.hid (B1.out.trans (hB.mono B1.out.size)); clear hB))
      go_ret2
      exact ⟨_, [], by rw [HS.out]; rfl, by rw [HO.out]; exact GRow.nil _ _, B2.out⟩
  · have HS : Hid (sanC X F = faultOf F) := Lib.hid (by unfold sanC; rw [if_neg hk])
    have HO : Hid (sanO X F = .nil) := Lib.hid (by unfold sanO; rw [if_neg (by rw [HS.out]; exact hk)])
    have hk' : (faultOf F != 0) = true := by simpa using hk
    have HTF := Lib.hid (fun W (hW : Below w.heap.size w W) => treeFault_any F W A c b o lo hi hd (Nat.le_trans hh hW.size) HA.out (FoAt.below HA.out HF.out hW hh))
    generalize faultOf F = C at HS hk' HTF
    clear hk
    go_enter Tryz.func13, Tryz.ntmps13
    go_wp2_with (go_at_call 38; refine (HTF.out _ B0.out).mono ?_; rintro e w1 ⟨rfl, hB⟩; have B1 := Lib.hid (B0.out.trans (hB.mono B0.out.size)); clear hB)
    go_ret2
    exact ⟨_, [], by rw [HS.out]; rfl, by rw [HO.out]; exact GRow.nil _ _, B1.out⟩
end Go.Proofs.YthdkkpbhijlpaaaGreat
namespace Go.Proofs.YthdkkpbhijlpaaaGreat
open Go.ChangeShapes Go.WideShapes Go.ChangeAt Go.RowKit Go.Deep

theorem lay_nine {w : World} {g : Nat} {z0 z1 z2 z3 z4 z5 z6 z7 z8 : Value} (h : Lay w g #[z0, z1, z2, z3, z4, z5, z6, z7, z8]) (v0 v1 v2 v3 v4 v5 v6 v7 v8 : Value) :
    Lay (((((((((w.setCell ⟨g, 0, none⟩ v0).setCell ⟨g, 1, none⟩ v1).setCell ⟨g, 2, none⟩ v2).setCell ⟨g, 3, none⟩ v3).setCell ⟨g, 4, none⟩ v4).setCell ⟨g, 5, none⟩ v5).setCell ⟨g, 6, none⟩ v6).setCell ⟨g, 7, none⟩ v7).setCell ⟨g, 8, none⟩ v8) g #[v0, v1, v2, v3, v4, v5, v6, v7, v8] := by
  have := ((((((((h.set 0 v0).set 1 v1).set 2 v2).set 3 v3).set 4 v4).set 5 v5).set 6 v6).set 7 v7).set 8 v8
  simpa using this
/-- three boxes behind w: what is copied, the answer, the copy so far -/
def CfT (w W : World) (cs : Array Value) (X : Cf) (V : CfV) : Prop :=
  (Lay W w.heap.size #[.bool X.ha, .bool X.hb, .slice V.a1 X.al.length V.c1, .slice V.a2 X.rm.length V.c2, .slice V.a3 X.uw.length V.c3, .slice V.a4 X.at_.length V.c4, .slice V.a5 X.dp.length V.c5, .bool X.cm, .bool X.da] ∧ Lay W (w.heap.size + 1) #[.bool false, .bool false, .slice none 0 0, .slice none 0 0, .slice none 0 0, .slice none 0 0, .slice none 0 0, .bool false, .bool false] ∧ Lay W (w.heap.size + 1 + 1) cs) ∧ CfIn W X V ∧ Below w.heap.size w W ∧ w.heap.size + 1 + 1 < W.heap.size
theorem CfT.next {w W W' : World} {cs : Array Value} {X : Cf} {V : CfV} (h : CfT w W cs X V) (hB : Below W.heap.size W W') : CfT w W' cs X V :=
  ⟨⟨h.1.1.below hB (by have := h.2.2.2; omega), h.1.2.1.below hB (by have := h.2.2.2; omega), h.1.2.2.below hB h.2.2.2⟩, h.2.1.next hB, h.2.2.1.trans (hB.mono h.2.2.1.size), Nat.lt_of_lt_of_le h.2.2.2 hB.size⟩
theorem CfIn.off {w W : World} {b i : Nat} {X : Cf} {V : CfV} (h : CfIn w X V) (h1 : Below w.heap.size w W) (hb : w.heap.size ≤ b) (v : Value) : CfIn (W.setCell ⟨b, i, none⟩ v) X V := h.next (h1.setCell (p := ⟨b, i, none⟩) hb v)
theorem CfT.put {w W : World} {cs : Array Value} {X : Cf} {V : CfV} (h : CfT w W cs X V) (h0 : CfIn w X V) (i : Nat) (v : Value) : CfT w (W.setCell ⟨w.heap.size + 1 + 1, i, none⟩ v) (cs.setIfInBounds i v) X V :=
  ⟨⟨h.1.1.setOther (by omega) i v, h.1.2.1.setOther (by omega) i v, h.1.2.2.set i v⟩, h0.off h.2.2.1 (by omega) v, h.2.2.1.setCell (p := ⟨_, _, none⟩) (by show w.heap.size ≤ w.heap.size + 1 + 1; omega) v, by simpa using h.2.2.2⟩
set_option maxHeartbeats 2000000 in
theorem toConfig_any (X : Cf) (V : CfV) (w : World) (hs : cfSize X ≤ 1048576) (h : CfIn w X V) :
    Calls Tryz.prog 12 #[.agg #[.bool X.ha, .bool X.hb, .slice V.a1 X.al.length V.c1, .slice V.a2 X.rm.length V.c2, .slice V.a3 X.uw.length V.c3, .slice V.a4 X.at_.length V.c4, .slice V.a5 X.dp.length V.c5, .bool X.cm, .bool X.da]] w fun e w' => ∃ V' : CfV, e = .returned (.agg #[.bool X.ha, .bool X.hb, .slice V'.a1 X.al.length V'.c1, .slice V'.a2 X.rm.length V'.c2, .slice V'.a3 X.uw.length V'.c3, .slice V'.a4 X.at_.length V'.c4, .slice V'.a5 X.dp.length V'.c5, .bool X.cm, .bool X.da]) ∧ Below w.heap.size w w' ∧ CfIn w' X V' := by
  have h1 : X.al.length + rusSize X.al ≤ 1048576 := by unfold cfSize at hs; omega
  have h2 : X.rm.length + rusSize X.rm ≤ 1048576 := by unfold cfSize at hs; omega
  have h3 : X.uw.length + rusSize X.uw ≤ 1048576 := by unfold cfSize at hs; omega
  have h4 : X.at_.length ≤ 1048576 := by unfold cfSize at hs; omega
  have h5 : X.dp.length ≤ 1048576 := by unfold cfSize at hs; omega
  have H0 := Lib.hid h
  have HX : Hid (CfT w (((w.alloc (.cells #[.bool X.ha, .bool X.hb, .slice V.a1 X.al.length V.c1, .slice V.a2 X.rm.length V.c2, .slice V.a3 X.uw.length V.c3, .slice V.a4 X.at_.length V.c4, .slice V.a5 X.dp.length V.c5, .bool X.cm, .bool X.da] 26)).alloc (.cells #[.bool false, .bool false, .slice none 0 0, .slice none 0 0, .slice none 0 0, .slice none 0 0, .slice none 0 0, .bool false, .bool false] 35)).alloc (.cells #[.bool X.ha, .bool X.hb, .slice none 0 0, .slice none 0 0, .slice none 0 0, .slice none 0 0, .slice none 0 0, .bool false, .bool false] 35)) #[.bool X.ha, .bool X.hb, .slice none 0 0, .slice none 0 0, .slice none 0 0, .slice none 0 0, .slice none 0 0, .bool false, .bool false] X V) := Lib.hid (by
    obtain ⟨L1, L2, L3, B3⟩ := three_lay (Below.refl (w.heap.size + 1 + 1 + 1) (((w.alloc (.cells #[.bool X.ha, .bool X.hb, .slice V.a1 X.al.length V.c1, .slice V.a2 X.rm.length V.c2, .slice V.a3 X.uw.length V.c3, .slice V.a4 X.at_.length V.c4, .slice V.a5 X.dp.length V.c5, .bool X.cm, .bool X.da] 26)).alloc (.cells #[.bool false, .bool false, .slice none 0 0, .slice none 0 0, .slice none 0 0, .slice none 0 0, .slice none 0 0, .bool false, .bool false] 35)).alloc (.cells #[.bool X.ha, .bool X.hb, .slice none 0 0, .slice none 0 0, .slice none 0 0, .slice none 0 0, .slice none 0 0, .bool false, .bool false] 35)))
    exact ⟨⟨L1, L2, L3⟩, h.next B3, B3, by simp⟩)
  clear h hs
  go_enter Tryz.func12, Tryz.ntmps12
  go_wp2_with fail
  refine (toRuleS_any X.al _ V.a1 V.c1 h1 HX.out.2.1.al).mono ?_
  rintro e w1 ⟨rfl, hB, hM⟩
  simp only [World.size_alloc] at hB hM ⊢
  have HX := Lib.hid (HX.out.next (by simpa using hB))
  have hsz : w.heap.size + 1 + 1 < w1.heap.size := HX.out.2.2.2
  have HSZ1 := Lib.hid hsz
  have N0 := Lib.hid hM
  have HP := HX.out
  have q2 := HP.1.2.2.1 2
  have f2 := HP.1.2.2.2 2
  obtain ⟨p0, p1, p2, p3, p4, p5, p6, p7, p8⟩ := lay9 HP.1.1
  have HX := Lib.hid (HX.out.put H0.out 2 (.slice (some ⟨w.heap.size + 1 + 1 + 1, 0, none⟩) X.al.length X.al.length))
  have N0 := Lib.hid (N0.out.off (b := w.heap.size + 1 + 1) (i := 2) (by omega) (.slice (some ⟨w.heap.size + 1 + 1 + 1, 0, none⟩) X.al.length X.al.length))
  clear hB hM hsz HP
  (try simp at q2)
  go_wp2_with fail
  refine (toRuleS_any X.rm _ V.a2 V.c2 h2 HX.out.2.1.rm).mono ?_
  rintro e w2 ⟨rfl, hB, hM⟩
  simp only [World.size_setCell] at hB hM ⊢
  have HX := Lib.hid (HX.out.next (by simpa using hB))
  have N0 := Lib.hid (N0.out.next (by simpa using hB))
  have hsz : w.heap.size + 1 + 1 < w2.heap.size := HX.out.2.2.2
  have HSZ2 := Lib.hid hsz
  have N1 := Lib.hid hM
  have HP := HX.out
  have q3 := HP.1.2.2.1 3
  have f3 := HP.1.2.2.2 3
  obtain ⟨p0, p1, p2, p3, p4, p5, p6, p7, p8⟩ := lay9 HP.1.1
  have HX := Lib.hid (HX.out.put H0.out 3 (.slice (some ⟨w1.heap.size, 0, none⟩) X.rm.length X.rm.length))
  have N0 := Lib.hid (N0.out.off (b := w.heap.size + 1 + 1) (i := 3) (by omega) (.slice (some ⟨w1.heap.size, 0, none⟩) X.rm.length X.rm.length))
  have N1 := Lib.hid (N1.out.off (b := w.heap.size + 1 + 1) (i := 3) (by have := HSZ1.out; omega) (.slice (some ⟨w1.heap.size, 0, none⟩) X.rm.length X.rm.length))
  clear hB hM hsz HP
  (try simp at q3)
  go_wp2_with fail
  refine (toRuleS_any X.uw _ V.a3 V.c3 h3 HX.out.2.1.uw).mono ?_
  rintro e w3 ⟨rfl, hB, hM⟩
  simp only [World.size_setCell] at hB hM ⊢
  have HX := Lib.hid (HX.out.next (by simpa using hB))
  have N0 := Lib.hid (N0.out.next (by simpa using hB))
  have N1 := Lib.hid (N1.out.next (by simpa using hB))
  have hsz : w.heap.size + 1 + 1 < w3.heap.size := HX.out.2.2.2
  have HSZ3 := Lib.hid hsz
  have N2 := Lib.hid hM
  have HP := HX.out
  have q4 := HP.1.2.2.1 4
  have f4 := HP.1.2.2.2 4
  obtain ⟨p0, p1, p2, p3, p4, p5, p6, p7, p8⟩ := lay9 HP.1.1
  have HX := Lib.hid (HX.out.put H0.out 4 (.slice (some ⟨w2.heap.size, 0, none⟩) X.uw.length X.uw.length))
  have N0 := Lib.hid (N0.out.off (b := w.heap.size + 1 + 1) (i := 4) (by omega) (.slice (some ⟨w2.heap.size, 0, none⟩) X.uw.length X.uw.length))
  have N1 := Lib.hid (N1.out.off (b := w.heap.size + 1 + 1) (i := 4) (by have := HSZ1.out; omega) (.slice (some ⟨w2.heap.size, 0, none⟩) X.uw.length X.uw.length))
  have N2 := Lib.hid (N2.out.off (b := w.heap.size + 1 + 1) (i := 4) (by have := HSZ2.out; omega) (.slice (some ⟨w2.heap.size, 0, none⟩) X.uw.length X.uw.length))
  clear hB hM hsz HP
  (try simp at q4)
  go_wp2_with fail
  refine (toStringS_any X.at_ _ V.a4 V.c4 h4 HX.out.2.1.at_).mono ?_
  rintro e w4 ⟨rfl, hB, hM⟩
  simp only [World.size_setCell] at hB hM ⊢
  have HX := Lib.hid (HX.out.next (by simpa using hB))
  have N0 := Lib.hid (N0.out.next (by simpa using hB))
  have N1 := Lib.hid (N1.out.next (by simpa using hB))
  have N2 := Lib.hid (N2.out.next (by simpa using hB))
  have hsz : w.heap.size + 1 + 1 < w4.heap.size := HX.out.2.2.2
  have HSZ4 := Lib.hid hsz
  have N3 := Lib.hid hM
  have HP := HX.out
  have q5 := HP.1.2.2.1 5
  have f5 := HP.1.2.2.2 5
  obtain ⟨p0, p1, p2, p3, p4, p5, p6, p7, p8⟩ := lay9 HP.1.1
  have HX := Lib.hid (HX.out.put H0.out 5 (.slice (some ⟨w3.heap.size, 0, none⟩) X.at_.length X.at_.length))
  have N0 := Lib.hid (N0.out.off (b := w.heap.size + 1 + 1) (i := 5) (by omega) (.slice (some ⟨w3.heap.size, 0, none⟩) X.at_.length X.at_.length))
  have N1 := Lib.hid (N1.out.off (b := w.heap.size + 1 + 1) (i := 5) (by have := HSZ1.out; omega) (.slice (some ⟨w3.heap.size, 0, none⟩) X.at_.length X.at_.length))
  have N2 := Lib.hid (N2.out.off (b := w.heap.size + 1 + 1) (i := 5) (by have := HSZ2.out; omega) (.slice (some ⟨w3.heap.size, 0, none⟩) X.at_.length X.at_.length))
  have N3 := Lib.hid (N3.out.off (b := w.heap.size + 1 + 1) (i := 5) (by have := HSZ3.out; omega) (.slice (some ⟨w3.heap.size, 0, none⟩) X.at_.length X.at_.length))
  clear hB hM hsz HP
  (try simp at q5)
  go_wp2_with fail
  refine (toStringS_any X.dp _ V.a5 V.c5 h5 HX.out.2.1.dp).mono ?_
  rintro e w5 ⟨rfl, hB, hM⟩
  simp only [World.size_setCell] at hB hM ⊢
  have HX := Lib.hid (HX.out.next (by simpa using hB))
  have N0 := Lib.hid (N0.out.next (by simpa using hB))
  have N1 := Lib.hid (N1.out.next (by simpa using hB))
  have N2 := Lib.hid (N2.out.next (by simpa using hB))
  have N3 := Lib.hid (N3.out.next (by simpa using hB))
  have hsz : w.heap.size + 1 + 1 < w5.heap.size := HX.out.2.2.2
  have HSZ5 := Lib.hid hsz
  have N4 := Lib.hid hM
  have HP := HX.out
  have q6 := HP.1.2.2.1 6
  have f6 := HP.1.2.2.2 6
  obtain ⟨p0, p1, p2, p3, p4, p5, p6, p7, p8⟩ := lay9 HP.1.1
  have q0 := HP.1.2.2.1 0
  have f0 := HP.1.2.2.2 0
  have q1 := HP.1.2.2.1 1
  have f1 := HP.1.2.2.2 1
  have q2 := HP.1.2.2.1 2
  have f2 := HP.1.2.2.2 2
  have q3 := HP.1.2.2.1 3
  have f3 := HP.1.2.2.2 3
  have q4 := HP.1.2.2.1 4
  have f4 := HP.1.2.2.2 4
  have q5 := HP.1.2.2.1 5
  have f5 := HP.1.2.2.2 5
  have q7 := HP.1.2.2.1 7
  have f7 := HP.1.2.2.2 7
  have q8 := HP.1.2.2.1 8
  have f8 := HP.1.2.2.2 8
  have n0 := HP.1.2.1.1
  have n1 := HP.1.2.1.2
  have HU := Lib.hid HP
  have HX := Lib.hid (HX.out.put H0.out 6 (.slice (some ⟨w4.heap.size, 0, none⟩) X.dp.length X.dp.length))
  have N0 := Lib.hid (N0.out.off (b := w.heap.size + 1 + 1) (i := 6) (by omega) (.slice (some ⟨w4.heap.size, 0, none⟩) X.dp.length X.dp.length))
  have N1 := Lib.hid (N1.out.off (b := w.heap.size + 1 + 1) (i := 6) (by have := HSZ1.out; omega) (.slice (some ⟨w4.heap.size, 0, none⟩) X.dp.length X.dp.length))
  have N2 := Lib.hid (N2.out.off (b := w.heap.size + 1 + 1) (i := 6) (by have := HSZ2.out; omega) (.slice (some ⟨w4.heap.size, 0, none⟩) X.dp.length X.dp.length))
  have N3 := Lib.hid (N3.out.off (b := w.heap.size + 1 + 1) (i := 6) (by have := HSZ3.out; omega) (.slice (some ⟨w4.heap.size, 0, none⟩) X.dp.length X.dp.length))
  have N4 := Lib.hid (N4.out.off (b := w.heap.size + 1 + 1) (i := 6) (by have := HSZ4.out; omega) (.slice (some ⟨w4.heap.size, 0, none⟩) X.dp.length X.dp.length))
  clear hB hM hsz HP
  simp at q0 q1 q2 q3 q4 q5 q6 q7 q8
  go_wp2
  (try simp only [Exit.inBlock, Exit.then])
  have M3 := lay_nine (((HU.out.1.2.1.setOther (g' := w.heap.size + 1 + 1) (by omega) 6 (.slice (some ⟨w4.heap.size, 0, none⟩) X.dp.length X.dp.length)).setOther (g' := w.heap.size + 1 + 1) (by omega) 7 (.bool X.cm)).setOther (g' := w.heap.size + 1 + 1) (by omega) 8 (.bool X.da)) (.bool X.ha) (.bool X.hb) (.slice (some ⟨w.heap.size + 1 + 1 + 1, 0, none⟩) X.al.length X.al.length) (.slice (some ⟨w1.heap.size, 0, none⟩) X.rm.length X.rm.length) (.slice (some ⟨w2.heap.size, 0, none⟩) X.uw.length X.uw.length) (.slice (some ⟨w3.heap.size, 0, none⟩) X.at_.length X.at_.length) (.slice (some ⟨w4.heap.size, 0, none⟩) X.dp.length X.dp.length) (.bool X.cm) (.bool X.da)
  refine ret_config rfl M3 rfl rfl ⟨⟨some ⟨w.heap.size + 1 + 1 + 1, 0, none⟩, X.al.length, some ⟨w1.heap.size, 0, none⟩, X.rm.length, some ⟨w2.heap.size, 0, none⟩, X.uw.length, some ⟨w3.heap.size, 0, none⟩, X.at_.length, some ⟨w4.heap.size, 0, none⟩, X.dp.length⟩, rfl, ?_, ?_⟩
  · exact ((((((((((((HU.out.2.2.1).setCell (p := ⟨_, _, none⟩) (by show w.heap.size ≤ w.heap.size + 1 + 1; omega) _).setCell (p := ⟨_, _, none⟩) (by show w.heap.size ≤ w.heap.size + 1 + 1; omega) _).setCell (p := ⟨_, _, none⟩) (by show w.heap.size ≤ w.heap.size + 1 + 1; omega) _).setCell (p := ⟨_, _, none⟩) (by show w.heap.size ≤ w.heap.size + 1; omega) _).setCell (p := ⟨_, _, none⟩) (by show w.heap.size ≤ w.heap.size + 1; omega) _).setCell (p := ⟨_, _, none⟩) (by show w.heap.size ≤ w.heap.size + 1; omega) _).setCell (p := ⟨_, _, none⟩) (by show w.heap.size ≤ w.heap.size + 1; omega) _).setCell (p := ⟨_, _, none⟩) (by show w.heap.size ≤ w.heap.size + 1; omega) _).setCell (p := ⟨_, _, none⟩) (by show w.heap.size ≤ w.heap.size + 1; omega) _).setCell (p := ⟨_, _, none⟩) (by show w.heap.size ≤ w.heap.size + 1; omega) _).setCell (p := ⟨_, _, none⟩) (by show w.heap.size ≤ w.heap.size + 1; omega) _).setCell (p := ⟨_, _, none⟩) (by show w.heap.size ≤ w.heap.size + 1; omega) _
  · exact ⟨((((((((((((N0.out).off (b := w.heap.size + 1 + 1) (i := 7) (by omega) (.bool X.cm)).off (b := w.heap.size + 1 + 1) (i := 8) (by omega) (.bool X.da)).off (b := w.heap.size + 1) (i := 0) (by omega) (.bool X.ha)).off (b := w.heap.size + 1) (i := 1) (by omega) (.bool X.hb)).off (b := w.heap.size + 1) (i := 2) (by omega) (.slice (some ⟨w.heap.size + 1 + 1 + 1, 0, none⟩) X.al.length X.al.length)).off (b := w.heap.size + 1) (i := 3) (by omega) (.slice (some ⟨w1.heap.size, 0, none⟩) X.rm.length X.rm.length)).off (b := w.heap.size + 1) (i := 4) (by omega) (.slice (some ⟨w2.heap.size, 0, none⟩) X.uw.length X.uw.length)).off (b := w.heap.size + 1) (i := 5) (by omega) (.slice (some ⟨w3.heap.size, 0, none⟩) X.at_.length X.at_.length)).off (b := w.heap.size + 1) (i := 6) (by omega) (.slice (some ⟨w4.heap.size, 0, none⟩) X.dp.length X.dp.length)).off (b := w.heap.size + 1) (i := 7) (by omega) (.bool X.cm)).off (b := w.heap.size + 1) (i := 8) (by omega) (.bool X.da)).ru, ((((((((((((N1.out).off (b := w.heap.size + 1 + 1) (i := 7) (by have := HSZ1.out; omega) (.bool X.cm)).off (b := w.heap.size + 1 + 1) (i := 8) (by have := HSZ1.out; omega) (.bool X.da)).off (b := w.heap.size + 1) (i := 0) (by have := HSZ1.out; omega) (.bool X.ha)).off (b := w.heap.size + 1) (i := 1) (by have := HSZ1.out; omega) (.bool X.hb)).off (b := w.heap.size + 1) (i := 2) (by have := HSZ1.out; omega) (.slice (some ⟨w.heap.size + 1 + 1 + 1, 0, none⟩) X.al.length X.al.length)).off (b := w.heap.size + 1) (i := 3) (by have := HSZ1.out; omega) (.slice (some ⟨w1.heap.size, 0, none⟩) X.rm.length X.rm.length)).off (b := w.heap.size + 1) (i := 4) (by have := HSZ1.out; omega) (.slice (some ⟨w2.heap.size, 0, none⟩) X.uw.length X.uw.length)).off (b := w.heap.size + 1) (i := 5) (by have := HSZ1.out; omega) (.slice (some ⟨w3.heap.size, 0, none⟩) X.at_.length X.at_.length)).off (b := w.heap.size + 1) (i := 6) (by have := HSZ1.out; omega) (.slice (some ⟨w4.heap.size, 0, none⟩) X.dp.length X.dp.length)).off (b := w.heap.size + 1) (i := 7) (by have := HSZ1.out; omega) (.bool X.cm)).off (b := w.heap.size + 1) (i := 8) (by have := HSZ1.out; omega) (.bool X.da)).ru, ((((((((((((N2.out).off (b := w.heap.size + 1 + 1) (i := 7) (by have := HSZ2.out; omega) (.bool X.cm)).off (b := w.heap.size + 1 + 1) (i := 8) (by have := HSZ2.out; omega) (.bool X.da)).off (b := w.heap.size + 1) (i := 0) (by have := HSZ2.out; omega) (.bool X.ha)).off (b := w.heap.size + 1) (i := 1) (by have := HSZ2.out; omega) (.bool X.hb)).off (b := w.heap.size + 1) (i := 2) (by have := HSZ2.out; omega) (.slice (some ⟨w.heap.size + 1 + 1 + 1, 0, none⟩) X.al.length X.al.length)).off (b := w.heap.size + 1) (i := 3) (by have := HSZ2.out; omega) (.slice (some ⟨w1.heap.size, 0, none⟩) X.rm.length X.rm.length)).off (b := w.heap.size + 1) (i := 4) (by have := HSZ2.out; omega) (.slice (some ⟨w2.heap.size, 0, none⟩) X.uw.length X.uw.length)).off (b := w.heap.size + 1) (i := 5) (by have := HSZ2.out; omega) (.slice (some ⟨w3.heap.size, 0, none⟩) X.at_.length X.at_.length)).off (b := w.heap.size + 1) (i := 6) (by have := HSZ2.out; omega) (.slice (some ⟨w4.heap.size, 0, none⟩) X.dp.length X.dp.length)).off (b := w.heap.size + 1) (i := 7) (by have := HSZ2.out; omega) (.bool X.cm)).off (b := w.heap.size + 1) (i := 8) (by have := HSZ2.out; omega) (.bool X.da)).ru, (((((((((((N3.out).off (b := w.heap.size + 1 + 1) (i := 7) (by have := HSZ3.out; omega) (.bool X.cm)).off (b := w.heap.size + 1 + 1) (i := 8) (by have := HSZ3.out; omega) (.bool X.da)).off (b := w.heap.size + 1) (i := 0) (by have := HSZ3.out; omega) (.bool X.ha)).off (b := w.heap.size + 1) (i := 1) (by have := HSZ3.out; omega) (.bool X.hb)).off (b := w.heap.size + 1) (i := 2) (by have := HSZ3.out; omega) (.slice (some ⟨w.heap.size + 1 + 1 + 1, 0, none⟩) X.al.length X.al.length)).off (b := w.heap.size + 1) (i := 3) (by have := HSZ3.out; omega) (.slice (some ⟨w1.heap.size, 0, none⟩) X.rm.length X.rm.length)).off (b := w.heap.size + 1) (i := 4) (by have := HSZ3.out; omega) (.slice (some ⟨w2.heap.size, 0, none⟩) X.uw.length X.uw.length)).off (b := w.heap.size + 1) (i := 5) (by have := HSZ3.out; omega) (.slice (some ⟨w3.heap.size, 0, none⟩) X.at_.length X.at_.length)).off (b := w.heap.size + 1) (i := 6) (by have := HSZ3.out; omega) (.slice (some ⟨w4.heap.size, 0, none⟩) X.dp.length X.dp.length)).off (b := w.heap.size + 1) (i := 7) (by have := HSZ3.out; omega) (.bool X.cm)).off (b := w.heap.size + 1) (i := 8) (by have := HSZ3.out; omega) (.bool X.da), (((((((((((N4.out).off (b := w.heap.size + 1 + 1) (i := 7) (by have := HSZ4.out; omega) (.bool X.cm)).off (b := w.heap.size + 1 + 1) (i := 8) (by have := HSZ4.out; omega) (.bool X.da)).off (b := w.heap.size + 1) (i := 0) (by have := HSZ4.out; omega) (.bool X.ha)).off (b := w.heap.size + 1) (i := 1) (by have := HSZ4.out; omega) (.bool X.hb)).off (b := w.heap.size + 1) (i := 2) (by have := HSZ4.out; omega) (.slice (some ⟨w.heap.size + 1 + 1 + 1, 0, none⟩) X.al.length X.al.length)).off (b := w.heap.size + 1) (i := 3) (by have := HSZ4.out; omega) (.slice (some ⟨w1.heap.size, 0, none⟩) X.rm.length X.rm.length)).off (b := w.heap.size + 1) (i := 4) (by have := HSZ4.out; omega) (.slice (some ⟨w2.heap.size, 0, none⟩) X.uw.length X.uw.length)).off (b := w.heap.size + 1) (i := 5) (by have := HSZ4.out; omega) (.slice (some ⟨w3.heap.size, 0, none⟩) X.at_.length X.at_.length)).off (b := w.heap.size + 1) (i := 6) (by have := HSZ4.out; omega) (.slice (some ⟨w4.heap.size, 0, none⟩) X.dp.length X.dp.length)).off (b := w.heap.size + 1) (i := 7) (by have := HSZ4.out; omega) (.bool X.cm)).off (b := w.heap.size + 1) (i := 8) (by have := HSZ4.out; omega) (.bool X.da), Nat.le_refl _, Nat.le_refl _⟩
end Go.Proofs.YthdkkpbhijlpaaaGreat
