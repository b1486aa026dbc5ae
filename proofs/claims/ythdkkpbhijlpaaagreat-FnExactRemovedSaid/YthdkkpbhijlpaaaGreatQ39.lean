import Derived.Test.YthdkkpbhijlpaaaGreatQ36
import Derived.Test.YthdkkpbhijlpaaaGreatQ38
import Derived.Test.YthdkkpbhijlpaaaGreatQ29
set_option linter.unusedVariables false
namespace Go.Proofs.YthdkkpbhijlpaaaGreat
open Go.ChangeShapes Go.WideShapes Go.ChangeAt Go.RowKit Go.Deep

theorem foEq_turn (F G : Fo) : foEq F G = foEq G F := by
  rw [Bool.eq_iff_iff, foEq_iff, foEq_iff]
  exact eq_comm
theorem goodB_ok {F : Fo} (h : faultOf F = 0) : goodB F = true := by
  unfold faultOf at h
  split at h
  · split at h
    · rename_i hg; exact hg
    · exact absurd h (by decide)
  · exact absurd h (by decide)
noncomputable def permB (X : Cf) (F : Fo) : Bool := if sanC X F = 0 then foEq F (F.san X) else false
noncomputable def remO (X : Cf) (F : Fo) : Int := if sanC X F = 0 then (F.nodes : Int) - ((F.san X).nodes : Int) else 0
set_option maxHeartbeats 2000000 in
set_option maxRecDepth 100000 in
theorem implPermitted_any (X : Cf) (V : CfV) (F : Fo) (w : World) (A : Option Addr) (c b o lo hi : Nat) (h : CfIn w X V) (hmx : MaxAt w) (hd : F.nodes ≤ 1048576) (hh : hi ≤ w.heap.size) (hA : RowAt lo hi A F.len b o) (hF : FoAt w lo hi b o F) :
    Calls Tryz.prog 22 #[.slice A F.len c, .agg #[.bool X.ha, .bool X.hb, .slice V.a1 X.al.length V.c1, .slice V.a2 X.rm.length V.c2, .slice V.a3 X.uw.length V.c3, .slice V.a4 X.at_.length V.c4, .slice V.a5 X.dp.length V.c5, .bool X.cm, .bool X.da]] w fun e w' => e = .returned (.tuple #[.bool (permB X F), .int .i64 (sanC X F)]) ∧ Below w.heap.size w w' := by
  have HA := Lib.hid hA
  have HC := Lib.hid h
  have HMX := Lib.hid hmx
  have hln := Fo.len_le_nodes F
  have hsn := Nat.le_trans (Fo.san_nodes X F) hd
  have HN := Lib.hid hsn
  have B0 : Hid (Below w.heap.size w (w.alloc (.cells #[.bool X.ha, .bool X.hb, .slice V.a1 X.al.length V.c1, .slice V.a2 X.rm.length V.c2, .slice V.a3 X.uw.length V.c3, .slice V.a4 X.at_.length V.c4, .slice V.a5 X.dp.length V.c5, .bool X.cm, .bool X.da] 35))) := Lib.hid ((Below.refl _ _).alloc (Nat.le_refl _) _)
  have HX : Hid (Lay (w.alloc (.cells #[.bool X.ha, .bool X.hb, .slice V.a1 X.al.length V.c1, .slice V.a2 X.rm.length V.c2, .slice V.a3 X.uw.length V.c3, .slice V.a4 X.at_.length V.c4, .slice V.a5 X.dp.length V.c5, .bool X.cm, .bool X.da] 35)) w.heap.size #[.bool X.ha, .bool X.hb, .slice V.a1 X.al.length V.c1, .slice V.a2 X.rm.length V.c2, .slice V.a3 X.uw.length V.c3, .slice V.a4 X.at_.length V.c4, .slice V.a5 X.dp.length V.c5, .bool X.cm, .bool X.da]) := Lib.hid (Lay.new w #[.bool X.ha, .bool X.hb, .slice V.a1 X.al.length V.c1, .slice V.a2 X.rm.length V.c2, .slice V.a3 X.uw.length V.c3, .slice V.a4 X.at_.length V.c4, .slice V.a5 X.dp.length V.c5, .bool X.cm, .bool X.da] 35)
  have HF := Lib.hid hF
  obtain ⟨p0, p1, p2, p3, p4, p5, p6, p7, p8⟩ := lay9 HX.out
  clear h hA hF hmx
  by_cases hk : sanC X F = 0
  · have HK := Lib.hid hk
    have HO : Hid (sanO X F = F.san X) := Lib.hid (by unfold sanO; rw [if_pos hk])
    have HV : Hid (permB X F = foEq F (F.san X)) := Lib.hid (by unfold permB; rw [if_pos hk])
    clear hk
    go_enter Tryz.func22, Tryz.ntmps22
    go_wp2_with (first
      | (go_at_call 13; refine (implSanitize_any X V F _ A c b o lo hi (HC.out.next B0.out) (HMX.out.below B0.out) hd (Nat.le_trans hh B0.out.size) HA.out (FoAt.below HA.out HF.out B0.out hh)).mono ?_; rintro e w1 ⟨v, bl, rfl, hG, hB⟩; rw [HK.out]; rw [HO.out] at hG; obtain ⟨A1, c1, bs1, rfl, hKR⟩ := KR.of hG (by have := HN.out; have := Fo.len_le_nodes (F.san X); unfold maxLen; omega); obtain ⟨b1, hr1, hf1⟩ := hKR.read; have B1 := Lib.hid (B0.out.trans (hB.mono B0.out.size)); have K1 := Lib.hid (And.intro hr1 (And.intro hf1 (Nat.le_refl w1.heap.size))); clear hG hB hKR hr1 hf1 p0 p1 p2 p3 p4 p5 p6 p7 p8)
      | (go_at_call 55; refine (implSameTree_any F (F.san X) _ A A1 c c1 b b1 o 0 lo hi _ _ hd HN.out (Nat.le_trans hh B1.out.size) K1.out.2.2 HA.out K1.out.1 (FoAt.below HA.out HF.out B1.out hh) K1.out.2.1).mono ?_; rintro e w2 ⟨rfl, hB⟩; rw [show sameB F (F.san X) = foEq F (F.san X) by rw [sameB, goodB_ok (sanC_ok HK.out)]; rfl]; have B2 := Lib.hid (B1.out.trans (hB.mono B1.out.size)); clear hB))
    go_ret2
    exact ⟨by rw [HV.out, HK.out]; rfl, B2.out⟩
  · have HV : Hid (permB X F = false) := Lib.hid (by unfold permB; rw [if_neg hk])
    have HO : Hid (sanO X F = .nil) := Lib.hid (by unfold sanO; rw [if_neg hk])
    have hk' : (sanC X F != 0) = true := by simpa using hk
    have HS := Lib.hid (fun W (hW : Below w.heap.size w W) => implSanitize_any X V F W A c b o lo hi (HC.out.next hW) (HMX.out.below hW) hd (Nat.le_trans hh hW.size) HA.out (FoAt.below HA.out HF.out hW hh))
    clear hk
    generalize sanC X F = C at HS hk' ⊢
    go_enter Tryz.func22, Tryz.ntmps22
    go_wp2_with (go_at_call 13; refine (HS.out _ B0.out).mono ?_; rintro e w1 ⟨v, bl, rfl, hG, hB⟩; have B1 := Lib.hid (B0.out.trans (hB.mono B0.out.size)); clear hG hB)
    go_ret2
    exact ⟨by rw [HV.out]; rfl, B1.out⟩
set_option maxHeartbeats 2000000 in
set_option maxRecDepth 100000 in
theorem implRemoved_any (X : Cf) (V : CfV) (F : Fo) (w : World) (A : Option Addr) (c b o lo hi : Nat) (h : CfIn w X V) (hmx : MaxAt w) (hd : F.nodes ≤ 1048576) (hh : hi ≤ w.heap.size) (hA : RowAt lo hi A F.len b o) (hF : FoAt w lo hi b o F) :
    Calls Tryz.prog 24 #[.slice A F.len c, .agg #[.bool X.ha, .bool X.hb, .slice V.a1 X.al.length V.c1, .slice V.a2 X.rm.length V.c2, .slice V.a3 X.uw.length V.c3, .slice V.a4 X.at_.length V.c4, .slice V.a5 X.dp.length V.c5, .bool X.cm, .bool X.da]] w fun e w' => e = .returned (.tuple #[.int .i64 (remO X F), .int .i64 (sanC X F)]) ∧ Below w.heap.size w w' := by
  have HA := Lib.hid hA
  have HC := Lib.hid h
  have HMX := Lib.hid hmx
  have hln := Fo.len_le_nodes F
  have hsn := Nat.le_trans (Fo.san_nodes X F) hd
  have HN := Lib.hid hsn
  have B0 : Hid (Below w.heap.size w (w.alloc (.cells #[.bool X.ha, .bool X.hb, .slice V.a1 X.al.length V.c1, .slice V.a2 X.rm.length V.c2, .slice V.a3 X.uw.length V.c3, .slice V.a4 X.at_.length V.c4, .slice V.a5 X.dp.length V.c5, .bool X.cm, .bool X.da] 35))) := Lib.hid ((Below.refl _ _).alloc (Nat.le_refl _) _)
  have HX : Hid (Lay (w.alloc (.cells #[.bool X.ha, .bool X.hb, .slice V.a1 X.al.length V.c1, .slice V.a2 X.rm.length V.c2, .slice V.a3 X.uw.length V.c3, .slice V.a4 X.at_.length V.c4, .slice V.a5 X.dp.length V.c5, .bool X.cm, .bool X.da] 35)) w.heap.size #[.bool X.ha, .bool X.hb, .slice V.a1 X.al.length V.c1, .slice V.a2 X.rm.length V.c2, .slice V.a3 X.uw.length V.c3, .slice V.a4 X.at_.length V.c4, .slice V.a5 X.dp.length V.c5, .bool X.cm, .bool X.da]) := Lib.hid (Lay.new w #[.bool X.ha, .bool X.hb, .slice V.a1 X.al.length V.c1, .slice V.a2 X.rm.length V.c2, .slice V.a3 X.uw.length V.c3, .slice V.a4 X.at_.length V.c4, .slice V.a5 X.dp.length V.c5, .bool X.cm, .bool X.da] 35)
  have HF := Lib.hid hF
  obtain ⟨p0, p1, p2, p3, p4, p5, p6, p7, p8⟩ := lay9 HX.out
  clear h hA hF hmx
  by_cases hk : sanC X F = 0
  · have HK := Lib.hid hk
    have HO : Hid (sanO X F = F.san X) := Lib.hid (by unfold sanO; rw [if_pos hk])
    have HV : Hid (remO X F = (F.nodes : Int) - ((F.san X).nodes : Int)) := Lib.hid (by unfold remO; rw [if_pos hk])
    clear hk
    go_enter Tryz.func24, Tryz.ntmps24
    go_wp2_with (first
      | (go_at_call 13; refine (implSanitize_any X V F _ A c b o lo hi (HC.out.next B0.out) (HMX.out.below B0.out) hd (Nat.le_trans hh B0.out.size) HA.out (FoAt.below HA.out HF.out B0.out hh)).mono ?_; rintro e w1 ⟨v, bl, rfl, hG, hB⟩; rw [HK.out]; rw [HO.out] at hG; obtain ⟨A1, c1, bs1, rfl, hKR⟩ := KR.of hG (by have := HN.out; have := Fo.len_le_nodes (F.san X); unfold maxLen; omega); obtain ⟨b1, hr1, hf1⟩ := hKR.read; have B1 := Lib.hid (B0.out.trans (hB.mono B0.out.size)); have K1 := Lib.hid (And.intro hr1 (And.intro hf1 (Nat.le_refl w1.heap.size))); clear hG hB hKR hr1 hf1 p0 p1 p2 p3 p4 p5 p6 p7 p8)
      | (go_at_call 57; first | (refine (countOf_any F _ A c b o lo hi hd (Nat.le_trans hh B1.out.size) HA.out (FoAt.below HA.out HF.out B1.out hh)).mono ?_; rintro e w2 ⟨rfl, hB⟩; have B2 := Lib.hid (B1.out.trans (hB.mono B1.out.size)); have K2 := Lib.hid (And.intro K1.out.1 (FoAt.below K1.out.1 K1.out.2.1 hB K1.out.2.2)); have S2 := Lib.hid (Nat.le_trans K1.out.2.2 hB.size); clear hB) | (refine (countOf_any (F.san X) _ A1 c1 b1 0 _ _ HN.out S2.out K2.out.1 K2.out.2).mono ?_; rintro e w3 ⟨rfl, hB⟩; have B3 := Lib.hid (B2.out.trans (hB.mono B2.out.size)); clear hB)))
    go_ret2
    exact ⟨by rw [HV.out, HK.out]; rfl, B3.out⟩
  · have HV : Hid (remO X F = 0) := Lib.hid (by unfold remO; rw [if_neg hk])
    have HO : Hid (sanO X F = .nil) := Lib.hid (by unfold sanO; rw [if_neg hk])
    have hk' : (sanC X F != 0) = true := by simpa using hk
    have HS := Lib.hid (fun W (hW : Below w.heap.size w W) => implSanitize_any X V F W A c b o lo hi (HC.out.next hW) (HMX.out.below hW) hd (Nat.le_trans hh hW.size) HA.out (FoAt.below HA.out HF.out hW hh))
    clear hk
    generalize sanC X F = C at HS hk' ⊢
    go_enter Tryz.func24, Tryz.ntmps24
    go_wp2_with (go_at_call 13; refine (HS.out _ B0.out).mono ?_; rintro e w1 ⟨v, bl, rfl, hG, hB⟩; have B1 := Lib.hid (B0.out.trans (hB.mono B0.out.size)); clear hG hB)
    go_ret2
    exact ⟨by rw [HV.out]; rfl, B1.out⟩
set_option maxHeartbeats 2000000 in
set_option maxRecDepth 100000 in
theorem specPermitted_any (X : Cf) (V : CfV) (F : Fo) (w : World) (A : Option Addr) (c b o lo hi : Nat) (h : CfIn w X V) (hmx : MaxAt w) (hd : F.nodes ≤ 1048576) (hh : hi ≤ w.heap.size) (hA : RowAt lo hi A F.len b o) (hF : FoAt w lo hi b o F) :
    Calls Tryz.prog 21 #[.slice A F.len c, .agg #[.bool X.ha, .bool X.hb, .slice V.a1 X.al.length V.c1, .slice V.a2 X.rm.length V.c2, .slice V.a3 X.uw.length V.c3, .slice V.a4 X.at_.length V.c4, .slice V.a5 X.dp.length V.c5, .bool X.cm, .bool X.da]] w fun e w' => e = .returned (.tuple #[.bool (permB X F), .int .i64 (sanC X F)]) ∧ Below w.heap.size w w' := by
  have HA := Lib.hid hA
  have HC := Lib.hid h
  have HMX := Lib.hid hmx
  have hln := Fo.len_le_nodes F
  have hsn := Nat.le_trans (Fo.san_nodes X F) hd
  have HN := Lib.hid hsn
  have B0 : Hid (Below w.heap.size w (w.alloc (.cells #[.bool X.ha, .bool X.hb, .slice V.a1 X.al.length V.c1, .slice V.a2 X.rm.length V.c2, .slice V.a3 X.uw.length V.c3, .slice V.a4 X.at_.length V.c4, .slice V.a5 X.dp.length V.c5, .bool X.cm, .bool X.da] 35))) := Lib.hid ((Below.refl _ _).alloc (Nat.le_refl _) _)
  have HX : Hid (Lay (w.alloc (.cells #[.bool X.ha, .bool X.hb, .slice V.a1 X.al.length V.c1, .slice V.a2 X.rm.length V.c2, .slice V.a3 X.uw.length V.c3, .slice V.a4 X.at_.length V.c4, .slice V.a5 X.dp.length V.c5, .bool X.cm, .bool X.da] 35)) w.heap.size #[.bool X.ha, .bool X.hb, .slice V.a1 X.al.length V.c1, .slice V.a2 X.rm.length V.c2, .slice V.a3 X.uw.length V.c3, .slice V.a4 X.at_.length V.c4, .slice V.a5 X.dp.length V.c5, .bool X.cm, .bool X.da]) := Lib.hid (Lay.new w #[.bool X.ha, .bool X.hb, .slice V.a1 X.al.length V.c1, .slice V.a2 X.rm.length V.c2, .slice V.a3 X.uw.length V.c3, .slice V.a4 X.at_.length V.c4, .slice V.a5 X.dp.length V.c5, .bool X.cm, .bool X.da] 35)
  have HF := Lib.hid hF
  obtain ⟨p0, p1, p2, p3, p4, p5, p6, p7, p8⟩ := lay9 HX.out
  clear h hA hF hmx
  by_cases hl : F.len ≤ 4096
  · have HAK := Lib.hid (fun W (hW : Below w.heap.size w W) => l08Ask_any X V F W A c b o lo hi (HC.out.next hW) hd (Nat.le_trans hh hW.size) HA.out (FoAt.below HA.out HF.out hW hh))
    by_cases hk : sanC X F = 0
    · have HK := Lib.hid hk
      have HG := Lib.hid (fine_good (sanC_ok hk))
      have HV : Hid (permB X F = foEq F (F.san X)) := Lib.hid (by unfold permB; rw [if_pos hk])
      rw [hk]
      clear hk
      go_enter Tryz.func21, Tryz.ntmps21
      go_wp2_with (first
        | (go_at_call 33; refine (HAK.out _ B0.out).mono ?_; rintro e w1 ⟨rfl, hB⟩; rw [HK.out]; have q := HX.out.below hB (by simp); have BB := Lib.hid (B0.out.trans (hB.mono B0.out.size)); clear p0 p1 p2 p3 p4 p5 p6 p7 p8; obtain ⟨p0, p1, p2, p3, p4, p5, p6, p7, p8⟩ := lay9 q; have QX := Lib.hid q; clear q hB)
        | (go_at_call 34; refine (l08Tree_any X V F _ A c b o lo hi HG.out.1 HG.out.2 (HC.out.next BB.out) HA.out (Nat.le_trans hh BB.out.size) (FoAt.below HA.out HF.out BB.out hh)).mono ?_; rintro e w2 ⟨v, bl, rfl, hB, hG⟩; obtain ⟨A1, c1, bs1, rfl, hKR⟩ := KR.of hG (by have := HN.out; have := Fo.len_le_nodes (F.san X); unfold maxLen; omega); obtain ⟨b1, hr1, hf1⟩ := hKR.read; have B2 := Lib.hid (BB.out.trans (hB.mono BB.out.size)); have K1 := Lib.hid (And.intro hr1 (And.intro hf1 (Nat.le_refl w2.heap.size))); clear hG hB hKR hr1 hf1)
        | (go_at_call 54; refine (l03Same_any (F.san X) F _ A1 A c1 c b1 b 0 o _ _ lo hi K1.out.1 HA.out K1.out.2.2 (Nat.le_trans hh B2.out.size) K1.out.2.1 (FoAt.below HA.out HF.out B2.out hh)).mono ?_; rintro e w3 ⟨rfl, hB⟩; rw [foEq_turn]; have B3 := Lib.hid (B2.out.trans (hB.mono B2.out.size)); clear hB))
      go_ret2
      exact ⟨by rw [HV.out]; try rfl, B3.out⟩
    · have HV : Hid (permB X F = false) := Lib.hid (by unfold permB; rw [if_neg hk])
      have hk' : (sanC X F != 0) = true := by simpa using hk
      rw [HV.out]
      clear hk
      generalize sanC X F = C at HAK hk' ⊢
      go_enter Tryz.func21, Tryz.ntmps21
      go_wp2_with (go_at_call 33; refine (HAK.out _ B0.out).mono ?_; rintro e w1 ⟨rfl, hB⟩; have BB := Lib.hid (B0.out.trans (hB.mono B0.out.size)); clear hB)
      go_ret2
      exact ⟨by try rfl, BB.out⟩
  · have hl' : (F.len : Int) > 4096 := by omega
    have HE : Hid (sanC X F = 2) := Lib.hid (by unfold sanC; rw [if_neg (by rw [fault_long hl]; decide), fault_long hl])
    have hk : ¬ sanC X F = 0 := by rw [HE.out]; decide
    have HV : Hid (permB X F = false) := Lib.hid (by unfold permB; rw [if_neg hk])
    clear hk
    go_enter Tryz.func21, Tryz.ntmps21
    go_wp2
    go_ret2
    exact ⟨by rw [HV.out, HE.out]; try rfl, B0.out⟩
set_option maxHeartbeats 2000000 in
set_option maxRecDepth 100000 in
theorem specRemoved_any (X : Cf) (V : CfV) (F : Fo) (w : World) (A : Option Addr) (c b o lo hi : Nat) (h : CfIn w X V) (hmx : MaxAt w) (hd : F.nodes ≤ 1048576) (hh : hi ≤ w.heap.size) (hA : RowAt lo hi A F.len b o) (hF : FoAt w lo hi b o F) :
    Calls Tryz.prog 23 #[.slice A F.len c, .agg #[.bool X.ha, .bool X.hb, .slice V.a1 X.al.length V.c1, .slice V.a2 X.rm.length V.c2, .slice V.a3 X.uw.length V.c3, .slice V.a4 X.at_.length V.c4, .slice V.a5 X.dp.length V.c5, .bool X.cm, .bool X.da]] w fun e w' => e = .returned (.tuple #[.int .i64 (remO X F), .int .i64 (sanC X F)]) ∧ Below w.heap.size w w' := by
  have HA := Lib.hid hA
  have HC := Lib.hid h
  have HMX := Lib.hid hmx
  have hln := Fo.len_le_nodes F
  have hsn := Nat.le_trans (Fo.san_nodes X F) hd
  have HN := Lib.hid hsn
  have B0 : Hid (Below w.heap.size w (w.alloc (.cells #[.bool X.ha, .bool X.hb, .slice V.a1 X.al.length V.c1, .slice V.a2 X.rm.length V.c2, .slice V.a3 X.uw.length V.c3, .slice V.a4 X.at_.length V.c4, .slice V.a5 X.dp.length V.c5, .bool X.cm, .bool X.da] 35))) := Lib.hid ((Below.refl _ _).alloc (Nat.le_refl _) _)
  have HX : Hid (Lay (w.alloc (.cells #[.bool X.ha, .bool X.hb, .slice V.a1 X.al.length V.c1, .slice V.a2 X.rm.length V.c2, .slice V.a3 X.uw.length V.c3, .slice V.a4 X.at_.length V.c4, .slice V.a5 X.dp.length V.c5, .bool X.cm, .bool X.da] 35)) w.heap.size #[.bool X.ha, .bool X.hb, .slice V.a1 X.al.length V.c1, .slice V.a2 X.rm.length V.c2, .slice V.a3 X.uw.length V.c3, .slice V.a4 X.at_.length V.c4, .slice V.a5 X.dp.length V.c5, .bool X.cm, .bool X.da]) := Lib.hid (Lay.new w #[.bool X.ha, .bool X.hb, .slice V.a1 X.al.length V.c1, .slice V.a2 X.rm.length V.c2, .slice V.a3 X.uw.length V.c3, .slice V.a4 X.at_.length V.c4, .slice V.a5 X.dp.length V.c5, .bool X.cm, .bool X.da] 35)
  have HF := Lib.hid hF
  obtain ⟨p0, p1, p2, p3, p4, p5, p6, p7, p8⟩ := lay9 HX.out
  clear h hA hF hmx
  by_cases hl : F.len ≤ 4096
  · have HAK := Lib.hid (fun W (hW : Below w.heap.size w W) => l08Ask_any X V F W A c b o lo hi (HC.out.next hW) hd (Nat.le_trans hh hW.size) HA.out (FoAt.below HA.out HF.out hW hh))
    by_cases hk : sanC X F = 0
    · have HK := Lib.hid hk
      have HG := Lib.hid (fine_good (sanC_ok hk))
      have HV : Hid (remO X F = (F.nodes : Int) - ((F.san X).nodes : Int)) := Lib.hid (by unfold remO; rw [if_pos hk])
      rw [hk]
      clear hk
      go_enter Tryz.func23, Tryz.ntmps23
      go_wp2_with (first
        | (go_at_call 33; refine (HAK.out _ B0.out).mono ?_; rintro e w1 ⟨rfl, hB⟩; rw [HK.out]; have q := HX.out.below hB (by simp); have BB := Lib.hid (B0.out.trans (hB.mono B0.out.size)); clear p0 p1 p2 p3 p4 p5 p6 p7 p8; obtain ⟨p0, p1, p2, p3, p4, p5, p6, p7, p8⟩ := lay9 q; have QX := Lib.hid q; clear q hB))
      have BB := Lib.hid BB.out.drew
      have QX : Hid (Lay w1.drew w.heap.size #[.bool X.ha, .bool X.hb, .slice V.a1 X.al.length V.c1, .slice V.a2 X.rm.length V.c2, .slice V.a3 X.uw.length V.c3, .slice V.a4 X.at_.length V.c4, .slice V.a5 X.dp.length V.c5, .bool X.cm, .bool X.da]) := Lib.hid ⟨QX.out.1, QX.out.2⟩
      have hwr : IntKind.i64.wrap ((F.nodes : Int) - ((F.san X).nodes : Int)) = (F.nodes : Int) - ((F.san X).nodes : Int) := IntWalk.i64_in _ (by omega)
      refine wp_region_held_drew (S := fun w' => w'.cell? ⟨w.heap.size, 0, none⟩ = some (.bool X.ha) ∧ w'.cell? ⟨w.heap.size, 1, none⟩ = some (.bool X.hb) ∧ w'.cell? ⟨w.heap.size, 2, none⟩ = some (.slice V.a1 X.al.length V.c1) ∧ w'.cell? ⟨w.heap.size, 3, none⟩ = some (.slice V.a2 X.rm.length V.c2) ∧ w'.cell? ⟨w.heap.size, 4, none⟩ = some (.slice V.a3 X.uw.length V.c3) ∧ w'.cell? ⟨w.heap.size, 5, none⟩ = some (.slice V.a4 X.at_.length V.c4) ∧ w'.cell? ⟨w.heap.size, 6, none⟩ = some (.slice V.a5 X.dp.length V.c5) ∧ w'.cell? ⟨w.heap.size, 7, none⟩ = some (.bool X.cm) ∧ w'.cell? ⟨w.heap.size, 8, none⟩ = some (.bool X.da)) (by kernel_rfl) ⟨p0, p1, p2, p3, p4, p5, p6, p7, p8⟩ (fun hHeld => ?_)
      refine wpAnyH_take (i := 0) (v := .slice A F.len c) rfl (by kernel_rfl) (by kernel_rfl) (by kernel_rfl) (fun _ _ _ h => h) (Or.inl ⟨by rfl, fun w hSw => by (try dsimp only at hSw); go_simp⟩) (by assumption) ?_; (try simp only [Act.put, List.setIfInBounds_toArray, List.set_cons_zero, List.set_cons_succ, List.getElem_toArray, List.getElem_cons_zero])
      refine wpAnyH_take (i := 2) (v := .agg #[.bool X.ha, .bool X.hb, .slice V.a1 X.al.length V.c1, .slice V.a2 X.rm.length V.c2, .slice V.a3 X.uw.length V.c3, .slice V.a4 X.at_.length V.c4, .slice V.a5 X.dp.length V.c5, .bool X.cm, .bool X.da]) rfl (by kernel_rfl) (by kernel_rfl) (by kernel_rfl) (fun _ _ _ h => h) (Or.inl ⟨by rfl, fun w hSw => by (try dsimp only at hSw); go_simp⟩) (by assumption) ?_; (try simp only [Act.put, List.setIfInBounds_toArray, List.set_cons_zero, List.set_cons_succ, List.getElem_toArray, List.getElem_cons_zero, List.getElem_cons_succ])
      refine wpAnyH_take (i := 3) (v := .slice A F.len c) rfl (by kernel_rfl) (by kernel_rfl) (by kernel_rfl) (fun _ _ _ h => h) (Or.inl ⟨by rfl, fun w hSw => by (try dsimp only at hSw); go_simp⟩) (by assumption) ?_; (try simp only [Act.put, List.setIfInBounds_toArray, List.set_cons_zero, List.set_cons_succ, List.getElem_toArray, List.getElem_cons_zero, List.getElem_cons_succ])
      refine wpAnyH_ready (rs := [1]) (by kernel_rfl) (by simp) ?_; refine AllReadyH.cons rfl (fun KK hKK => ?_) AllReadyH.nil
      go_simp; (go_at_call 56; refine (l03Count_any F _ A c b o lo hi hd (Nat.le_trans hh BB.out.size) HA.out (FoAt.below HA.out HF.out BB.out hh)).mono ?_; rintro e wc ⟨rfl, hB⟩; have BC := Lib.hid (BB.out.trans (hB.mono BB.out.size)); have q := QX.out.below hB (World.block_lt_of_cell? _ ⟨w.heap.size, 0, none⟩ p0); clear hB p0 p1 p2 p3 p4 p5 p6 p7 p8; obtain ⟨p0, p1, p2, p3, p4, p5, p6, p7, p8⟩ := lay9 q; have QC := Lib.hid q; clear q); (try go_wp2_with fail); refine hKK.out _ _ ⟨p0, p1, p2, p3, p4, p5, p6, p7, p8⟩ (fun hHeld => ?_); clear hKK KK; (try simp only [Act.put, List.setIfInBounds_toArray, List.set_cons_zero, List.set_cons_succ, List.getElem_toArray, List.getElem_cons_zero, List.getElem_cons_succ])
      refine wpAnyH_ready (rs := [4]) (by kernel_rfl) (by simp) ?_; refine AllReadyH.cons rfl (fun KK hKK => ?_) AllReadyH.nil
      go_simp; (go_at_call 34; refine (l08Tree_any X V F _ A c b o lo hi HG.out.1 HG.out.2 (HC.out.next BC.out) HA.out (Nat.le_trans hh BC.out.size) (FoAt.below HA.out HF.out BC.out hh)).mono ?_; rintro e w2 ⟨v, bl, rfl, hB, hG⟩; obtain ⟨A1, c1, bs1, rfl, hKR⟩ := KR.of hG (by have := HN.out; have := Fo.len_le_nodes (F.san X); unfold maxLen; omega); obtain ⟨b1, hr1, hf1⟩ := hKR.read; have B2 := Lib.hid (BC.out.trans (hB.mono BC.out.size)); have q := QC.out.below hB (World.block_lt_of_cell? _ ⟨w.heap.size, 0, none⟩ p0); clear p0 p1 p2 p3 p4 p5 p6 p7 p8; obtain ⟨p0, p1, p2, p3, p4, p5, p6, p7, p8⟩ := lay9 q; have QT := Lib.hid q; clear q; have K1 := Lib.hid (And.intro hr1 (And.intro hf1 (Nat.le_refl w2.heap.size))); clear hG hB hKR hr1 hf1); (try go_wp2_with fail); refine hKK.out _ _ ⟨p0, p1, p2, p3, p4, p5, p6, p7, p8⟩ (fun hHeld => ?_); clear hKK KK; (try simp only [Act.put, List.setIfInBounds_toArray, List.set_cons_zero, List.set_cons_succ, List.getElem_toArray, List.getElem_cons_zero, List.getElem_cons_succ])
      refine wpAnyH_ready (rs := [5]) (by kernel_rfl) (by simp) ?_; refine AllReadyH.cons rfl (fun KK hKK => ?_) AllReadyH.nil
      go_simp; (go_at_call 56; refine (l03Count_any (F.san X) _ A1 c1 b1 0 _ _ HN.out K1.out.2.2 K1.out.1 K1.out.2.1).mono ?_; rintro e w3 ⟨rfl, hB⟩; have B3 := Lib.hid (B2.out.trans (hB.mono B2.out.size)); have q := QT.out.below hB (World.block_lt_of_cell? _ ⟨w.heap.size, 0, none⟩ p0); clear hB p0 p1 p2 p3 p4 p5 p6 p7 p8; obtain ⟨p0, p1, p2, p3, p4, p5, p6, p7, p8⟩ := lay9 q; clear q); (try go_wp2_with fail); refine hKK.out _ _ ⟨p0, p1, p2, p3, p4, p5, p6, p7, p8⟩ (fun hHeld => ?_); clear hKK KK; (try simp only [Act.put, List.setIfInBounds_toArray, List.set_cons_zero, List.set_cons_succ, List.getElem_toArray, List.getElem_cons_zero, List.getElem_cons_succ])
      refine wpAnyH_take (i := 6) (v := .int .i64 ((F.nodes : Int) - ((F.san X).nodes : Int))) rfl (by kernel_rfl) (by kernel_rfl) (by kernel_rfl) (fun _ _ _ h => h) (Or.inl ⟨by rfl, fun w hSw => by (try dsimp only at hSw); go_simp⟩) (by assumption) ?_; (try simp only [Act.put, List.setIfInBounds_toArray, List.set_cons_zero, List.set_cons_succ, List.getElem_toArray, List.getElem_cons_zero, List.getElem_cons_succ])
      refine wpAnyH_take (i := 7) (v := .int .i64 ((F.nodes : Int) - ((F.san X).nodes : Int))) rfl (by kernel_rfl) (by kernel_rfl) (by kernel_rfl) (fun _ _ _ h => h) (Or.inl ⟨by rfl, fun w hSw => by (try dsimp only at hSw); go_simp⟩) (by assumption) ?_; (try simp only [Act.put, List.setIfInBounds_toArray, List.set_cons_zero, List.set_cons_succ, List.getElem_toArray, List.getElem_cons_zero, List.getElem_cons_succ])
      refine wpAnyH_take (i := 8) (v := .int .i64 0) rfl (by kernel_rfl) (by kernel_rfl) (by kernel_rfl) (fun _ _ _ h => h) (Or.inl ⟨by rfl, fun w hSw => by (try dsimp only at hSw); go_simp⟩) (by assumption) ?_; (try simp only [Act.put, List.setIfInBounds_toArray, List.set_cons_zero, List.set_cons_succ, List.getElem_toArray, List.getElem_cons_zero, List.getElem_cons_succ])
      refine wpAnyH_done (by kernel_rfl) ?_ _
      (try go_wp2)
      go_ret2
      exact ⟨by rw [HV.out]; try rfl, B3.out⟩
    · have HV : Hid (remO X F = 0) := Lib.hid (by unfold remO; rw [if_neg hk])
      have hk' : (sanC X F != 0) = true := by simpa using hk
      rw [HV.out]
      clear hk
      generalize sanC X F = C at HAK hk' ⊢
      go_enter Tryz.func23, Tryz.ntmps23
      go_wp2_with (go_at_call 33; refine (HAK.out _ B0.out).mono ?_; rintro e w1 ⟨rfl, hB⟩; have BB := Lib.hid (B0.out.trans (hB.mono B0.out.size)); clear hB)
      go_ret2
      exact ⟨by try rfl, BB.out⟩
  · have hl' : (F.len : Int) > 4096 := by omega
    have HE : Hid (sanC X F = 2) := Lib.hid (by unfold sanC; rw [if_neg (by rw [fault_long hl]; decide), fault_long hl])
    have hk : ¬ sanC X F = 0 := by rw [HE.out]; decide
    have HV : Hid (remO X F = 0) := Lib.hid (by unfold remO; rw [if_neg hk])
    clear hk
    go_enter Tryz.func23, Tryz.ntmps23
    go_wp2
    go_ret2
    exact ⟨by rw [HV.out, HE.out]; try rfl, B0.out⟩
end Go.Proofs.YthdkkpbhijlpaaaGreat
