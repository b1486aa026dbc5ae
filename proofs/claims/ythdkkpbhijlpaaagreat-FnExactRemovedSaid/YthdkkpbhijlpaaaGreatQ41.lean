import Derived.Test.YthdkkpbhijlpaaaGreatQ39
import Derived.Test.YthdkkpbhijlpaaaGreatQ38
import Derived.Test.YthdkkpbhijlpaaaGreatQ40
set_option linter.unusedVariables false
namespace Go.Proofs.YthdkkpbhijlpaaaGreat
open Go.ChangeShapes Go.WideShapes Go.ChangeAt Go.RowKit Go.Deep

set_option maxHeartbeats 4000000 in
set_option maxRecDepth 100000 in
theorem lawPermitted_walk (F : Fo) (X : Cf) (V : CfV) (w : World) (A : Option Addr) (c b o hi : Nat) (h : CameIn w A b o hi F) (hX : CfIn w X V) (hmx : MaxAt w) :
    Calls Tryz.prog 5 #[.slice A F.len c, .agg #[.bool X.ha, .bool X.hb, .slice V.a1 X.al.length V.c1, .slice V.a2 X.rm.length V.c2, .slice V.a3 X.uw.length V.c3, .slice V.a4 X.at_.length V.c4, .slice V.a5 X.dp.length V.c5, .bool X.cm, .bool X.da]] w fun e w' => e = .returned (.bool true) ∧ Below w.heap.size w w' := by
  have hml := h.1.1
  have H0 := Lib.hid (CfBox.new hX 26)
  have H := Lib.hid h
  have HMX := Lib.hid hmx
  have HL := Lib.hid hml
  clear h hX hmx hml
  by_cases hs : F.len + F.size ≤ 1048576
  · have HE := Lib.hid (left_le hs)
    have hnn : 0 ≤ ((1048576 : Nat) : Int) - ((F.len + F.size : Nat) : Int) := by omega
    have HRE : Hid (((1048576 : Nat) : Int) - ((F.len + F.size : Nat) : Int) = ((1048576 - (F.len + F.size) : Nat) : Int)) := Lib.hid (by omega)
    have HS := Lib.hid hs
    have HN := Lib.hid (Nat.le_trans (Fo.nodes_le F) hs)
    by_cases hs2 : cfSize X ≤ 1048576 - (F.len + F.size)
    · have HE2 := Lib.hid (left_le hs2)
      have hnn2 : 0 ≤ ((1048576 - (F.len + F.size) : Nat) : Int) - ((cfSize X : Nat) : Int) := by omega
      have HSZ : Hid (cfSize X ≤ 1048576) := Lib.hid (by omega)
      clear hs hs2
      go_enter Tryz.func5, Tryz.ntmps5
      go_wp2_with fail
      refine (szNodeS_any F 1048576 _ A c b o hi (by omega) (H.out.next H0.out.2.2.1).1 (H.out.next H0.out.2.2.1).2.1 (H.out.next H0.out.2.2.1).2.2).mono ?_
      rintro e w1 ⟨rfl, hB⟩
      rw [HE.out, HRE.out]
      have J1 := Lib.hid (H0.out.next hB)
      clear hB H0
      obtain ⟨p0, p1, p2, p3, p4, p5, p6, p7, p8⟩ := lay9 J1.out.1
      go_wp2_with fail
      refine (szConfig_any X V (1048576 - (F.len + F.size)) _ (by omega) J1.out.2.1).mono ?_
      rintro e w2 ⟨rfl, hB⟩
      rw [HE2.out]
      have J2 := Lib.hid (J1.out.next hB)
      clear hB J1 p0 p1 p2 p3 p4 p5 p6 p7 p8
      have JD := Lib.hid (J2.out.next (Below.refl _ _).drew)
      obtain ⟨p0, p1, p2, p3, p4, p5, p6, p7, p8⟩ := lay9 JD.out.1
      go_wp2_with fail
      go_region_held3 (fun w' => w'.cell? ⟨w.heap.size, 0, none⟩ = some (.bool X.ha) ∧ w'.cell? ⟨w.heap.size, 1, none⟩ = some (.bool X.hb) ∧ w'.cell? ⟨w.heap.size, 2, none⟩ = some (.slice V.a1 X.al.length V.c1) ∧ w'.cell? ⟨w.heap.size, 3, none⟩ = some (.slice V.a2 X.rm.length V.c2) ∧ w'.cell? ⟨w.heap.size, 4, none⟩ = some (.slice V.a3 X.uw.length V.c3) ∧ w'.cell? ⟨w.heap.size, 5, none⟩ = some (.slice V.a4 X.at_.length V.c4) ∧ w'.cell? ⟨w.heap.size, 6, none⟩ = some (.slice V.a5 X.dp.length V.c5) ∧ w'.cell? ⟨w.heap.size, 7, none⟩ = some (.bool X.cm) ∧ w'.cell? ⟨w.heap.size, 8, none⟩ = some (.bool X.da)) (first | exact ⟨p0, p1, p2, p3, p4, p5, p6, p7, p8⟩ | go_keep) (first | (go_at_call 11; refine (copy_any F _ A c b o hi HS.out (H.out.next JD.out.2.2.1)).mono ?_; rintro e w3 ⟨rfl, hB, hM⟩; have J3 := Lib.hid (JD.out.next hB); have M3 := Lib.hid hM; clear hB hM p0 p1 p2 p3 p4 p5 p6 p7 p8; obtain ⟨p0, p1, p2, p3, p4, p5, p6, p7, p8⟩ := lay9 J3.out.1) | (go_at_call 12; refine (toConfig_any X V _ HSZ.out J3.out.2.1).mono ?_; rintro e w4 ⟨V1, rfl, hB, hat⟩; have J4 := Lib.hid (J3.out.next hB); have M4 := Lib.hid (M3.out.next hB); have C4 := Lib.hid hat; clear hB hat p0 p1 p2 p3 p4 p5 p6 p7 p8; obtain ⟨p0, p1, p2, p3, p4, p5, p6, p7, p8⟩ := lay9 J4.out.1) | (go_at_call 21; refine (specPermitted_any X V1 F _ _ _ _ _ _ _ C4.out (HMX.out.below J4.out.2.2.1) HN.out M4.out.1 (M4.out.row HL.out) M4.out.2.2).mono ?_; rintro e w5 ⟨rfl, hB⟩; have J5 := Lib.hid (J4.out.next hB); clear hB p0 p1 p2 p3 p4 p5 p6 p7 p8; obtain ⟨p0, p1, p2, p3, p4, p5, p6, p7, p8⟩ := lay9 J5.out.1))
      clear J2 JD J3 M3 J4 M4 C4
      go_wp2_with fail
      refine (copy_any F _ A c b o hi HS.out (H.out.next J5.out.2.2.1)).mono ?_
      rintro e w6 ⟨rfl, hB, hM⟩
      have J6 := Lib.hid (J5.out.next hB)
      have M6 := Lib.hid hM
      clear hB hM J5 p0 p1 p2 p3 p4 p5 p6 p7 p8
      obtain ⟨p0, p1, p2, p3, p4, p5, p6, p7, p8⟩ := lay9 J6.out.1
      go_wp2_with fail
      refine (toConfig_any X V _ HSZ.out J6.out.2.1).mono ?_
      rintro e w7 ⟨V2, rfl, hB, hat⟩
      have J8 := Lib.hid ((J6.out.next hB).next ((Below.refl _ _).alloc (Nat.le_refl _) (.cells #[.bool X.ha, .bool X.hb, .slice V2.a1 X.al.length V2.c1, .slice V2.a2 X.rm.length V2.c2, .slice V2.a3 X.uw.length V2.c3, .slice V2.a4 X.at_.length V2.c4, .slice V2.a5 X.dp.length V2.c5, .bool X.cm, .bool X.da] 35)))
      have M8 := Lib.hid ((M6.out.next hB).next ((Below.refl _ _).alloc (Nat.le_refl _) (.cells #[.bool X.ha, .bool X.hb, .slice V2.a1 X.al.length V2.c1, .slice V2.a2 X.rm.length V2.c2, .slice V2.a3 X.uw.length V2.c3, .slice V2.a4 X.at_.length V2.c4, .slice V2.a5 X.dp.length V2.c5, .bool X.cm, .bool X.da] 35)))
      have X8 := Lib.hid (CfBox.new hat 35)
      clear hB hat J6 M6 p0 p1 p2 p3 p4 p5 p6 p7 p8
      obtain ⟨q0, q1, q2, q3, q4, q5, q6, q7, q8⟩ := lay9 X8.out.1
      go_wp2_with fail
      refine (implPermitted_any X V2 F _ _ _ _ _ _ _ X8.out.2.1 (HMX.out.below J8.out.2.2.1) HN.out M8.out.1 (M8.out.row HL.out) M8.out.2.2).mono ?_
      rintro e w9 ⟨rfl, hB⟩
      have J9 := Lib.hid (J8.out.next hB)
      have M9 := Lib.hid (M8.out.next hB)
      have X9 := Lib.hid (X8.out.next hB)
      clear hB J8 M8 X8 q0 q1 q2 q3 q4 q5 q6 q7 q8
      go_wp2_with fail
      refine (copy_any F _ A c b o hi HS.out (H.out.next J9.out.2.2.1)).mono ?_
      rintro e w10 ⟨rfl, hB, hM⟩
      have J10 := Lib.hid (J9.out.next hB)
      have M10 := Lib.hid hM
      have N10 := Lib.hid (M9.out.next hB)
      have X10 := Lib.hid (X9.out.next hB)
      clear hB hM J9 M9 X9
      go_wp2_with fail
      refine (alike_any F _ _ _ _ _ _ _ HL.out N10.out M10.out).mono ?_
      rintro e w11 ⟨rfl, hB⟩
      have J5 := Lib.hid (J10.out.next hB)
      have X5 := Lib.hid (X10.out.next hB)
      clear hB J10 X10 M10 N10
      go_wp2_with fail
      have JD := Lib.hid (J5.out.next (Below.refl _ _).drew)
      have XD := Lib.hid (X5.out.next (Below.refl _ _).drew)
      have u0 : (fun w' => (w'.cell? ⟨w7.heap.size, 0, none⟩ = some (.bool X.ha) ∧ w'.cell? ⟨w7.heap.size, 1, none⟩ = some (.bool X.hb) ∧ w'.cell? ⟨w7.heap.size, 2, none⟩ = some (.slice V2.a1 X.al.length V2.c1) ∧ w'.cell? ⟨w7.heap.size, 3, none⟩ = some (.slice V2.a2 X.rm.length V2.c2) ∧ w'.cell? ⟨w7.heap.size, 4, none⟩ = some (.slice V2.a3 X.uw.length V2.c3) ∧ w'.cell? ⟨w7.heap.size, 5, none⟩ = some (.slice V2.a4 X.at_.length V2.c4) ∧ w'.cell? ⟨w7.heap.size, 6, none⟩ = some (.slice V2.a5 X.dp.length V2.c5) ∧ w'.cell? ⟨w7.heap.size, 7, none⟩ = some (.bool X.cm) ∧ w'.cell? ⟨w7.heap.size, 8, none⟩ = some (.bool X.da)) ∧ w'.cell? ⟨w.heap.size, 0, none⟩ = some (.bool X.ha) ∧ w'.cell? ⟨w.heap.size, 1, none⟩ = some (.bool X.hb) ∧ w'.cell? ⟨w.heap.size, 2, none⟩ = some (.slice V.a1 X.al.length V.c1) ∧ w'.cell? ⟨w.heap.size, 3, none⟩ = some (.slice V.a2 X.rm.length V.c2) ∧ w'.cell? ⟨w.heap.size, 4, none⟩ = some (.slice V.a3 X.uw.length V.c3) ∧ w'.cell? ⟨w.heap.size, 5, none⟩ = some (.slice V.a4 X.at_.length V.c4) ∧ w'.cell? ⟨w.heap.size, 6, none⟩ = some (.slice V.a5 X.dp.length V.c5) ∧ w'.cell? ⟨w.heap.size, 7, none⟩ = some (.bool X.cm) ∧ w'.cell? ⟨w.heap.size, 8, none⟩ = some (.bool X.da)) w11.drew := ⟨lay9 XD.out.1, lay9 JD.out.1⟩
      go_region_held3 (fun w' => (w'.cell? ⟨w7.heap.size, 0, none⟩ = some (.bool X.ha) ∧ w'.cell? ⟨w7.heap.size, 1, none⟩ = some (.bool X.hb) ∧ w'.cell? ⟨w7.heap.size, 2, none⟩ = some (.slice V2.a1 X.al.length V2.c1) ∧ w'.cell? ⟨w7.heap.size, 3, none⟩ = some (.slice V2.a2 X.rm.length V2.c2) ∧ w'.cell? ⟨w7.heap.size, 4, none⟩ = some (.slice V2.a3 X.uw.length V2.c3) ∧ w'.cell? ⟨w7.heap.size, 5, none⟩ = some (.slice V2.a4 X.at_.length V2.c4) ∧ w'.cell? ⟨w7.heap.size, 6, none⟩ = some (.slice V2.a5 X.dp.length V2.c5) ∧ w'.cell? ⟨w7.heap.size, 7, none⟩ = some (.bool X.cm) ∧ w'.cell? ⟨w7.heap.size, 8, none⟩ = some (.bool X.da)) ∧ w'.cell? ⟨w.heap.size, 0, none⟩ = some (.bool X.ha) ∧ w'.cell? ⟨w.heap.size, 1, none⟩ = some (.bool X.hb) ∧ w'.cell? ⟨w.heap.size, 2, none⟩ = some (.slice V.a1 X.al.length V.c1) ∧ w'.cell? ⟨w.heap.size, 3, none⟩ = some (.slice V.a2 X.rm.length V.c2) ∧ w'.cell? ⟨w.heap.size, 4, none⟩ = some (.slice V.a3 X.uw.length V.c3) ∧ w'.cell? ⟨w.heap.size, 5, none⟩ = some (.slice V.a4 X.at_.length V.c4) ∧ w'.cell? ⟨w.heap.size, 6, none⟩ = some (.slice V.a5 X.dp.length V.c5) ∧ w'.cell? ⟨w.heap.size, 7, none⟩ = some (.bool X.cm) ∧ w'.cell? ⟨w.heap.size, 8, none⟩ = some (.bool X.da)) (first | exact u1 | exact u2 | exact u0 | go_keep) (first | (go_at_call 12; refine (toConfig_any X V _ HSZ.out JD.out.2.1).mono ?_; rintro e wa ⟨V3, rfl, hB, hat⟩; have Ja := Lib.hid (JD.out.next hB); have Xa := Lib.hid (XD.out.next hB); have Pa := Lib.hid hat; clear hB hat; have u1 : (fun w' => (w'.cell? ⟨w7.heap.size, 0, none⟩ = some (.bool X.ha) ∧ w'.cell? ⟨w7.heap.size, 1, none⟩ = some (.bool X.hb) ∧ w'.cell? ⟨w7.heap.size, 2, none⟩ = some (.slice V2.a1 X.al.length V2.c1) ∧ w'.cell? ⟨w7.heap.size, 3, none⟩ = some (.slice V2.a2 X.rm.length V2.c2) ∧ w'.cell? ⟨w7.heap.size, 4, none⟩ = some (.slice V2.a3 X.uw.length V2.c3) ∧ w'.cell? ⟨w7.heap.size, 5, none⟩ = some (.slice V2.a4 X.at_.length V2.c4) ∧ w'.cell? ⟨w7.heap.size, 6, none⟩ = some (.slice V2.a5 X.dp.length V2.c5) ∧ w'.cell? ⟨w7.heap.size, 7, none⟩ = some (.bool X.cm) ∧ w'.cell? ⟨w7.heap.size, 8, none⟩ = some (.bool X.da)) ∧ w'.cell? ⟨w.heap.size, 0, none⟩ = some (.bool X.ha) ∧ w'.cell? ⟨w.heap.size, 1, none⟩ = some (.bool X.hb) ∧ w'.cell? ⟨w.heap.size, 2, none⟩ = some (.slice V.a1 X.al.length V.c1) ∧ w'.cell? ⟨w.heap.size, 3, none⟩ = some (.slice V.a2 X.rm.length V.c2) ∧ w'.cell? ⟨w.heap.size, 4, none⟩ = some (.slice V.a3 X.uw.length V.c3) ∧ w'.cell? ⟨w.heap.size, 5, none⟩ = some (.slice V.a4 X.at_.length V.c4) ∧ w'.cell? ⟨w.heap.size, 6, none⟩ = some (.slice V.a5 X.dp.length V.c5) ∧ w'.cell? ⟨w.heap.size, 7, none⟩ = some (.bool X.cm) ∧ w'.cell? ⟨w.heap.size, 8, none⟩ = some (.bool X.da)) wa := ⟨lay9 Xa.out.1, lay9 Ja.out.1⟩) | (go_at_call 15; refine (eqConfig_same X V2 V3 _ Xa.out.2.1 Pa.out).mono ?_; rintro e wb ⟨rfl, hB⟩; have J12 := Lib.hid (Ja.out.next hB); have X12 := Lib.hid (Xa.out.next hB); clear hB; have u2 : (fun w' => (w'.cell? ⟨w7.heap.size, 0, none⟩ = some (.bool X.ha) ∧ w'.cell? ⟨w7.heap.size, 1, none⟩ = some (.bool X.hb) ∧ w'.cell? ⟨w7.heap.size, 2, none⟩ = some (.slice V2.a1 X.al.length V2.c1) ∧ w'.cell? ⟨w7.heap.size, 3, none⟩ = some (.slice V2.a2 X.rm.length V2.c2) ∧ w'.cell? ⟨w7.heap.size, 4, none⟩ = some (.slice V2.a3 X.uw.length V2.c3) ∧ w'.cell? ⟨w7.heap.size, 5, none⟩ = some (.slice V2.a4 X.at_.length V2.c4) ∧ w'.cell? ⟨w7.heap.size, 6, none⟩ = some (.slice V2.a5 X.dp.length V2.c5) ∧ w'.cell? ⟨w7.heap.size, 7, none⟩ = some (.bool X.cm) ∧ w'.cell? ⟨w7.heap.size, 8, none⟩ = some (.bool X.da)) ∧ w'.cell? ⟨w.heap.size, 0, none⟩ = some (.bool X.ha) ∧ w'.cell? ⟨w.heap.size, 1, none⟩ = some (.bool X.hb) ∧ w'.cell? ⟨w.heap.size, 2, none⟩ = some (.slice V.a1 X.al.length V.c1) ∧ w'.cell? ⟨w.heap.size, 3, none⟩ = some (.slice V.a2 X.rm.length V.c2) ∧ w'.cell? ⟨w.heap.size, 4, none⟩ = some (.slice V.a3 X.uw.length V.c3) ∧ w'.cell? ⟨w.heap.size, 5, none⟩ = some (.slice V.a4 X.at_.length V.c4) ∧ w'.cell? ⟨w.heap.size, 6, none⟩ = some (.slice V.a5 X.dp.length V.c5) ∧ w'.cell? ⟨w.heap.size, 7, none⟩ = some (.bool X.cm) ∧ w'.cell? ⟨w.heap.size, 8, none⟩ = some (.bool X.da)) wb := ⟨lay9 X12.out.1, lay9 J12.out.1⟩))
      clear u0 u1 u2 Ja Xa Pa JD XD J5 X5
      go_wp2
      go_ret
      exact ⟨rfl, J12.out.2.2.1⟩
    · have HE2 := Lib.hid (left_gt hs2)
      clear hs hs2
      go_enter Tryz.func5, Tryz.ntmps5
      go_wp2_with fail
      refine (szNodeS_any F 1048576 _ A c b o hi (by omega) (H.out.next H0.out.2.2.1).1 (H.out.next H0.out.2.2.1).2.1 (H.out.next H0.out.2.2.1).2.2).mono ?_
      rintro e w1 ⟨rfl, hB⟩
      rw [HE.out, HRE.out]
      have J1 := Lib.hid (H0.out.next hB)
      clear hB H0
      obtain ⟨p0, p1, p2, p3, p4, p5, p6, p7, p8⟩ := lay9 J1.out.1
      go_wp2_with fail
      refine (szConfig_any X V (1048576 - (F.len + F.size)) _ (by omega) J1.out.2.1).mono ?_
      rintro e w2 ⟨rfl, hB⟩
      rw [HE2.out]
      have J2 := Lib.hid (J1.out.next hB)
      clear hB
      go_wp2
      go_ret
      exact ⟨rfl, J2.out.2.2.1⟩
  · have HE := Lib.hid (left_gt hs)
    clear hs
    go_enter Tryz.func5, Tryz.ntmps5
    go_wp2_with fail
    refine (szNodeS_any F 1048576 _ A c b o hi (by omega) (H.out.next H0.out.2.2.1).1 (H.out.next H0.out.2.2.1).2.1 (H.out.next H0.out.2.2.1).2.2).mono ?_
    rintro e w1 ⟨rfl, hB⟩
    rw [HE.out]
    have J1 := Lib.hid (H0.out.next hB)
    clear hB
    go_wp2
    go_ret
    exact ⟨rfl, J1.out.2.2.1⟩
end Go.Proofs.YthdkkpbhijlpaaaGreat
namespace Go.Proofs.YthdkkpbhijlpaaaGreat
open Go.ChangeShapes Go.WideShapes Go.ChangeAt Go.RowKit Go.Deep

set_option maxHeartbeats 4000000 in
set_option maxRecDepth 100000 in
theorem lawRemoved_walk (F : Fo) (X : Cf) (V : CfV) (w : World) (A : Option Addr) (c b o hi : Nat) (h : CameIn w A b o hi F) (hX : CfIn w X V) (hmx : MaxAt w) :
    Calls Tryz.prog 6 #[.slice A F.len c, .agg #[.bool X.ha, .bool X.hb, .slice V.a1 X.al.length V.c1, .slice V.a2 X.rm.length V.c2, .slice V.a3 X.uw.length V.c3, .slice V.a4 X.at_.length V.c4, .slice V.a5 X.dp.length V.c5, .bool X.cm, .bool X.da]] w fun e w' => e = .returned (.bool true) ∧ Below w.heap.size w w' := by
  have hml := h.1.1
  have H0 := Lib.hid (CfBox.new hX 26)
  have H := Lib.hid h
  have HMX := Lib.hid hmx
  have HL := Lib.hid hml
  clear h hX hmx hml
  by_cases hs : F.len + F.size ≤ 1048576
  · have HE := Lib.hid (left_le hs)
    have hnn : 0 ≤ ((1048576 : Nat) : Int) - ((F.len + F.size : Nat) : Int) := by omega
    have HRE : Hid (((1048576 : Nat) : Int) - ((F.len + F.size : Nat) : Int) = ((1048576 - (F.len + F.size) : Nat) : Int)) := Lib.hid (by omega)
    have HS := Lib.hid hs
    have HN := Lib.hid (Nat.le_trans (Fo.nodes_le F) hs)
    by_cases hs2 : cfSize X ≤ 1048576 - (F.len + F.size)
    · have HE2 := Lib.hid (left_le hs2)
      have hnn2 : 0 ≤ ((1048576 - (F.len + F.size) : Nat) : Int) - ((cfSize X : Nat) : Int) := by omega
      have HSZ : Hid (cfSize X ≤ 1048576) := Lib.hid (by omega)
      clear hs hs2
      go_enter Tryz.func6, Tryz.ntmps6
      go_wp2_with fail
      refine (szNodeS_any F 1048576 _ A c b o hi (by omega) (H.out.next H0.out.2.2.1).1 (H.out.next H0.out.2.2.1).2.1 (H.out.next H0.out.2.2.1).2.2).mono ?_
      rintro e w1 ⟨rfl, hB⟩
      rw [HE.out, HRE.out]
      have J1 := Lib.hid (H0.out.next hB)
      clear hB H0
      obtain ⟨p0, p1, p2, p3, p4, p5, p6, p7, p8⟩ := lay9 J1.out.1
      go_wp2_with fail
      refine (szConfig_any X V (1048576 - (F.len + F.size)) _ (by omega) J1.out.2.1).mono ?_
      rintro e w2 ⟨rfl, hB⟩
      rw [HE2.out]
      have J2 := Lib.hid (J1.out.next hB)
      clear hB J1 p0 p1 p2 p3 p4 p5 p6 p7 p8
      have JD := Lib.hid (J2.out.next (Below.refl _ _).drew)
      obtain ⟨p0, p1, p2, p3, p4, p5, p6, p7, p8⟩ := lay9 JD.out.1
      go_wp2_with fail
      go_region_held3 (fun w' => w'.cell? ⟨w.heap.size, 0, none⟩ = some (.bool X.ha) ∧ w'.cell? ⟨w.heap.size, 1, none⟩ = some (.bool X.hb) ∧ w'.cell? ⟨w.heap.size, 2, none⟩ = some (.slice V.a1 X.al.length V.c1) ∧ w'.cell? ⟨w.heap.size, 3, none⟩ = some (.slice V.a2 X.rm.length V.c2) ∧ w'.cell? ⟨w.heap.size, 4, none⟩ = some (.slice V.a3 X.uw.length V.c3) ∧ w'.cell? ⟨w.heap.size, 5, none⟩ = some (.slice V.a4 X.at_.length V.c4) ∧ w'.cell? ⟨w.heap.size, 6, none⟩ = some (.slice V.a5 X.dp.length V.c5) ∧ w'.cell? ⟨w.heap.size, 7, none⟩ = some (.bool X.cm) ∧ w'.cell? ⟨w.heap.size, 8, none⟩ = some (.bool X.da)) (first | exact ⟨p0, p1, p2, p3, p4, p5, p6, p7, p8⟩ | go_keep) (first | (go_at_call 11; refine (copy_any F _ A c b o hi HS.out (H.out.next JD.out.2.2.1)).mono ?_; rintro e w3 ⟨rfl, hB, hM⟩; have J3 := Lib.hid (JD.out.next hB); have M3 := Lib.hid hM; clear hB hM p0 p1 p2 p3 p4 p5 p6 p7 p8; obtain ⟨p0, p1, p2, p3, p4, p5, p6, p7, p8⟩ := lay9 J3.out.1) | (go_at_call 12; refine (toConfig_any X V _ HSZ.out J3.out.2.1).mono ?_; rintro e w4 ⟨V1, rfl, hB, hat⟩; have J4 := Lib.hid (J3.out.next hB); have M4 := Lib.hid (M3.out.next hB); have C4 := Lib.hid hat; clear hB hat p0 p1 p2 p3 p4 p5 p6 p7 p8; obtain ⟨p0, p1, p2, p3, p4, p5, p6, p7, p8⟩ := lay9 J4.out.1) | (go_at_call 23; refine (specRemoved_any X V1 F _ _ _ _ _ _ _ C4.out (HMX.out.below J4.out.2.2.1) HN.out M4.out.1 (M4.out.row HL.out) M4.out.2.2).mono ?_; rintro e w5 ⟨rfl, hB⟩; have J5 := Lib.hid (J4.out.next hB); clear hB p0 p1 p2 p3 p4 p5 p6 p7 p8; obtain ⟨p0, p1, p2, p3, p4, p5, p6, p7, p8⟩ := lay9 J5.out.1))
      clear J2 JD J3 M3 J4 M4 C4
      go_wp2_with fail
      refine (copy_any F _ A c b o hi HS.out (H.out.next J5.out.2.2.1)).mono ?_
      rintro e w6 ⟨rfl, hB, hM⟩
      have J6 := Lib.hid (J5.out.next hB)
      have M6 := Lib.hid hM
      clear hB hM J5 p0 p1 p2 p3 p4 p5 p6 p7 p8
      obtain ⟨p0, p1, p2, p3, p4, p5, p6, p7, p8⟩ := lay9 J6.out.1
      go_wp2_with fail
      refine (toConfig_any X V _ HSZ.out J6.out.2.1).mono ?_
      rintro e w7 ⟨V2, rfl, hB, hat⟩
      have J8 := Lib.hid ((J6.out.next hB).next ((Below.refl _ _).alloc (Nat.le_refl _) (.cells #[.bool X.ha, .bool X.hb, .slice V2.a1 X.al.length V2.c1, .slice V2.a2 X.rm.length V2.c2, .slice V2.a3 X.uw.length V2.c3, .slice V2.a4 X.at_.length V2.c4, .slice V2.a5 X.dp.length V2.c5, .bool X.cm, .bool X.da] 35)))
      have M8 := Lib.hid ((M6.out.next hB).next ((Below.refl _ _).alloc (Nat.le_refl _) (.cells #[.bool X.ha, .bool X.hb, .slice V2.a1 X.al.length V2.c1, .slice V2.a2 X.rm.length V2.c2, .slice V2.a3 X.uw.length V2.c3, .slice V2.a4 X.at_.length V2.c4, .slice V2.a5 X.dp.length V2.c5, .bool X.cm, .bool X.da] 35)))
      have X8 := Lib.hid (CfBox.new hat 35)
      clear hB hat J6 M6 p0 p1 p2 p3 p4 p5 p6 p7 p8
      obtain ⟨q0, q1, q2, q3, q4, q5, q6, q7, q8⟩ := lay9 X8.out.1
      go_wp2_with fail
      refine (implRemoved_any X V2 F _ _ _ _ _ _ _ X8.out.2.1 (HMX.out.below J8.out.2.2.1) HN.out M8.out.1 (M8.out.row HL.out) M8.out.2.2).mono ?_
      rintro e w9 ⟨rfl, hB⟩
      have J9 := Lib.hid (J8.out.next hB)
      have M9 := Lib.hid (M8.out.next hB)
      have X9 := Lib.hid (X8.out.next hB)
      clear hB J8 M8 X8 q0 q1 q2 q3 q4 q5 q6 q7 q8
      go_wp2_with fail
      refine (copy_any F _ A c b o hi HS.out (H.out.next J9.out.2.2.1)).mono ?_
      rintro e w10 ⟨rfl, hB, hM⟩
      have J10 := Lib.hid (J9.out.next hB)
      have M10 := Lib.hid hM
      have N10 := Lib.hid (M9.out.next hB)
      have X10 := Lib.hid (X9.out.next hB)
      clear hB hM J9 M9 X9
      go_wp2_with fail
      refine (alike_any F _ _ _ _ _ _ _ HL.out N10.out M10.out).mono ?_
      rintro e w11 ⟨rfl, hB⟩
      have J5 := Lib.hid (J10.out.next hB)
      have X5 := Lib.hid (X10.out.next hB)
      clear hB J10 X10 M10 N10
      go_wp2_with fail
      have JD := Lib.hid (J5.out.next (Below.refl _ _).drew)
      have XD := Lib.hid (X5.out.next (Below.refl _ _).drew)
      have u0 : (fun w' => (w'.cell? ⟨w7.heap.size, 0, none⟩ = some (.bool X.ha) ∧ w'.cell? ⟨w7.heap.size, 1, none⟩ = some (.bool X.hb) ∧ w'.cell? ⟨w7.heap.size, 2, none⟩ = some (.slice V2.a1 X.al.length V2.c1) ∧ w'.cell? ⟨w7.heap.size, 3, none⟩ = some (.slice V2.a2 X.rm.length V2.c2) ∧ w'.cell? ⟨w7.heap.size, 4, none⟩ = some (.slice V2.a3 X.uw.length V2.c3) ∧ w'.cell? ⟨w7.heap.size, 5, none⟩ = some (.slice V2.a4 X.at_.length V2.c4) ∧ w'.cell? ⟨w7.heap.size, 6, none⟩ = some (.slice V2.a5 X.dp.length V2.c5) ∧ w'.cell? ⟨w7.heap.size, 7, none⟩ = some (.bool X.cm) ∧ w'.cell? ⟨w7.heap.size, 8, none⟩ = some (.bool X.da)) ∧ w'.cell? ⟨w.heap.size, 0, none⟩ = some (.bool X.ha) ∧ w'.cell? ⟨w.heap.size, 1, none⟩ = some (.bool X.hb) ∧ w'.cell? ⟨w.heap.size, 2, none⟩ = some (.slice V.a1 X.al.length V.c1) ∧ w'.cell? ⟨w.heap.size, 3, none⟩ = some (.slice V.a2 X.rm.length V.c2) ∧ w'.cell? ⟨w.heap.size, 4, none⟩ = some (.slice V.a3 X.uw.length V.c3) ∧ w'.cell? ⟨w.heap.size, 5, none⟩ = some (.slice V.a4 X.at_.length V.c4) ∧ w'.cell? ⟨w.heap.size, 6, none⟩ = some (.slice V.a5 X.dp.length V.c5) ∧ w'.cell? ⟨w.heap.size, 7, none⟩ = some (.bool X.cm) ∧ w'.cell? ⟨w.heap.size, 8, none⟩ = some (.bool X.da)) w11.drew := ⟨lay9 XD.out.1, lay9 JD.out.1⟩
      go_region_held3 (fun w' => (w'.cell? ⟨w7.heap.size, 0, none⟩ = some (.bool X.ha) ∧ w'.cell? ⟨w7.heap.size, 1, none⟩ = some (.bool X.hb) ∧ w'.cell? ⟨w7.heap.size, 2, none⟩ = some (.slice V2.a1 X.al.length V2.c1) ∧ w'.cell? ⟨w7.heap.size, 3, none⟩ = some (.slice V2.a2 X.rm.length V2.c2) ∧ w'.cell? ⟨w7.heap.size, 4, none⟩ = some (.slice V2.a3 X.uw.length V2.c3) ∧ w'.cell? ⟨w7.heap.size, 5, none⟩ = some (.slice V2.a4 X.at_.length V2.c4) ∧ w'.cell? ⟨w7.heap.size, 6, none⟩ = some (.slice V2.a5 X.dp.length V2.c5) ∧ w'.cell? ⟨w7.heap.size, 7, none⟩ = some (.bool X.cm) ∧ w'.cell? ⟨w7.heap.size, 8, none⟩ = some (.bool X.da)) ∧ w'.cell? ⟨w.heap.size, 0, none⟩ = some (.bool X.ha) ∧ w'.cell? ⟨w.heap.size, 1, none⟩ = some (.bool X.hb) ∧ w'.cell? ⟨w.heap.size, 2, none⟩ = some (.slice V.a1 X.al.length V.c1) ∧ w'.cell? ⟨w.heap.size, 3, none⟩ = some (.slice V.a2 X.rm.length V.c2) ∧ w'.cell? ⟨w.heap.size, 4, none⟩ = some (.slice V.a3 X.uw.length V.c3) ∧ w'.cell? ⟨w.heap.size, 5, none⟩ = some (.slice V.a4 X.at_.length V.c4) ∧ w'.cell? ⟨w.heap.size, 6, none⟩ = some (.slice V.a5 X.dp.length V.c5) ∧ w'.cell? ⟨w.heap.size, 7, none⟩ = some (.bool X.cm) ∧ w'.cell? ⟨w.heap.size, 8, none⟩ = some (.bool X.da)) (first | exact u1 | exact u2 | exact u0 | go_keep) (first | (go_at_call 12; refine (toConfig_any X V _ HSZ.out JD.out.2.1).mono ?_; rintro e wa ⟨V3, rfl, hB, hat⟩; have Ja := Lib.hid (JD.out.next hB); have Xa := Lib.hid (XD.out.next hB); have Pa := Lib.hid hat; clear hB hat; have u1 : (fun w' => (w'.cell? ⟨w7.heap.size, 0, none⟩ = some (.bool X.ha) ∧ w'.cell? ⟨w7.heap.size, 1, none⟩ = some (.bool X.hb) ∧ w'.cell? ⟨w7.heap.size, 2, none⟩ = some (.slice V2.a1 X.al.length V2.c1) ∧ w'.cell? ⟨w7.heap.size, 3, none⟩ = some (.slice V2.a2 X.rm.length V2.c2) ∧ w'.cell? ⟨w7.heap.size, 4, none⟩ = some (.slice V2.a3 X.uw.length V2.c3) ∧ w'.cell? ⟨w7.heap.size, 5, none⟩ = some (.slice V2.a4 X.at_.length V2.c4) ∧ w'.cell? ⟨w7.heap.size, 6, none⟩ = some (.slice V2.a5 X.dp.length V2.c5) ∧ w'.cell? ⟨w7.heap.size, 7, none⟩ = some (.bool X.cm) ∧ w'.cell? ⟨w7.heap.size, 8, none⟩ = some (.bool X.da)) ∧ w'.cell? ⟨w.heap.size, 0, none⟩ = some (.bool X.ha) ∧ w'.cell? ⟨w.heap.size, 1, none⟩ = some (.bool X.hb) ∧ w'.cell? ⟨w.heap.size, 2, none⟩ = some (.slice V.a1 X.al.length V.c1) ∧ w'.cell? ⟨w.heap.size, 3, none⟩ = some (.slice V.a2 X.rm.length V.c2) ∧ w'.cell? ⟨w.heap.size, 4, none⟩ = some (.slice V.a3 X.uw.length V.c3) ∧ w'.cell? ⟨w.heap.size, 5, none⟩ = some (.slice V.a4 X.at_.length V.c4) ∧ w'.cell? ⟨w.heap.size, 6, none⟩ = some (.slice V.a5 X.dp.length V.c5) ∧ w'.cell? ⟨w.heap.size, 7, none⟩ = some (.bool X.cm) ∧ w'.cell? ⟨w.heap.size, 8, none⟩ = some (.bool X.da)) wa := ⟨lay9 Xa.out.1, lay9 Ja.out.1⟩) | (go_at_call 15; refine (eqConfig_same X V2 V3 _ Xa.out.2.1 Pa.out).mono ?_; rintro e wb ⟨rfl, hB⟩; have J12 := Lib.hid (Ja.out.next hB); have X12 := Lib.hid (Xa.out.next hB); clear hB; have u2 : (fun w' => (w'.cell? ⟨w7.heap.size, 0, none⟩ = some (.bool X.ha) ∧ w'.cell? ⟨w7.heap.size, 1, none⟩ = some (.bool X.hb) ∧ w'.cell? ⟨w7.heap.size, 2, none⟩ = some (.slice V2.a1 X.al.length V2.c1) ∧ w'.cell? ⟨w7.heap.size, 3, none⟩ = some (.slice V2.a2 X.rm.length V2.c2) ∧ w'.cell? ⟨w7.heap.size, 4, none⟩ = some (.slice V2.a3 X.uw.length V2.c3) ∧ w'.cell? ⟨w7.heap.size, 5, none⟩ = some (.slice V2.a4 X.at_.length V2.c4) ∧ w'.cell? ⟨w7.heap.size, 6, none⟩ = some (.slice V2.a5 X.dp.length V2.c5) ∧ w'.cell? ⟨w7.heap.size, 7, none⟩ = some (.bool X.cm) ∧ w'.cell? ⟨w7.heap.size, 8, none⟩ = some (.bool X.da)) ∧ w'.cell? ⟨w.heap.size, 0, none⟩ = some (.bool X.ha) ∧ w'.cell? ⟨w.heap.size, 1, none⟩ = some (.bool X.hb) ∧ w'.cell? ⟨w.heap.size, 2, none⟩ = some (.slice V.a1 X.al.length V.c1) ∧ w'.cell? ⟨w.heap.size, 3, none⟩ = some (.slice V.a2 X.rm.length V.c2) ∧ w'.cell? ⟨w.heap.size, 4, none⟩ = some (.slice V.a3 X.uw.length V.c3) ∧ w'.cell? ⟨w.heap.size, 5, none⟩ = some (.slice V.a4 X.at_.length V.c4) ∧ w'.cell? ⟨w.heap.size, 6, none⟩ = some (.slice V.a5 X.dp.length V.c5) ∧ w'.cell? ⟨w.heap.size, 7, none⟩ = some (.bool X.cm) ∧ w'.cell? ⟨w.heap.size, 8, none⟩ = some (.bool X.da)) wb := ⟨lay9 X12.out.1, lay9 J12.out.1⟩))
      clear u0 u1 u2 Ja Xa Pa JD XD J5 X5
      go_wp2
      go_ret
      exact ⟨rfl, J12.out.2.2.1⟩
    · have HE2 := Lib.hid (left_gt hs2)
      clear hs hs2
      go_enter Tryz.func6, Tryz.ntmps6
      go_wp2_with fail
      refine (szNodeS_any F 1048576 _ A c b o hi (by omega) (H.out.next H0.out.2.2.1).1 (H.out.next H0.out.2.2.1).2.1 (H.out.next H0.out.2.2.1).2.2).mono ?_
      rintro e w1 ⟨rfl, hB⟩
      rw [HE.out, HRE.out]
      have J1 := Lib.hid (H0.out.next hB)
      clear hB H0
      obtain ⟨p0, p1, p2, p3, p4, p5, p6, p7, p8⟩ := lay9 J1.out.1
      go_wp2_with fail
      refine (szConfig_any X V (1048576 - (F.len + F.size)) _ (by omega) J1.out.2.1).mono ?_
      rintro e w2 ⟨rfl, hB⟩
      rw [HE2.out]
      have J2 := Lib.hid (J1.out.next hB)
      clear hB
      go_wp2
      go_ret
      exact ⟨rfl, J2.out.2.2.1⟩
  · have HE := Lib.hid (left_gt hs)
    clear hs
    go_enter Tryz.func6, Tryz.ntmps6
    go_wp2_with fail
    refine (szNodeS_any F 1048576 _ A c b o hi (by omega) (H.out.next H0.out.2.2.1).1 (H.out.next H0.out.2.2.1).2.1 (H.out.next H0.out.2.2.1).2.2).mono ?_
    rintro e w1 ⟨rfl, hB⟩
    rw [HE.out]
    have J1 := Lib.hid (H0.out.next hB)
    clear hB
    go_wp2
    go_ret
    exact ⟨rfl, J1.out.2.2.1⟩
end Go.Proofs.YthdkkpbhijlpaaaGreat
