
import Derived.Test.YtbcbmgeoaejlmaaCfAtop
import Derived.Test.YtbcbmgeoaejlmaaCf3
namespace Go.Proofs.Ytbcbmgeoaejlmaa
open Go.ChangeShapes Go.WideShapes Go.ChangeAt Go.RowKit Go.Deep

set_option maxHeartbeats 4000000 in
set_option maxRecDepth 100000 in
theorem lawAllowsAttr_walk (X : Cf) (V : CfV) (sp : Int) (n an av : ByteArray) (w : World) (hn : n.size ≤ maxLen) (h1 : an.size ≤ maxLen) (h2 : av.size ≤ maxLen) (h : CfIn w X V) :
    Calls Try.prog 3 #[.agg #[.bool X.ha, .bool X.hb, .slice V.a1 X.al.length V.c1, .slice V.a2 X.rm.length V.c2, .slice V.a3 X.uw.length V.c3, .slice V.a4 X.at_.length V.c4, .slice V.a5 X.dp.length V.c5, .bool X.cm, .bool X.da], .int .i64 sp, .string n, .agg #[.string an, .string av]] w fun e w' => e = .returned (.bool true) ∧ Below w.heap.size w w' := by
  have H0 := Lib.hid (AttBox.new h 25 27 an av)
  have HN := Lib.hid (And.intro hn (And.intro h1 h2))
  clear h
  by_cases hl : (1048576 : Int) < n.size
  · go_enter Try.func3, Try.ntmps3
    go_wp2
    all_goals (go_ret; exact ⟨rfl, H0.out.1.2.2.1⟩)
  by_cases hs : cfSize X ≤ 1048576
  · have HE := Lib.hid (left_le hs)
    have hnn : 0 ≤ ((1048576 : Nat) : Int) - ((cfSize X : Nat) : Int) := by omega
    have HSZ := Lib.hid hs
    have hnc : (1048576 : Int) - ((cfSize X : Nat) : Int) = ((1048576 - cfSize X : Nat) : Int) := by omega
    have HNC := Lib.hid hnc
    clear hnc
    by_cases hs2 : an.size + av.size ≤ 1048576 - cfSize X
    · have HE2 := Lib.hid (left_le hs2)
      have hnn2 : 0 ≤ ((1048576 - cfSize X : Nat) : Int) - ((an.size + av.size : Nat) : Int) := by omega
      clear hs hs2
      go_enter Try.func3, Try.ntmps3
      go_wp2_with fail
      refine (szConfig_any X V 1048576 _ (by omega) H0.out.1.2.1).mono ?_
      rintro e w1 ⟨rfl, hB⟩
      rw [HE.out]
      have J1 := Lib.hid (H0.out.next hB)
      clear hB H0
      obtain ⟨p0, p1, p2, p3, p4, p5, p6, p7, p8⟩ := lay9 J1.out.1.1
      obtain ⟨s0, s1⟩ := lay2u J1.out.2.1
      go_wp2_with fail
      rw [HNC.out]
      refine (szAttr_any (an, av) (1048576 - cfSize X) _ (by omega) HN.out.2.1 HN.out.2.2).mono ?_
      rintro e w2 ⟨rfl, hB⟩
      rw [HE2.out]
      have J2 := Lib.hid (J1.out.next hB)
      clear hB J1 p0 p1 p2 p3 p4 p5 p6 p7 p8 s0 s1
      obtain ⟨p0, p1, p2, p3, p4, p5, p6, p7, p8⟩ := lay9 J2.out.1.1
      obtain ⟨s0, s1⟩ := lay2u J2.out.2.1
      go_wp2_with fail
      clear p0 p1 p2 p3 p4 p5 p6 p7 p8 s0 s1
      have JD := Lib.hid (J2.out.next (Below.refl _ _).drew)
      have u0 : (fun (w' : World) => (w'.cell? ⟨w.heap.size, 0, none⟩ = some (.bool X.ha) ∧ w'.cell? ⟨w.heap.size, 1, none⟩ = some (.bool X.hb) ∧ w'.cell? ⟨w.heap.size, 2, none⟩ = some (.slice V.a1 X.al.length V.c1) ∧ w'.cell? ⟨w.heap.size, 3, none⟩ = some (.slice V.a2 X.rm.length V.c2) ∧ w'.cell? ⟨w.heap.size, 4, none⟩ = some (.slice V.a3 X.uw.length V.c3) ∧ w'.cell? ⟨w.heap.size, 5, none⟩ = some (.slice V.a4 X.at_.length V.c4) ∧ w'.cell? ⟨w.heap.size, 6, none⟩ = some (.slice V.a5 X.dp.length V.c5) ∧ w'.cell? ⟨w.heap.size, 7, none⟩ = some (.bool X.cm) ∧ w'.cell? ⟨w.heap.size, 8, none⟩ = some (.bool X.da)) ∧ w'.cell? ⟨w.heap.size + 1, 0, none⟩ = some (.string an) ∧ w'.cell? ⟨w.heap.size + 1, 1, none⟩ = some (.string av)) w2.drew := ⟨lay9 JD.out.1.1, lay2u JD.out.2.1⟩
      go_region_held3 (fun (w' : World) => (w'.cell? ⟨w.heap.size, 0, none⟩ = some (.bool X.ha) ∧ w'.cell? ⟨w.heap.size, 1, none⟩ = some (.bool X.hb) ∧ w'.cell? ⟨w.heap.size, 2, none⟩ = some (.slice V.a1 X.al.length V.c1) ∧ w'.cell? ⟨w.heap.size, 3, none⟩ = some (.slice V.a2 X.rm.length V.c2) ∧ w'.cell? ⟨w.heap.size, 4, none⟩ = some (.slice V.a3 X.uw.length V.c3) ∧ w'.cell? ⟨w.heap.size, 5, none⟩ = some (.slice V.a4 X.at_.length V.c4) ∧ w'.cell? ⟨w.heap.size, 6, none⟩ = some (.slice V.a5 X.dp.length V.c5) ∧ w'.cell? ⟨w.heap.size, 7, none⟩ = some (.bool X.cm) ∧ w'.cell? ⟨w.heap.size, 8, none⟩ = some (.bool X.da)) ∧ w'.cell? ⟨w.heap.size + 1, 0, none⟩ = some (.string an) ∧ w'.cell? ⟨w.heap.size + 1, 1, none⟩ = some (.string av)) (first | exact u3 | exact u2 | exact u1 | exact u0 | go_keep) (first
        | (go_at_call 18; refine (toConfig_any X V _ HSZ.out JD.out.1.2.1).mono ?_; rintro e w3 ⟨V1, rfl, hB, hat⟩; have Ja := Lib.hid (JD.out.next hB); have Pa := Lib.hid hat; clear hB hat; have u1 : (fun (w' : World) => (w'.cell? ⟨w.heap.size, 0, none⟩ = some (.bool X.ha) ∧ w'.cell? ⟨w.heap.size, 1, none⟩ = some (.bool X.hb) ∧ w'.cell? ⟨w.heap.size, 2, none⟩ = some (.slice V.a1 X.al.length V.c1) ∧ w'.cell? ⟨w.heap.size, 3, none⟩ = some (.slice V.a2 X.rm.length V.c2) ∧ w'.cell? ⟨w.heap.size, 4, none⟩ = some (.slice V.a3 X.uw.length V.c3) ∧ w'.cell? ⟨w.heap.size, 5, none⟩ = some (.slice V.a4 X.at_.length V.c4) ∧ w'.cell? ⟨w.heap.size, 6, none⟩ = some (.slice V.a5 X.dp.length V.c5) ∧ w'.cell? ⟨w.heap.size, 7, none⟩ = some (.bool X.cm) ∧ w'.cell? ⟨w.heap.size, 8, none⟩ = some (.bool X.da)) ∧ w'.cell? ⟨w.heap.size + 1, 0, none⟩ = some (.string an) ∧ w'.cell? ⟨w.heap.size + 1, 1, none⟩ = some (.string av)) w3 := ⟨lay9 Ja.out.1.1, lay2u Ja.out.2.1⟩)
        | (go_at_call 19; refine (toAttr_any (an, av) _ HN.out.2.1 HN.out.2.2).mono ?_; rintro e w4 ⟨rfl, hB⟩; have Jb := Lib.hid (Ja.out.next hB); have Pb := Lib.hid (Pa.out.next hB); clear hB; have u2 : (fun (w' : World) => (w'.cell? ⟨w.heap.size, 0, none⟩ = some (.bool X.ha) ∧ w'.cell? ⟨w.heap.size, 1, none⟩ = some (.bool X.hb) ∧ w'.cell? ⟨w.heap.size, 2, none⟩ = some (.slice V.a1 X.al.length V.c1) ∧ w'.cell? ⟨w.heap.size, 3, none⟩ = some (.slice V.a2 X.rm.length V.c2) ∧ w'.cell? ⟨w.heap.size, 4, none⟩ = some (.slice V.a3 X.uw.length V.c3) ∧ w'.cell? ⟨w.heap.size, 5, none⟩ = some (.slice V.a4 X.at_.length V.c4) ∧ w'.cell? ⟨w.heap.size, 6, none⟩ = some (.slice V.a5 X.dp.length V.c5) ∧ w'.cell? ⟨w.heap.size, 7, none⟩ = some (.bool X.cm) ∧ w'.cell? ⟨w.heap.size, 8, none⟩ = some (.bool X.da)) ∧ w'.cell? ⟨w.heap.size + 1, 0, none⟩ = some (.string an) ∧ w'.cell? ⟨w.heap.size + 1, 1, none⟩ = some (.string av)) w4 := ⟨lay9 Jb.out.1.1, lay2u Jb.out.2.1⟩)
        | (go_at_call 17; refine (specAttr_any X V1 sp n an av _ HN.out.1 HN.out.2.1 HN.out.2.2 Pb.out).mono ?_; rintro e w5 ⟨rfl, hB⟩; have Jc := Lib.hid (Jb.out.next hB); clear hB; have u3 : (fun (w' : World) => (w'.cell? ⟨w.heap.size, 0, none⟩ = some (.bool X.ha) ∧ w'.cell? ⟨w.heap.size, 1, none⟩ = some (.bool X.hb) ∧ w'.cell? ⟨w.heap.size, 2, none⟩ = some (.slice V.a1 X.al.length V.c1) ∧ w'.cell? ⟨w.heap.size, 3, none⟩ = some (.slice V.a2 X.rm.length V.c2) ∧ w'.cell? ⟨w.heap.size, 4, none⟩ = some (.slice V.a3 X.uw.length V.c3) ∧ w'.cell? ⟨w.heap.size, 5, none⟩ = some (.slice V.a4 X.at_.length V.c4) ∧ w'.cell? ⟨w.heap.size, 6, none⟩ = some (.slice V.a5 X.dp.length V.c5) ∧ w'.cell? ⟨w.heap.size, 7, none⟩ = some (.bool X.cm) ∧ w'.cell? ⟨w.heap.size, 8, none⟩ = some (.bool X.da)) ∧ w'.cell? ⟨w.heap.size + 1, 0, none⟩ = some (.string an) ∧ w'.cell? ⟨w.heap.size + 1, 1, none⟩ = some (.string av)) w5 := ⟨lay9 Jc.out.1.1, lay2u Jc.out.2.1⟩))
      clear u0 u1 u2 u3 JD Ja Pa Jb Pb J2
      obtain ⟨p0, p1, p2, p3, p4, p5, p6, p7, p8⟩ := lay9 Jc.out.1.1
      go_wp2_with fail
      refine (toConfig_any X V _ HSZ.out Jc.out.1.2.1).mono ?_
      rintro e w6 ⟨V2, rfl, hB, hat⟩
      have J4 := Lib.hid ((Jc.out.next hB).next ((Below.refl _ _).alloc (Nat.le_refl _) (.cells #[.bool X.ha, .bool X.hb, .slice V2.a1 X.al.length V2.c1, .slice V2.a2 X.rm.length V2.c2, .slice V2.a3 X.uw.length V2.c3, .slice V2.a4 X.at_.length V2.c4, .slice V2.a5 X.dp.length V2.c5, .bool X.cm, .bool X.da] 34)))
      have X4 := Lib.hid (CfBox.new hat 34)
      clear hB hat Jc p0 p1 p2 p3 p4 p5 p6 p7 p8
      go_wp2_with fail
      have JD := Lib.hid (J4.out.next (Below.refl _ _).drew)
      have XD := Lib.hid (X4.out.next (Below.refl _ _).drew)
      have u0 : (fun (w' : World) => (w'.cell? ⟨w6.heap.size, 0, none⟩ = some (.bool X.ha) ∧ w'.cell? ⟨w6.heap.size, 1, none⟩ = some (.bool X.hb) ∧ w'.cell? ⟨w6.heap.size, 2, none⟩ = some (.slice V2.a1 X.al.length V2.c1) ∧ w'.cell? ⟨w6.heap.size, 3, none⟩ = some (.slice V2.a2 X.rm.length V2.c2) ∧ w'.cell? ⟨w6.heap.size, 4, none⟩ = some (.slice V2.a3 X.uw.length V2.c3) ∧ w'.cell? ⟨w6.heap.size, 5, none⟩ = some (.slice V2.a4 X.at_.length V2.c4) ∧ w'.cell? ⟨w6.heap.size, 6, none⟩ = some (.slice V2.a5 X.dp.length V2.c5) ∧ w'.cell? ⟨w6.heap.size, 7, none⟩ = some (.bool X.cm) ∧ w'.cell? ⟨w6.heap.size, 8, none⟩ = some (.bool X.da)) ∧ (w'.cell? ⟨w.heap.size, 0, none⟩ = some (.bool X.ha) ∧ w'.cell? ⟨w.heap.size, 1, none⟩ = some (.bool X.hb) ∧ w'.cell? ⟨w.heap.size, 2, none⟩ = some (.slice V.a1 X.al.length V.c1) ∧ w'.cell? ⟨w.heap.size, 3, none⟩ = some (.slice V.a2 X.rm.length V.c2) ∧ w'.cell? ⟨w.heap.size, 4, none⟩ = some (.slice V.a3 X.uw.length V.c3) ∧ w'.cell? ⟨w.heap.size, 5, none⟩ = some (.slice V.a4 X.at_.length V.c4) ∧ w'.cell? ⟨w.heap.size, 6, none⟩ = some (.slice V.a5 X.dp.length V.c5) ∧ w'.cell? ⟨w.heap.size, 7, none⟩ = some (.bool X.cm) ∧ w'.cell? ⟨w.heap.size, 8, none⟩ = some (.bool X.da)) ∧ w'.cell? ⟨w.heap.size + 1, 0, none⟩ = some (.string an) ∧ w'.cell? ⟨w.heap.size + 1, 1, none⟩ = some (.string av)) _ := ⟨lay9 XD.out.1, lay9 JD.out.1.1, lay2u JD.out.2.1⟩
      go_region_held3 (fun (w' : World) => (w'.cell? ⟨w6.heap.size, 0, none⟩ = some (.bool X.ha) ∧ w'.cell? ⟨w6.heap.size, 1, none⟩ = some (.bool X.hb) ∧ w'.cell? ⟨w6.heap.size, 2, none⟩ = some (.slice V2.a1 X.al.length V2.c1) ∧ w'.cell? ⟨w6.heap.size, 3, none⟩ = some (.slice V2.a2 X.rm.length V2.c2) ∧ w'.cell? ⟨w6.heap.size, 4, none⟩ = some (.slice V2.a3 X.uw.length V2.c3) ∧ w'.cell? ⟨w6.heap.size, 5, none⟩ = some (.slice V2.a4 X.at_.length V2.c4) ∧ w'.cell? ⟨w6.heap.size, 6, none⟩ = some (.slice V2.a5 X.dp.length V2.c5) ∧ w'.cell? ⟨w6.heap.size, 7, none⟩ = some (.bool X.cm) ∧ w'.cell? ⟨w6.heap.size, 8, none⟩ = some (.bool X.da)) ∧ (w'.cell? ⟨w.heap.size, 0, none⟩ = some (.bool X.ha) ∧ w'.cell? ⟨w.heap.size, 1, none⟩ = some (.bool X.hb) ∧ w'.cell? ⟨w.heap.size, 2, none⟩ = some (.slice V.a1 X.al.length V.c1) ∧ w'.cell? ⟨w.heap.size, 3, none⟩ = some (.slice V.a2 X.rm.length V.c2) ∧ w'.cell? ⟨w.heap.size, 4, none⟩ = some (.slice V.a3 X.uw.length V.c3) ∧ w'.cell? ⟨w.heap.size, 5, none⟩ = some (.slice V.a4 X.at_.length V.c4) ∧ w'.cell? ⟨w.heap.size, 6, none⟩ = some (.slice V.a5 X.dp.length V.c5) ∧ w'.cell? ⟨w.heap.size, 7, none⟩ = some (.bool X.cm) ∧ w'.cell? ⟨w.heap.size, 8, none⟩ = some (.bool X.da)) ∧ w'.cell? ⟨w.heap.size + 1, 0, none⟩ = some (.string an) ∧ w'.cell? ⟨w.heap.size + 1, 1, none⟩ = some (.string av)) (first | exact u2 | exact u1 | exact u0 | go_keep) (first
        | (go_at_call 19; refine (toAttr_any (an, av) _ HN.out.2.1 HN.out.2.2).mono ?_; rintro e w7 ⟨rfl, hB⟩; have Ja := Lib.hid (JD.out.next hB); have Xa := Lib.hid (XD.out.next hB); clear hB; have u1 : (fun (w' : World) => (w'.cell? ⟨w6.heap.size, 0, none⟩ = some (.bool X.ha) ∧ w'.cell? ⟨w6.heap.size, 1, none⟩ = some (.bool X.hb) ∧ w'.cell? ⟨w6.heap.size, 2, none⟩ = some (.slice V2.a1 X.al.length V2.c1) ∧ w'.cell? ⟨w6.heap.size, 3, none⟩ = some (.slice V2.a2 X.rm.length V2.c2) ∧ w'.cell? ⟨w6.heap.size, 4, none⟩ = some (.slice V2.a3 X.uw.length V2.c3) ∧ w'.cell? ⟨w6.heap.size, 5, none⟩ = some (.slice V2.a4 X.at_.length V2.c4) ∧ w'.cell? ⟨w6.heap.size, 6, none⟩ = some (.slice V2.a5 X.dp.length V2.c5) ∧ w'.cell? ⟨w6.heap.size, 7, none⟩ = some (.bool X.cm) ∧ w'.cell? ⟨w6.heap.size, 8, none⟩ = some (.bool X.da)) ∧ (w'.cell? ⟨w.heap.size, 0, none⟩ = some (.bool X.ha) ∧ w'.cell? ⟨w.heap.size, 1, none⟩ = some (.bool X.hb) ∧ w'.cell? ⟨w.heap.size, 2, none⟩ = some (.slice V.a1 X.al.length V.c1) ∧ w'.cell? ⟨w.heap.size, 3, none⟩ = some (.slice V.a2 X.rm.length V.c2) ∧ w'.cell? ⟨w.heap.size, 4, none⟩ = some (.slice V.a3 X.uw.length V.c3) ∧ w'.cell? ⟨w.heap.size, 5, none⟩ = some (.slice V.a4 X.at_.length V.c4) ∧ w'.cell? ⟨w.heap.size, 6, none⟩ = some (.slice V.a5 X.dp.length V.c5) ∧ w'.cell? ⟨w.heap.size, 7, none⟩ = some (.bool X.cm) ∧ w'.cell? ⟨w.heap.size, 8, none⟩ = some (.bool X.da)) ∧ w'.cell? ⟨w.heap.size + 1, 0, none⟩ = some (.string an) ∧ w'.cell? ⟨w.heap.size + 1, 1, none⟩ = some (.string av)) w7 := ⟨lay9 Xa.out.1, lay9 Ja.out.1.1, lay2u Ja.out.2.1⟩)
        | (go_at_call 20; refine (implAttr_any X V2 sp n an av _ HN.out.1 HN.out.2.1 HN.out.2.2 Xa.out.2.1).mono ?_; rintro e w8 ⟨rfl, hB⟩; have Jb := Lib.hid (Ja.out.next hB); have Xb := Lib.hid (Xa.out.next hB); clear hB; have u2 : (fun (w' : World) => (w'.cell? ⟨w6.heap.size, 0, none⟩ = some (.bool X.ha) ∧ w'.cell? ⟨w6.heap.size, 1, none⟩ = some (.bool X.hb) ∧ w'.cell? ⟨w6.heap.size, 2, none⟩ = some (.slice V2.a1 X.al.length V2.c1) ∧ w'.cell? ⟨w6.heap.size, 3, none⟩ = some (.slice V2.a2 X.rm.length V2.c2) ∧ w'.cell? ⟨w6.heap.size, 4, none⟩ = some (.slice V2.a3 X.uw.length V2.c3) ∧ w'.cell? ⟨w6.heap.size, 5, none⟩ = some (.slice V2.a4 X.at_.length V2.c4) ∧ w'.cell? ⟨w6.heap.size, 6, none⟩ = some (.slice V2.a5 X.dp.length V2.c5) ∧ w'.cell? ⟨w6.heap.size, 7, none⟩ = some (.bool X.cm) ∧ w'.cell? ⟨w6.heap.size, 8, none⟩ = some (.bool X.da)) ∧ (w'.cell? ⟨w.heap.size, 0, none⟩ = some (.bool X.ha) ∧ w'.cell? ⟨w.heap.size, 1, none⟩ = some (.bool X.hb) ∧ w'.cell? ⟨w.heap.size, 2, none⟩ = some (.slice V.a1 X.al.length V.c1) ∧ w'.cell? ⟨w.heap.size, 3, none⟩ = some (.slice V.a2 X.rm.length V.c2) ∧ w'.cell? ⟨w.heap.size, 4, none⟩ = some (.slice V.a3 X.uw.length V.c3) ∧ w'.cell? ⟨w.heap.size, 5, none⟩ = some (.slice V.a4 X.at_.length V.c4) ∧ w'.cell? ⟨w.heap.size, 6, none⟩ = some (.slice V.a5 X.dp.length V.c5) ∧ w'.cell? ⟨w.heap.size, 7, none⟩ = some (.bool X.cm) ∧ w'.cell? ⟨w.heap.size, 8, none⟩ = some (.bool X.da)) ∧ w'.cell? ⟨w.heap.size + 1, 0, none⟩ = some (.string an) ∧ w'.cell? ⟨w.heap.size + 1, 1, none⟩ = some (.string av)) w8 := ⟨lay9 Xb.out.1, lay9 Jb.out.1.1, lay2u Jb.out.2.1⟩))
      clear u0 u1 u2 JD XD Ja Xa J4 X4
      go_wp2_with fail
      have JD := Lib.hid (Jb.out.next (Below.refl _ _).drew)
      have XD := Lib.hid (Xb.out.next (Below.refl _ _).drew)
      have u0 : (fun (w' : World) => (w'.cell? ⟨w6.heap.size, 0, none⟩ = some (.bool X.ha) ∧ w'.cell? ⟨w6.heap.size, 1, none⟩ = some (.bool X.hb) ∧ w'.cell? ⟨w6.heap.size, 2, none⟩ = some (.slice V2.a1 X.al.length V2.c1) ∧ w'.cell? ⟨w6.heap.size, 3, none⟩ = some (.slice V2.a2 X.rm.length V2.c2) ∧ w'.cell? ⟨w6.heap.size, 4, none⟩ = some (.slice V2.a3 X.uw.length V2.c3) ∧ w'.cell? ⟨w6.heap.size, 5, none⟩ = some (.slice V2.a4 X.at_.length V2.c4) ∧ w'.cell? ⟨w6.heap.size, 6, none⟩ = some (.slice V2.a5 X.dp.length V2.c5) ∧ w'.cell? ⟨w6.heap.size, 7, none⟩ = some (.bool X.cm) ∧ w'.cell? ⟨w6.heap.size, 8, none⟩ = some (.bool X.da)) ∧ w'.cell? ⟨w.heap.size, 0, none⟩ = some (.bool X.ha) ∧ w'.cell? ⟨w.heap.size, 1, none⟩ = some (.bool X.hb) ∧ w'.cell? ⟨w.heap.size, 2, none⟩ = some (.slice V.a1 X.al.length V.c1) ∧ w'.cell? ⟨w.heap.size, 3, none⟩ = some (.slice V.a2 X.rm.length V.c2) ∧ w'.cell? ⟨w.heap.size, 4, none⟩ = some (.slice V.a3 X.uw.length V.c3) ∧ w'.cell? ⟨w.heap.size, 5, none⟩ = some (.slice V.a4 X.at_.length V.c4) ∧ w'.cell? ⟨w.heap.size, 6, none⟩ = some (.slice V.a5 X.dp.length V.c5) ∧ w'.cell? ⟨w.heap.size, 7, none⟩ = some (.bool X.cm) ∧ w'.cell? ⟨w.heap.size, 8, none⟩ = some (.bool X.da)) _ := ⟨lay9 XD.out.1, lay9 JD.out.1.1⟩
      go_region_held3 (fun (w' : World) => (w'.cell? ⟨w6.heap.size, 0, none⟩ = some (.bool X.ha) ∧ w'.cell? ⟨w6.heap.size, 1, none⟩ = some (.bool X.hb) ∧ w'.cell? ⟨w6.heap.size, 2, none⟩ = some (.slice V2.a1 X.al.length V2.c1) ∧ w'.cell? ⟨w6.heap.size, 3, none⟩ = some (.slice V2.a2 X.rm.length V2.c2) ∧ w'.cell? ⟨w6.heap.size, 4, none⟩ = some (.slice V2.a3 X.uw.length V2.c3) ∧ w'.cell? ⟨w6.heap.size, 5, none⟩ = some (.slice V2.a4 X.at_.length V2.c4) ∧ w'.cell? ⟨w6.heap.size, 6, none⟩ = some (.slice V2.a5 X.dp.length V2.c5) ∧ w'.cell? ⟨w6.heap.size, 7, none⟩ = some (.bool X.cm) ∧ w'.cell? ⟨w6.heap.size, 8, none⟩ = some (.bool X.da)) ∧ w'.cell? ⟨w.heap.size, 0, none⟩ = some (.bool X.ha) ∧ w'.cell? ⟨w.heap.size, 1, none⟩ = some (.bool X.hb) ∧ w'.cell? ⟨w.heap.size, 2, none⟩ = some (.slice V.a1 X.al.length V.c1) ∧ w'.cell? ⟨w.heap.size, 3, none⟩ = some (.slice V.a2 X.rm.length V.c2) ∧ w'.cell? ⟨w.heap.size, 4, none⟩ = some (.slice V.a3 X.uw.length V.c3) ∧ w'.cell? ⟨w.heap.size, 5, none⟩ = some (.slice V.a4 X.at_.length V.c4) ∧ w'.cell? ⟨w.heap.size, 6, none⟩ = some (.slice V.a5 X.dp.length V.c5) ∧ w'.cell? ⟨w.heap.size, 7, none⟩ = some (.bool X.cm) ∧ w'.cell? ⟨w.heap.size, 8, none⟩ = some (.bool X.da)) (first | exact u1 | exact u2 | exact u0 | go_keep) (first | (go_at_call 18; refine (toConfig_any X V _ HSZ.out JD.out.1.2.1).mono ?_; rintro e w9 ⟨V3, rfl, hB, hat⟩; have Ja := Lib.hid (JD.out.next hB); have Xa := Lib.hid (XD.out.next hB); have Pa := Lib.hid hat; clear hB hat; have u1 : (fun (w' : World) => (w'.cell? ⟨w6.heap.size, 0, none⟩ = some (.bool X.ha) ∧ w'.cell? ⟨w6.heap.size, 1, none⟩ = some (.bool X.hb) ∧ w'.cell? ⟨w6.heap.size, 2, none⟩ = some (.slice V2.a1 X.al.length V2.c1) ∧ w'.cell? ⟨w6.heap.size, 3, none⟩ = some (.slice V2.a2 X.rm.length V2.c2) ∧ w'.cell? ⟨w6.heap.size, 4, none⟩ = some (.slice V2.a3 X.uw.length V2.c3) ∧ w'.cell? ⟨w6.heap.size, 5, none⟩ = some (.slice V2.a4 X.at_.length V2.c4) ∧ w'.cell? ⟨w6.heap.size, 6, none⟩ = some (.slice V2.a5 X.dp.length V2.c5) ∧ w'.cell? ⟨w6.heap.size, 7, none⟩ = some (.bool X.cm) ∧ w'.cell? ⟨w6.heap.size, 8, none⟩ = some (.bool X.da)) ∧ w'.cell? ⟨w.heap.size, 0, none⟩ = some (.bool X.ha) ∧ w'.cell? ⟨w.heap.size, 1, none⟩ = some (.bool X.hb) ∧ w'.cell? ⟨w.heap.size, 2, none⟩ = some (.slice V.a1 X.al.length V.c1) ∧ w'.cell? ⟨w.heap.size, 3, none⟩ = some (.slice V.a2 X.rm.length V.c2) ∧ w'.cell? ⟨w.heap.size, 4, none⟩ = some (.slice V.a3 X.uw.length V.c3) ∧ w'.cell? ⟨w.heap.size, 5, none⟩ = some (.slice V.a4 X.at_.length V.c4) ∧ w'.cell? ⟨w.heap.size, 6, none⟩ = some (.slice V.a5 X.dp.length V.c5) ∧ w'.cell? ⟨w.heap.size, 7, none⟩ = some (.bool X.cm) ∧ w'.cell? ⟨w.heap.size, 8, none⟩ = some (.bool X.da)) w9 := ⟨lay9 Xa.out.1, lay9 Ja.out.1.1⟩) | (go_at_call 21; refine (eqConfig_same X V2 V3 _ Xa.out.2.1 Pa.out).mono ?_; rintro e w10 ⟨rfl, hB⟩; have J8 := Lib.hid (Ja.out.next hB); have X8 := Lib.hid (Xa.out.next hB); clear hB; have u2 : (fun (w' : World) => (w'.cell? ⟨w6.heap.size, 0, none⟩ = some (.bool X.ha) ∧ w'.cell? ⟨w6.heap.size, 1, none⟩ = some (.bool X.hb) ∧ w'.cell? ⟨w6.heap.size, 2, none⟩ = some (.slice V2.a1 X.al.length V2.c1) ∧ w'.cell? ⟨w6.heap.size, 3, none⟩ = some (.slice V2.a2 X.rm.length V2.c2) ∧ w'.cell? ⟨w6.heap.size, 4, none⟩ = some (.slice V2.a3 X.uw.length V2.c3) ∧ w'.cell? ⟨w6.heap.size, 5, none⟩ = some (.slice V2.a4 X.at_.length V2.c4) ∧ w'.cell? ⟨w6.heap.size, 6, none⟩ = some (.slice V2.a5 X.dp.length V2.c5) ∧ w'.cell? ⟨w6.heap.size, 7, none⟩ = some (.bool X.cm) ∧ w'.cell? ⟨w6.heap.size, 8, none⟩ = some (.bool X.da)) ∧ w'.cell? ⟨w.heap.size, 0, none⟩ = some (.bool X.ha) ∧ w'.cell? ⟨w.heap.size, 1, none⟩ = some (.bool X.hb) ∧ w'.cell? ⟨w.heap.size, 2, none⟩ = some (.slice V.a1 X.al.length V.c1) ∧ w'.cell? ⟨w.heap.size, 3, none⟩ = some (.slice V.a2 X.rm.length V.c2) ∧ w'.cell? ⟨w.heap.size, 4, none⟩ = some (.slice V.a3 X.uw.length V.c3) ∧ w'.cell? ⟨w.heap.size, 5, none⟩ = some (.slice V.a4 X.at_.length V.c4) ∧ w'.cell? ⟨w.heap.size, 6, none⟩ = some (.slice V.a5 X.dp.length V.c5) ∧ w'.cell? ⟨w.heap.size, 7, none⟩ = some (.bool X.cm) ∧ w'.cell? ⟨w.heap.size, 8, none⟩ = some (.bool X.da)) w10 := ⟨lay9 X8.out.1, lay9 J8.out.1.1⟩))
      clear u0 u1 u2 Ja Xa Pa JD XD Jb Xb
      go_wp2
      go_ret
      exact ⟨rfl, J8.out.1.2.2.1⟩
    · have HE2 := Lib.hid (left_gt hs2)
      clear hs hs2
      go_enter Try.func3, Try.ntmps3
      go_wp2_with fail
      refine (szConfig_any X V 1048576 _ (by omega) H0.out.1.2.1).mono ?_
      rintro e w1 ⟨rfl, hB⟩
      rw [HE.out]
      have J1 := Lib.hid (H0.out.next hB)
      clear hB H0
      obtain ⟨p0, p1, p2, p3, p4, p5, p6, p7, p8⟩ := lay9 J1.out.1.1
      obtain ⟨s0, s1⟩ := lay2u J1.out.2.1
      go_wp2_with fail
      rw [HNC.out]
      refine (szAttr_any (an, av) (1048576 - cfSize X) _ (by omega) HN.out.2.1 HN.out.2.2).mono ?_
      rintro e w2 ⟨rfl, hB⟩
      rw [HE2.out]
      have J2 := Lib.hid (J1.out.next hB)
      clear hB J1 p0 p1 p2 p3 p4 p5 p6 p7 p8 s0 s1
      go_wp2
      go_ret
      exact ⟨rfl, J2.out.1.2.2.1⟩
  · have HE := Lib.hid (left_gt hs)
    clear hs
    go_enter Try.func3, Try.ntmps3
    go_wp2_with fail
    refine (szConfig_any X V 1048576 _ (by omega) H0.out.1.2.1).mono ?_
    rintro e w1 ⟨rfl, hB⟩
    rw [HE.out]
    have J1 := Lib.hid (H0.out.next hB)
    clear hB H0
    go_wp2
    go_ret
    exact ⟨rfl, J1.out.1.2.2.1⟩
end Go.Proofs.Ytbcbmgeoaejlmaa
