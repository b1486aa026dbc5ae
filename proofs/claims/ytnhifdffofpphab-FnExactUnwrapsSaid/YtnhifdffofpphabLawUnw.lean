
import Derived.Test.YtnhifdffofpphabUnwTop
import Derived.Test.YtnhifdffofpphabCf3
namespace Go.Proofs.Ytnhifdffofpphab
open Go.ChangeShapes Go.WideShapes Go.ChangeAt Go.RowKit Go.Deep

set_option maxHeartbeats 4000000 in
set_option maxRecDepth 100000 in
theorem lawUnwraps_walk (X : Cf) (V : CfV) (sp : Int) (n : ByteArray) (w : World) (hn : n.size ≤ maxLen) (h : CfIn w X V) :
    Calls Try.prog 5 #[.agg #[.bool X.ha, .bool X.hb, .slice V.a1 X.al.length V.c1, .slice V.a2 X.rm.length V.c2, .slice V.a3 X.uw.length V.c3, .slice V.a4 X.at_.length V.c4, .slice V.a5 X.dp.length V.c5, .bool X.cm, .bool X.da], .int .i64 sp, .string n] w fun e w' => e = .returned (.bool true) ∧ Below w.heap.size w w' := by
  have H0 := Lib.hid (CfBox.new h 25)
  have HN := Lib.hid hn
  clear h
  by_cases hl : (1048576 : Int) < n.size
  · go_enter Try.func5, Try.ntmps5
    go_wp2
    all_goals (go_ret; exact ⟨rfl, H0.out.2.2.1⟩)
  by_cases hs : cfSize X ≤ 1048576
  · have HE := Lib.hid (left_le hs)
    have hnn : 0 ≤ ((1048576 : Nat) : Int) - ((cfSize X : Nat) : Int) := by omega
    have HSZ := Lib.hid hs
    clear hs
    go_enter Try.func5, Try.ntmps5
    go_wp2_with fail
    refine (szConfig_any X V 1048576 _ (by omega) H0.out.2.1).mono ?_
    rintro e w1 ⟨rfl, hB⟩
    rw [HE.out]
    have J1 := Lib.hid (H0.out.next hB)
    clear hB H0
    obtain ⟨p0, p1, p2, p3, p4, p5, p6, p7, p8⟩ := lay9 J1.out.1
    go_wp2_with fail
    refine (toConfig_any X V _ HSZ.out J1.out.2.1).mono ?_
    rintro e w2 ⟨V1, rfl, hB, hat⟩
    have J2 := Lib.hid (J1.out.next hB)
    have X2 := Lib.hid hat
    clear hB hat J1 p0 p1 p2 p3 p4 p5 p6 p7 p8
    go_wp2_with fail
    refine (specUnwraps_any X V1 sp n _ HN.out X2.out).mono ?_
    rintro e w3 ⟨rfl, hB⟩
    have J3 := Lib.hid (J2.out.next hB)
    clear hB J2 X2
    obtain ⟨p0, p1, p2, p3, p4, p5, p6, p7, p8⟩ := lay9 J3.out.1
    go_wp2_with fail
    refine (toConfig_any X V _ HSZ.out J3.out.2.1).mono ?_
    rintro e w4 ⟨V2, rfl, hB, hat⟩
    have J4 := Lib.hid ((J3.out.next hB).next ((Below.refl _ _).alloc (Nat.le_refl _) (.cells #[.bool X.ha, .bool X.hb, .slice V2.a1 X.al.length V2.c1, .slice V2.a2 X.rm.length V2.c2, .slice V2.a3 X.uw.length V2.c3, .slice V2.a4 X.at_.length V2.c4, .slice V2.a5 X.dp.length V2.c5, .bool X.cm, .bool X.da] 31)))
    have X4 := Lib.hid (CfBox.new hat 31)
    clear hB hat J3 p0 p1 p2 p3 p4 p5 p6 p7 p8
    obtain ⟨p0, p1, p2, p3, p4, p5, p6, p7, p8⟩ := lay9 X4.out.1
    go_wp2_with fail
    refine (implUnwraps_any X V2 sp n _ HN.out X4.out.2.1).mono ?_
    rintro e w5 ⟨rfl, hB⟩
    have J5 := Lib.hid (J4.out.next hB)
    have X5 := Lib.hid (X4.out.next hB)
    clear hB J4 X4 p0 p1 p2 p3 p4 p5 p6 p7 p8
    go_wp2_with fail
    have JD := Lib.hid (J5.out.next (Below.refl _ _).drew)
    have XD := Lib.hid (X5.out.next (Below.refl _ _).drew)
    have u0 : (fun w' => (w'.cell? ⟨w4.heap.size, 0, none⟩ = some (.bool X.ha) ∧ w'.cell? ⟨w4.heap.size, 1, none⟩ = some (.bool X.hb) ∧ w'.cell? ⟨w4.heap.size, 2, none⟩ = some (.slice V2.a1 X.al.length V2.c1) ∧ w'.cell? ⟨w4.heap.size, 3, none⟩ = some (.slice V2.a2 X.rm.length V2.c2) ∧ w'.cell? ⟨w4.heap.size, 4, none⟩ = some (.slice V2.a3 X.uw.length V2.c3) ∧ w'.cell? ⟨w4.heap.size, 5, none⟩ = some (.slice V2.a4 X.at_.length V2.c4) ∧ w'.cell? ⟨w4.heap.size, 6, none⟩ = some (.slice V2.a5 X.dp.length V2.c5) ∧ w'.cell? ⟨w4.heap.size, 7, none⟩ = some (.bool X.cm) ∧ w'.cell? ⟨w4.heap.size, 8, none⟩ = some (.bool X.da)) ∧ w'.cell? ⟨w.heap.size, 0, none⟩ = some (.bool X.ha) ∧ w'.cell? ⟨w.heap.size, 1, none⟩ = some (.bool X.hb) ∧ w'.cell? ⟨w.heap.size, 2, none⟩ = some (.slice V.a1 X.al.length V.c1) ∧ w'.cell? ⟨w.heap.size, 3, none⟩ = some (.slice V.a2 X.rm.length V.c2) ∧ w'.cell? ⟨w.heap.size, 4, none⟩ = some (.slice V.a3 X.uw.length V.c3) ∧ w'.cell? ⟨w.heap.size, 5, none⟩ = some (.slice V.a4 X.at_.length V.c4) ∧ w'.cell? ⟨w.heap.size, 6, none⟩ = some (.slice V.a5 X.dp.length V.c5) ∧ w'.cell? ⟨w.heap.size, 7, none⟩ = some (.bool X.cm) ∧ w'.cell? ⟨w.heap.size, 8, none⟩ = some (.bool X.da)) w5.drew := ⟨lay9 XD.out.1, lay9 JD.out.1⟩
    go_region_held3 (fun w' => (w'.cell? ⟨w4.heap.size, 0, none⟩ = some (.bool X.ha) ∧ w'.cell? ⟨w4.heap.size, 1, none⟩ = some (.bool X.hb) ∧ w'.cell? ⟨w4.heap.size, 2, none⟩ = some (.slice V2.a1 X.al.length V2.c1) ∧ w'.cell? ⟨w4.heap.size, 3, none⟩ = some (.slice V2.a2 X.rm.length V2.c2) ∧ w'.cell? ⟨w4.heap.size, 4, none⟩ = some (.slice V2.a3 X.uw.length V2.c3) ∧ w'.cell? ⟨w4.heap.size, 5, none⟩ = some (.slice V2.a4 X.at_.length V2.c4) ∧ w'.cell? ⟨w4.heap.size, 6, none⟩ = some (.slice V2.a5 X.dp.length V2.c5) ∧ w'.cell? ⟨w4.heap.size, 7, none⟩ = some (.bool X.cm) ∧ w'.cell? ⟨w4.heap.size, 8, none⟩ = some (.bool X.da)) ∧ w'.cell? ⟨w.heap.size, 0, none⟩ = some (.bool X.ha) ∧ w'.cell? ⟨w.heap.size, 1, none⟩ = some (.bool X.hb) ∧ w'.cell? ⟨w.heap.size, 2, none⟩ = some (.slice V.a1 X.al.length V.c1) ∧ w'.cell? ⟨w.heap.size, 3, none⟩ = some (.slice V.a2 X.rm.length V.c2) ∧ w'.cell? ⟨w.heap.size, 4, none⟩ = some (.slice V.a3 X.uw.length V.c3) ∧ w'.cell? ⟨w.heap.size, 5, none⟩ = some (.slice V.a4 X.at_.length V.c4) ∧ w'.cell? ⟨w.heap.size, 6, none⟩ = some (.slice V.a5 X.dp.length V.c5) ∧ w'.cell? ⟨w.heap.size, 7, none⟩ = some (.bool X.cm) ∧ w'.cell? ⟨w.heap.size, 8, none⟩ = some (.bool X.da)) (first | exact u1 | exact u2 | exact u0 | go_keep) (first | (go_at_call 9; refine (toConfig_any X V _ HSZ.out JD.out.2.1).mono ?_; rintro e w7 ⟨V3, rfl, hB, hat⟩; have Ja := Lib.hid (JD.out.next hB); have Xa := Lib.hid (XD.out.next hB); have Pa := Lib.hid hat; clear hB hat; have u1 : (fun w' => (w'.cell? ⟨w4.heap.size, 0, none⟩ = some (.bool X.ha) ∧ w'.cell? ⟨w4.heap.size, 1, none⟩ = some (.bool X.hb) ∧ w'.cell? ⟨w4.heap.size, 2, none⟩ = some (.slice V2.a1 X.al.length V2.c1) ∧ w'.cell? ⟨w4.heap.size, 3, none⟩ = some (.slice V2.a2 X.rm.length V2.c2) ∧ w'.cell? ⟨w4.heap.size, 4, none⟩ = some (.slice V2.a3 X.uw.length V2.c3) ∧ w'.cell? ⟨w4.heap.size, 5, none⟩ = some (.slice V2.a4 X.at_.length V2.c4) ∧ w'.cell? ⟨w4.heap.size, 6, none⟩ = some (.slice V2.a5 X.dp.length V2.c5) ∧ w'.cell? ⟨w4.heap.size, 7, none⟩ = some (.bool X.cm) ∧ w'.cell? ⟨w4.heap.size, 8, none⟩ = some (.bool X.da)) ∧ w'.cell? ⟨w.heap.size, 0, none⟩ = some (.bool X.ha) ∧ w'.cell? ⟨w.heap.size, 1, none⟩ = some (.bool X.hb) ∧ w'.cell? ⟨w.heap.size, 2, none⟩ = some (.slice V.a1 X.al.length V.c1) ∧ w'.cell? ⟨w.heap.size, 3, none⟩ = some (.slice V.a2 X.rm.length V.c2) ∧ w'.cell? ⟨w.heap.size, 4, none⟩ = some (.slice V.a3 X.uw.length V.c3) ∧ w'.cell? ⟨w.heap.size, 5, none⟩ = some (.slice V.a4 X.at_.length V.c4) ∧ w'.cell? ⟨w.heap.size, 6, none⟩ = some (.slice V.a5 X.dp.length V.c5) ∧ w'.cell? ⟨w.heap.size, 7, none⟩ = some (.bool X.cm) ∧ w'.cell? ⟨w.heap.size, 8, none⟩ = some (.bool X.da)) w7 := ⟨lay9 Xa.out.1, lay9 Ja.out.1⟩) | (go_at_call 11; refine (eqConfig_same X V2 V3 _ Xa.out.2.1 Pa.out).mono ?_; rintro e w8 ⟨rfl, hB⟩; have J8 := Lib.hid (Ja.out.next hB); have X8 := Lib.hid (Xa.out.next hB); clear hB; have u2 : (fun w' => (w'.cell? ⟨w4.heap.size, 0, none⟩ = some (.bool X.ha) ∧ w'.cell? ⟨w4.heap.size, 1, none⟩ = some (.bool X.hb) ∧ w'.cell? ⟨w4.heap.size, 2, none⟩ = some (.slice V2.a1 X.al.length V2.c1) ∧ w'.cell? ⟨w4.heap.size, 3, none⟩ = some (.slice V2.a2 X.rm.length V2.c2) ∧ w'.cell? ⟨w4.heap.size, 4, none⟩ = some (.slice V2.a3 X.uw.length V2.c3) ∧ w'.cell? ⟨w4.heap.size, 5, none⟩ = some (.slice V2.a4 X.at_.length V2.c4) ∧ w'.cell? ⟨w4.heap.size, 6, none⟩ = some (.slice V2.a5 X.dp.length V2.c5) ∧ w'.cell? ⟨w4.heap.size, 7, none⟩ = some (.bool X.cm) ∧ w'.cell? ⟨w4.heap.size, 8, none⟩ = some (.bool X.da)) ∧ w'.cell? ⟨w.heap.size, 0, none⟩ = some (.bool X.ha) ∧ w'.cell? ⟨w.heap.size, 1, none⟩ = some (.bool X.hb) ∧ w'.cell? ⟨w.heap.size, 2, none⟩ = some (.slice V.a1 X.al.length V.c1) ∧ w'.cell? ⟨w.heap.size, 3, none⟩ = some (.slice V.a2 X.rm.length V.c2) ∧ w'.cell? ⟨w.heap.size, 4, none⟩ = some (.slice V.a3 X.uw.length V.c3) ∧ w'.cell? ⟨w.heap.size, 5, none⟩ = some (.slice V.a4 X.at_.length V.c4) ∧ w'.cell? ⟨w.heap.size, 6, none⟩ = some (.slice V.a5 X.dp.length V.c5) ∧ w'.cell? ⟨w.heap.size, 7, none⟩ = some (.bool X.cm) ∧ w'.cell? ⟨w.heap.size, 8, none⟩ = some (.bool X.da)) w8 := ⟨lay9 X8.out.1, lay9 J8.out.1⟩))
    clear u0 u1 u2 Ja Xa Pa JD XD J5 X5
    go_wp2
    go_ret
    exact ⟨rfl, J8.out.2.2.1⟩
  · have HE := Lib.hid (left_gt hs)
    clear hs
    go_enter Try.func5, Try.ntmps5
    go_wp2_with fail
    refine (szConfig_any X V 1048576 _ (by omega) H0.out.2.1).mono ?_
    rintro e w1 ⟨rfl, hB⟩
    rw [HE.out]
    have J1 := Lib.hid (H0.out.next hB)
    clear hB H0
    go_wp2
    go_ret
    exact ⟨rfl, J1.out.2.2.1⟩
end Go.Proofs.Ytnhifdffofpphab
