
import Derived.Test.YtbcbmgeoaejlmaaDef2
namespace Go.Proofs.Ytbcbmgeoaejlmaa
open Go.ChangeShapes Go.WideShapes Go.ChangeAt Go.RowKit Go.Deep

theorem def_cnt : cfCnt defC = 24 := by decide
theorem defK_all {n k : Nat} (h : k ∈ (defK n).all) : n + 1 ≤ k ∧ k ≤ n + 3 := by
  simp [CfB.all, defK] at h
  omega
/-- the rows of an answer, made at B or behind it -/
structure DefR (w : World) (X : Cf) (n : Nat) : Prop where
  rows : CfRows w X (defV n) (defK n)
  le : n + 3 < w.heap.size
theorem DefR.next {w w' : World} {X : Cf} {n : Nat} (h : DefR w X n) (hB : Below w.heap.size w w') : DefR w' X n :=
  ⟨h.rows.same hB.size (fun k hk => hB.block k (by have := defK_all hk; have := h.le; omega)), Nat.lt_of_lt_of_le h.le hB.size⟩
theorem DefR.in_ {w : World} {n : Nat} (h : DefR w defC n) : CfIn w defC (defV n) := h.rows.in_ def_fit (Nat.le_refl 3) (Nat.le_refl 0)
theorem markDef_any (n : Nat) (w : World) (h : DefR w defC n) :
    Calls Try.prog 26 #[.agg #[.bool true, .bool true, .slice (some ⟨n + 2, 0, none⟩) 10 10, .slice none 0 0, .slice none 0 0, .slice (some ⟨n + 3, 0, none⟩) 3 3, .slice none 0 0, .bool false, .bool false], .int .i64 1] w fun e w' => e = .returned (.int .i64 25) ∧ DefR w' (markCf defC 1) n ∧ But (fun k => (n + 1 ≤ k ∧ k ≤ n + 3) ∨ w.heap.size ≤ k) w w' := by
  refine (markConfig_any defC (defV n) (defK n) 1 w (Nat.le_refl _) (by rw [def_cnt]; decide) ⟨by decide, by decide, by decide⟩ h.rows (def_apart h.le)).mono ?_
  rintro e w' ⟨rfl, h1, h2⟩
  exact ⟨by rw [def_cnt]; rfl, ⟨h1, Nat.lt_of_lt_of_le h.le h2.size⟩, h2.mono fun k hk => hk.imp (fun h => defK_all h) id⟩
theorem heldDef_any (n : Nat) (w : World) (h : DefR w (markCf defC 1) n) :
    Calls Try.prog 27 #[.agg #[.bool true, .bool true, .slice (some ⟨n + 2, 0, none⟩) 10 10, .slice none 0 0, .slice none 0 0, .slice (some ⟨n + 3, 0, none⟩) 3 3, .slice none 0 0, .bool false, .bool false], .int .i64 1] w fun e w' => e = .returned (.int .i64 25) ∧ Below w.heap.size w w' := by
  refine (heldConfig_any defC (defV n) (defK n) 1 w (Nat.le_refl _) (by rw [def_cnt]; decide) ⟨by decide, by decide, by decide⟩ h.rows (def_apart h.le)).mono ?_
  rintro e w' ⟨rfl, h1⟩
  exact ⟨by rw [def_cnt]; rfl, h1⟩
theorem eqDef_any (n : Nat) (V : CfV) (w : World) (h : DefR w defC n) (hV : CfIn w defC V) :
    Calls Try.prog 21 #[.agg #[.bool true, .bool true, .slice (some ⟨n + 2, 0, none⟩) 10 10, .slice none 0 0, .slice none 0 0, .slice (some ⟨n + 3, 0, none⟩) 3 3, .slice none 0 0, .bool false, .bool false], .agg #[.bool defC.ha, .bool defC.hb, .slice V.a1 defC.al.length V.c1, .slice V.a2 defC.rm.length V.c2, .slice V.a3 defC.uw.length V.c3, .slice V.a4 defC.at_.length V.c4, .slice V.a5 defC.dp.length V.c5, .bool defC.cm, .bool defC.da]] w fun e w' => e = .returned (.bool true) ∧ Below w.heap.size w w' :=
  eqConfig_same defC (defV n) V w h.in_ hV

set_option maxHeartbeats 2000000 in
set_option maxRecDepth 100000 in
theorem lawDefault_walk (w : World) : Calls Try.prog 5 #[] w fun e w' => e = .returned (.bool true) ∧ Below w.heap.size w w' := by
  go_enter Try.func5, Try.ntmps5
  go_wp2_with fail
  refine (specDefault_any _).mono ?_
  rintro e w1 ⟨V1, rfl, hX, hB⟩
  have J1 := Lib.hid (CfBox.new hX 34)
  have A0 := Lib.hid (hB.trans ((Below.refl w1.heap.size w1).alloc (Nat.le_refl _) (.cells #[.bool defC.ha, .bool defC.hb, .slice V1.a1 defC.al.length V1.c1, .slice V1.a2 defC.rm.length V1.c2, .slice V1.a3 defC.uw.length V1.c3, .slice V1.a4 defC.at_.length V1.c4, .slice V1.a5 defC.dp.length V1.c5, .bool defC.cm, .bool defC.da] 34) |>.mono hB.size))
  clear hB hX
  generalize hW1 : w1.alloc (.cells #[.bool defC.ha, .bool defC.hb, .slice V1.a1 defC.al.length V1.c1, .slice V1.a2 defC.rm.length V1.c2, .slice V1.a3 defC.uw.length V1.c3, .slice V1.a4 defC.at_.length V1.c4, .slice V1.a5 defC.dp.length V1.c5, .bool defC.cm, .bool defC.da] 34) = W1 at J1 A0
  go_wp2_with fail
  clear hW1
  refine (implDefault_any _).mono ?_
  rintro e w2 ⟨n, hn1, hn2, rfl, hR, hB⟩
  have G2 := Lib.hid (Lay.new w2 #[.bool true, .bool true, .slice (some ⟨n + 2, 0, none⟩) 10 10, .slice none 0 0, .slice none 0 0, .slice (some ⟨n + 3, 0, none⟩) 3 3, .slice none 0 0, .bool false, .bool false] 34)
  have A2 := Lib.hid (hB.trans ((Below.refl w2.heap.size w2).alloc (Nat.le_refl _) (.cells #[.bool true, .bool true, .slice (some ⟨n + 2, 0, none⟩) 10 10, .slice none 0 0, .slice none 0 0, .slice (some ⟨n + 3, 0, none⟩) 3 3, .slice none 0 0, .bool false, .bool false] 34) |>.mono hB.size))
  have R2 := Lib.hid (DefR.next (DefR.mk hR hn2) ((Below.refl w2.heap.size w2).alloc (Nat.le_refl _) (.cells #[.bool true, .bool true, .slice (some ⟨n + 2, 0, none⟩) 10 10, .slice none 0 0, .slice none 0 0, .slice (some ⟨n + 3, 0, none⟩) 3 3, .slice none 0 0, .bool false, .bool false] 34)))
  have Z2 := Lib.hid (show w2.heap.size < (w2.alloc (.cells #[.bool true, .bool true, .slice (some ⟨n + 2, 0, none⟩) 10 10, .slice none 0 0, .slice none 0 0, .slice (some ⟨n + 3, 0, none⟩) 3 3, .slice none 0 0, .bool false, .bool false] 34)).heap.size by simp)
  clear hB hR
  have J2 := Lib.hid (J1.out.next A2.out)
  obtain ⟨p0, p1, p2, p3, p4, p5, p6, p7, p8⟩ := lay9 J2.out.1
  obtain ⟨q0, q1, q2, q3, q4, q5, q6, q7, q8⟩ := lay9 G2.out
  go_wp2_with fail
  refine (eqDef_any n V1 _ R2.out J2.out.2.1).mono ?_
  rintro e w3 ⟨rfl, hB⟩
  have A3 := Lib.hid (A2.out.trans (hB.mono A2.out.size))
  have R3 := Lib.hid (R2.out.next hB)
  have G3 := Lib.hid (G2.out.below hB Z2.out)
  have Z3 := Lib.hid (Nat.lt_of_lt_of_le Z2.out hB.size)
  clear hB p0 p1 p2 p3 p4 p5 p6 p7 p8 q0 q1 q2 q3 q4 q5 q6 q7 q8 J2
  obtain ⟨q0, q1, q2, q3, q4, q5, q6, q7, q8⟩ := lay9 G3.out
  go_wp2_with fail
  refine (markDef_any n _ R3.out).mono ?_
  rintro e w4 ⟨rfl, hR, hO⟩
  have A4 := Lib.hid (A3.out.trans (hO.below (B := W1.heap.size) (fun k hk => by have := A3.out.size; omega) A3.out.size))
  have G4 := Lib.hid (G3.out.blk (hO.block w2.heap.size Z3.out (fun hk => by have := Z3.out; omega)))
  have Z4 := Lib.hid (Nat.lt_of_lt_of_le Z3.out hO.size)
  have R4 := Lib.hid hR
  clear hR hO q0 q1 q2 q3 q4 q5 q6 q7 q8
  obtain ⟨q0, q1, q2, q3, q4, q5, q6, q7, q8⟩ := lay9 G4.out
  go_wp2_with fail
  refine (heldDef_any n _ R4.out).mono ?_
  rintro e w5 ⟨rfl, hB⟩
  have A5 := Lib.hid (A4.out.trans (hB.mono A4.out.size))
  have R5 := Lib.hid (R4.out.next hB)
  have G5 := Lib.hid (G4.out.below hB Z4.out)
  have Z5 := Lib.hid (Nat.lt_of_lt_of_le Z4.out hB.size)
  clear hB q0 q1 q2 q3 q4 q5 q6 q7 q8
  go_wp2_with fail
  refine (implDefault_any _).mono ?_
  rintro e w6 ⟨m, hm1, hm2, rfl, hR, hB⟩
  have H6 := Lib.hid (Lay.new w6 #[.bool true, .bool true, .slice (some ⟨m + 2, 0, none⟩) 10 10, .slice none 0 0, .slice none 0 0, .slice (some ⟨m + 3, 0, none⟩) 3 3, .slice none 0 0, .bool false, .bool false] 34)
  have A6 := Lib.hid ((A5.out.trans (hB.mono A5.out.size)).trans ((Below.refl w6.heap.size w6).alloc (Nat.le_refl _) (.cells #[.bool true, .bool true, .slice (some ⟨m + 2, 0, none⟩) 10 10, .slice none 0 0, .slice none 0 0, .slice (some ⟨m + 3, 0, none⟩) 3 3, .slice none 0 0, .bool false, .bool false] 34) |>.mono (Nat.le_trans A5.out.size hB.size)))
  have M6 := Lib.hid (DefR.next (DefR.mk hR hm2) ((Below.refl w6.heap.size w6).alloc (Nat.le_refl _) (.cells #[.bool true, .bool true, .slice (some ⟨m + 2, 0, none⟩) 10 10, .slice none 0 0, .slice none 0 0, .slice (some ⟨m + 3, 0, none⟩) 3 3, .slice none 0 0, .bool false, .bool false] 34)))
  have hB6 := hB.trans ((Below.refl w6.heap.size w6).alloc (Nat.le_refl _) (.cells #[.bool true, .bool true, .slice (some ⟨m + 2, 0, none⟩) 10 10, .slice none 0 0, .slice none 0 0, .slice (some ⟨m + 3, 0, none⟩) 3 3, .slice none 0 0, .bool false, .bool false] 34) |>.mono hB.size)
  have R6 := Lib.hid (R5.out.next hB6)
  have G6 := Lib.hid (G5.out.below hB6 Z5.out)
  have Z6 := Lib.hid (Nat.lt_of_lt_of_le Z5.out hB6.size)
  clear hB hR hB6
  have J6 := Lib.hid (J1.out.next A6.out)
  obtain ⟨p0, p1, p2, p3, p4, p5, p6, p7, p8⟩ := lay9 J6.out.1
  obtain ⟨q0, q1, q2, q3, q4, q5, q6, q7, q8⟩ := lay9 H6.out
  go_wp2_with fail
  refine (eqDef_any m V1 _ M6.out J6.out.2.1).mono ?_
  rintro e w7 ⟨rfl, hB⟩
  have A7 := Lib.hid (A6.out.trans (hB.mono A6.out.size))
  have R7 := Lib.hid (R6.out.next hB)
  have G7 := Lib.hid (G6.out.below hB Z6.out)
  clear hB p0 p1 p2 p3 p4 p5 p6 p7 p8 q0 q1 q2 q3 q4 q5 q6 q7 q8 J6
  obtain ⟨q0, q1, q2, q3, q4, q5, q6, q7, q8⟩ := lay9 G7.out
  go_wp2_with fail
  refine (heldDef_any n _ R7.out).mono ?_
  rintro e w8 ⟨rfl, hB⟩
  have A8 := Lib.hid (A7.out.trans (hB.mono A7.out.size))
  clear hB q0 q1 q2 q3 q4 q5 q6 q7 q8
  go_wp2
  go_ret
  exact ⟨rfl, A0.out.trans (A8.out.mono A0.out.size)⟩
end Go.Proofs.Ytbcbmgeoaejlmaa
