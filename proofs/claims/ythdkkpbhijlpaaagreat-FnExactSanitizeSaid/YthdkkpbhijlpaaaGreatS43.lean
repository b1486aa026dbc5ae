import Derived.Test.YthdkkpbhijlpaaaGreatS39
import Derived.Test.YthdkkpbhijlpaaaGreatS42
set_option linter.unusedVariables false
namespace Go.Proofs.YthdkkpbhijlpaaaGreat
open Go.ChangeShapes Go.WideShapes Go.ChangeAt Go.RowKit Go.Deep

theorem Fo.san_cnt (X : Cf) : ∀ F : Fo, (F.san X).cnt ≤ F.cnt
  | .nil => Nat.le_refl _
  | .cons k sp n t al kids r => by
    have h1 := Fo.san_cnt X kids
    have h2 := Fo.san_cnt X r
    have h3 : (keepAl X sp n al).length ≤ al.length := List.length_filter_le _ _
    simp only [Fo.san, Fo.cnt_app, Fo.cnt]
    split
    · simp only [Fo.one, Fo.cnt, List.length_nil]; omega
    · split
      · split
        · simp only [Fo.one, Fo.cnt, List.length_nil]; omega
        · simp only [Fo.cnt]; omega
      · split
        · omega
        · split
          · simp only [Fo.one, Fo.cnt]; omega
          · simp only [Fo.cnt]; omega
theorem sanO_cnt (X : Cf) (F : Fo) : (sanO X F).cnt ≤ F.cnt := by
  unfold sanO
  split
  · exact Fo.san_cnt X F
  · exact Nat.zero_le _
theorem sanO_nodes (X : Cf) (F : Fo) : (sanO X F).nodes ≤ F.nodes := by
  unfold sanO
  split
  · exact Fo.san_nodes X F
  · exact Nat.zero_le _
theorem ruOff_bound (l : List Ru) : ∀ k, k ≤ l.length → ruOff l k ≤ 2 * k + rusSize (l.take k)
  | 0, _ => by simp [ruOff]
  | k + 1, h => by
    have hk : k < l.length := by omega
    have := ruOff_bound l k (by omega)
    rw [ruOff_succ hk, rusSize_take hk]
    unfold ruSize
    omega
theorem ruCnt_bound (l : List Ru) : ruCnt l ≤ 2 * l.length + rusSize l := by
  have := ruOff_bound l l.length (Nat.le_refl _)
  rwa [List.take_length] at this
theorem cfCnt_bound (X : Cf) : cfCnt X ≤ 2 * cfSize X := by
  have h1 := ruCnt_bound X.al
  have h2 := ruCnt_bound X.rm
  have h3 := ruCnt_bound X.uw
  unfold cfCnt cfSize
  omega
theorem KR.but' {w w' : World} {A : Option Addr} {G : Fo} {bs : List Nat} {lo hi : Nat} {C : Nat → Prop} (h : KR w A G bs lo hi) (hB : But C w w') (hc : ∀ k, C k → ¬ (lo ≤ k ∧ k < hi)) : KR w' A G bs lo hi :=
  ⟨h.row.same fun k hk => hB.block k (by have := (h.at' k hk).2; have := h.le; omega) (fun e => hc k e (h.at' k hk)), h.nd, h.at', Nat.le_trans h.le hB.size, h.len⟩
theorem Lay.only' {w w' : World} {g : Nat} {cs : Array Value} {l : List Nat} (h : Lay w g cs) (hB : OnlyAt w w' l) (hg : g < w.heap.size) (hn : g ∉ l) : Lay w' g cs :=
  ⟨fun j => (hB.cell (p := ⟨g, j, none⟩) hg hn).trans (h.1 j), fun j => (hB.frozen (p := ⟨g, j, none⟩) hg hn).trans (h.2 j)⟩
theorem kall_lt {K : CfB} {n : Nat} (h : K.Apart n) : ∀ k ∈ K.all, k < n := fun k hk => by
  simp only [CfB.all, List.mem_append] at hk
  rcases hk with (((hk | hk) | hk) | hk) | hk
  · exact h.lt1 k hk
  · exact h.lt2 k hk
  · exact h.lt3 k hk
  · exact h.lt4 k hk
  · exact h.lt5 k hk
theorem apart_le {K : CfB} {n m : Nat} (h : K.Apart n) (hn : n ≤ m) : K.Apart m :=
  ⟨fun k hk => Nat.lt_of_lt_of_le (h.lt1 k hk) hn, fun k hk => Nat.lt_of_lt_of_le (h.lt2 k hk) hn, fun k hk => Nat.lt_of_lt_of_le (h.lt3 k hk) hn, fun k hk => Nat.lt_of_lt_of_le (h.lt4 k hk) hn, fun k hk => Nat.lt_of_lt_of_le (h.lt5 k hk) hn, h.d12, h.d13, h.d14, h.d15, h.d23, h.d24, h.d25, h.d34, h.d35, h.d45⟩
theorem specSanW (X : Cf) (V : CfV) (F : Fo) (w : World) (A : Option Addr) (c b o lo hi : Nat) (h : CfIn w X V) (_ : MaxAt w) (hd : F.nodes ≤ 1048576) (hh : hi ≤ w.heap.size) (hA : RowAt lo hi A F.len b o) (hF : FoAt w lo hi b o F) :
    Calls Tryz.prog 10 #[.slice A F.len c, .agg #[.bool X.ha, .bool X.hb, .slice V.a1 X.al.length V.c1, .slice V.a2 X.rm.length V.c2, .slice V.a3 X.uw.length V.c3, .slice V.a4 X.at_.length V.c4, .slice V.a5 X.dp.length V.c5, .bool X.cm, .bool X.da]] w fun e w' => ∃ v bl, e = .returned (.tuple #[v, .int .i64 (sanC X F)]) ∧ GRow w' w.heap.size v (sanO X F) bl ∧ Below w.heap.size w w' :=
  specSanitize_any X V F w A c b o lo hi h hd hh hA hF
theorem implSanW (X : Cf) (V : CfV) (F : Fo) (w : World) (A : Option Addr) (c b o lo hi : Nat) (h : CfIn w X V) (hm : MaxAt w) (hd : F.nodes ≤ 1048576) (hh : hi ≤ w.heap.size) (hA : RowAt lo hi A F.len b o) (hF : FoAt w lo hi b o F) :
    Calls Tryz.prog 13 #[.slice A F.len c, .agg #[.bool X.ha, .bool X.hb, .slice V.a1 X.al.length V.c1, .slice V.a2 X.rm.length V.c2, .slice V.a3 X.uw.length V.c3, .slice V.a4 X.at_.length V.c4, .slice V.a5 X.dp.length V.c5, .bool X.cm, .bool X.da]] w fun e w' => ∃ v bl, e = .returned (.tuple #[v, .int .i64 (sanC X F)]) ∧ GRow w' w.heap.size v (sanO X F) bl ∧ Below w.heap.size w w' :=
  implSanitize_any X V F w A c b o lo hi h hm hd hh hA hF
set_option maxHeartbeats 8000000 in
set_option maxRecDepth 100000 in
theorem lawSanitize_walk (F : Fo) (X : Cf) (V : CfV) (w : World) (A : Option Addr) (c b o hi : Nat) (h : CameIn w A b o hi F) (hX : CfIn w X V) (hmx : MaxAt w) :
    Calls Tryz.prog 3 #[.slice A F.len c, .agg #[.bool X.ha, .bool X.hb, .slice V.a1 X.al.length V.c1, .slice V.a2 X.rm.length V.c2, .slice V.a3 X.uw.length V.c3, .slice V.a4 X.at_.length V.c4, .slice V.a5 X.dp.length V.c5, .bool X.cm, .bool X.da]] w fun e w' => e = .returned (.bool true) ∧ Below w.heap.size w w' := by
  have hml := h.1.1
  have H0 := Lib.hid (CfBox.new hX 26)
  have H := Lib.hid h
  have HMX := Lib.hid hmx
  have HL := Lib.hid hml
  clear h hX hmx hml
  by_cases hs : F.len + F.size ≤ 1048576
  · have HE := Lib.hid (left_le hs)
    have hnn : 0 ≤ ((1048576 : Nat) : Int) - ((F.len + F.size : Nat) : Int) := by omega
    have HRE : Hid (((1048576 : Nat) : Int) - ((F.len + F.size : Nat) : Int) = ((1048576 - (F.len + F.size) : Nat) : Int)) := Lib.hid (by omega)
    have HS := Lib.hid hs
    have HN := Lib.hid (Nat.le_trans (Fo.nodes_le F) hs)
    have hol : (sanO X F).len ≤ maxLen := by have h1 := Fo.len_le_nodes (sanO X F); have h2 := sanO_nodes X F; have h3 := HN.out; unfold maxLen; omega
    have hcc : 1 + (sanO X F).cnt ≤ 1073741824 := by have h1 := sanO_cnt X F; have h2 := Fo.cnt_le F; omega
    by_cases hs2 : cfSize X ≤ 1048576 - (F.len + F.size)
    · have HE2 := Lib.hid (left_le hs2)
      have hnn2 : 0 ≤ ((1048576 - (F.len + F.size) : Nat) : Int) - ((cfSize X : Nat) : Int) := by omega
      have HSZ : Hid (cfSize X ≤ 1048576) := Lib.hid (by omega)
      have HCB : Hid (1 + F.cnt + cfCnt X ≤ 1073741824) := Lib.hid (by have h1 := cfCnt_bound X; have h2 := Fo.cnt_le F; omega)
      have HLS : Hid (X.al.length ≤ 1048576 ∧ X.rm.length ≤ 1048576 ∧ X.uw.length ≤ 1048576) := Lib.hid (by have h1 := HSZ.out; unfold cfSize at h1; omega)
      have hcb := HCB.out
      clear hs hs2
      go_enter Tryz.func3, Tryz.ntmps3
      go_wp2_with fail
      refine (szNodeS_any F 1048576 _ A c b o hi (by omega) (H.out.next H0.out.2.2.1).1 (H.out.next H0.out.2.2.1).2.1 (H.out.next H0.out.2.2.1).2.2).mono ?_
      rintro e w1 ⟨rfl, hB⟩
      rw [HE.out, HRE.out]
      have B1 := Lib.hid hB
      clear hB
      have J1 := Lib.hid (H0.out.next B1.out)
      obtain ⟨p0, p1, p2, p3, p4, p5, p6, p7, p8⟩ := lay9 J1.out.1
      go_wp2_with fail
      refine (szConfig_any X V (1048576 - (F.len + F.size)) _ (by omega) J1.out.2.1).mono ?_
      rintro e w2 ⟨rfl, hB⟩
      rw [HE2.out]
      have B2 := Lib.hid (B1.out.trans (hB.mono B1.out.size))
      clear hB J1 p0 p1 p2 p3 p4 p5 p6 p7 p8
      have B2 := Lib.hid B2.out.drew
      have J2 := Lib.hid (H0.out.next B2.out)
      obtain ⟨p0, p1, p2, p3, p4, p5, p6, p7, p8⟩ := lay9 J2.out.1
      go_wp2_with fail
      go_region_held3 (fun w' => w'.cell? ⟨w.heap.size, 0, none⟩ = some (.bool X.ha) ∧ w'.cell? ⟨w.heap.size, 1, none⟩ = some (.bool X.hb) ∧ w'.cell? ⟨w.heap.size, 2, none⟩ = some (.slice V.a1 X.al.length V.c1) ∧ w'.cell? ⟨w.heap.size, 3, none⟩ = some (.slice V.a2 X.rm.length V.c2) ∧ w'.cell? ⟨w.heap.size, 4, none⟩ = some (.slice V.a3 X.uw.length V.c3) ∧ w'.cell? ⟨w.heap.size, 5, none⟩ = some (.slice V.a4 X.at_.length V.c4) ∧ w'.cell? ⟨w.heap.size, 6, none⟩ = some (.slice V.a5 X.dp.length V.c5) ∧ w'.cell? ⟨w.heap.size, 7, none⟩ = some (.bool X.cm) ∧ w'.cell? ⟨w.heap.size, 8, none⟩ = some (.bool X.da)) (first | exact ⟨p0, p1, p2, p3, p4, p5, p6, p7, p8⟩ | go_keep) (first | (go_at_call 11; refine (copy_any F _ A c b o hi HS.out (H.out.next (H0.out.2.2.1.trans (B2.out.mono H0.out.2.2.1.size)))).mono ?_; rintro e w3 ⟨rfl, hB, hM⟩; have B3 := Lib.hid (B2.out.trans (hB.mono B2.out.size)); have J3 := Lib.hid (H0.out.next B3.out); have M3 := Lib.hid hM; clear hB hM p0 p1 p2 p3 p4 p5 p6 p7 p8; obtain ⟨p0, p1, p2, p3, p4, p5, p6, p7, p8⟩ := lay9 J3.out.1) | (go_at_call 12; refine (toConfig_any X V _ HSZ.out J3.out.2.1).mono ?_; rintro e w4 ⟨Vs, rfl, hB, hat⟩; have B4 := Lib.hid (B3.out.trans (hB.mono B3.out.size)); have J4 := Lib.hid (H0.out.next B4.out); have M4 := Lib.hid (M3.out.next hB); have C4 := Lib.hid hat; clear hB hat p0 p1 p2 p3 p4 p5 p6 p7 p8; obtain ⟨p0, p1, p2, p3, p4, p5, p6, p7, p8⟩ := lay9 J4.out.1) | (go_at_call 10; refine (specSanW X Vs F _ _ _ _ _ _ _ C4.out (HMX.out.below (H0.out.2.2.1.trans (B4.out.mono H0.out.2.2.1.size))) HN.out M4.out.1 (M4.out.row HL.out) M4.out.2.2).mono ?_; rintro e w5 ⟨v, bls, rfl, hG, hB⟩; obtain ⟨As, cs, bs, rfl, hk⟩ := KR.of hG hol; have W5 := Lib.hid hk; have B5 := Lib.hid (B4.out.trans (hB.mono B4.out.size)); have J5 := Lib.hid (H0.out.next B5.out); clear hB hG hk p0 p1 p2 p3 p4 p5 p6 p7 p8; obtain ⟨p0, p1, p2, p3, p4, p5, p6, p7, p8⟩ := lay9 J5.out.1))
      clear J3 M3 J4 M4 C4
      clear J2
      go_wp2_with fail
      refine (copyO_any F _ A c b o hi HS.out (H.out.next (H0.out.2.2.1.trans (B5.out.mono H0.out.2.2.1.size)))).mono ?_
      rintro e w6 ⟨bl, rfl, hB, hO⟩
      have B6 := Lib.hid (B5.out.trans (hB.mono B5.out.size))
      have W6 := Lib.hid (W5.out.next hB)
      have O6 := Lib.hid hO
      clear hB hO J5 p0 p1 p2 p3 p4 p5 p6 p7 p8
      have J6 := Lib.hid (H0.out.next B6.out)
      obtain ⟨p0, p1, p2, p3, p4, p5, p6, p7, p8⟩ := lay9 J6.out.1
      go_wp2_with fail
      refine (toConfig_W X V _ HSZ.out J6.out.2.1).mono ?_
      rintro e w7 ⟨V2, rfl, hB, hown⟩
      obtain ⟨hci, K, hcr, hka, hkb⟩ := hown
      have B7 := Lib.hid (B6.out.trans (hB.mono B6.out.size))
      have W7 := Lib.hid (W6.out.next hB)
      have O7 := Lib.hid (O6.out.next hB)
      have S67 : Hid (w6.heap.size ≤ w7.heap.size) := Lib.hid hB.size
      have S57 : Hid (w5.heap.size ≤ w6.heap.size) := Lib.hid (Nat.le_of_lt O6.out.2.1)
      have S07 : Hid ((w.alloc (.cells #[.bool X.ha, .bool X.hb, .slice V.a1 X.al.length V.c1, .slice V.a2 X.rm.length V.c2, .slice V.a3 X.uw.length V.c3, .slice V.a4 X.at_.length V.c4, .slice V.a5 X.dp.length V.c5, .bool X.cm, .bool X.da] 26)).heap.size ≤ w7.heap.size) := Lib.hid B7.out.size
      have KA := Lib.hid hka
      have KB := Lib.hid hkb
      have hal : Below w7.heap.size w7 (w7.alloc (.cells #[.bool X.ha, .bool X.hb, .slice V2.a1 X.al.length V2.c1, .slice V2.a2 X.rm.length V2.c2, .slice V2.a3 X.uw.length V2.c3, .slice V2.a4 X.at_.length V2.c4, .slice V2.a5 X.dp.length V2.c5, .bool X.cm, .bool X.da] 35)) := (Below.refl _ _).alloc (Nat.le_refl _) _
      have X8 := Lib.hid (CfBox.new hci 35)
      have hklt : ∀ k ∈ K.all, k < w7.heap.size := kall_lt hka
      have HKL := Lib.hid hklt
      have R8 : Hid (CfRows (w7.alloc (.cells #[.bool X.ha, .bool X.hb, .slice V2.a1 X.al.length V2.c1, .slice V2.a2 X.rm.length V2.c2, .slice V2.a3 X.uw.length V2.c3, .slice V2.a4 X.at_.length V2.c4, .slice V2.a5 X.dp.length V2.c5, .bool X.cm, .bool X.da] 35)) X V2 K) := Lib.hid (hcr.same hal.size fun k hk => hal.block k (hklt k hk))
      have B8 := Lib.hid (B7.out.trans (hal.mono B7.out.size))
      have W8 := Lib.hid (W7.out.next hal)
      have O8 := Lib.hid (O7.out.next hal)
      clear hB hci hcr hka hkb hklt hal J6 W7 O7 p0 p1 p2 p3 p4 p5 p6 p7 p8
      obtain ⟨q0, q1, q2, q3, q4, q5, q6, q7, q8⟩ := lay9 X8.out.1
      go_wp2_with fail
      refine (implSanW X V2 F _ _ _ _ _ _ _ X8.out.2.1 (HMX.out.below (H0.out.2.2.1.trans (B8.out.mono H0.out.2.2.1.size))) HN.out (Nat.le_refl _) (O8.out.row HL.out) O8.out.at).mono ?_
      rintro e w9 ⟨v, blg, rfl, hG, hB⟩
      obtain ⟨Ag, cg, bg, rfl, hg⟩ := KR.of hG hol
      have G9 := Lib.hid hg
      have GLO : Hid (w7.heap.size < (w7.alloc (.cells #[.bool X.ha, .bool X.hb, .slice V2.a1 X.al.length V2.c1, .slice V2.a2 X.rm.length V2.c2, .slice V2.a3 X.uw.length V2.c3, .slice V2.a4 X.at_.length V2.c4, .slice V2.a5 X.dp.length V2.c5, .bool X.cm, .bool X.da] 35)).heap.size) := Lib.hid (by simp)
      have B9 := Lib.hid (B8.out.trans (hB.mono B8.out.size))
      have W9 := Lib.hid (W8.out.next hB)
      have O9 := Lib.hid (O8.out.next hB)
      have X9 := Lib.hid (X8.out.next hB)
      have R9 := Lib.hid (R8.out.same hB.size fun k hk => hB.block k (Nat.lt_trans (HKL.out k hk) GLO.out))
      clear hB hG hg q0 q1 q2 q3 q4 q5 q6 q7 q8 W8 O8 X8 R8
      have SZ9 : Hid (w7.heap.size ≤ w9.heap.size) := Lib.hid (by have := G9.out.le; have := X9.out.2.2.1.size; omega)
      go_wp2_with fail
      refine (eqKR G9.out W9.out).mono ?_
      rintro e w10 ⟨rfl, hB⟩
      have B10 := Lib.hid (B9.out.trans (hB.mono B9.out.size))
      have W10 := Lib.hid (W9.out.next hB)
      have O10 := Lib.hid (O9.out.next hB)
      have X10 := Lib.hid (X9.out.next hB)
      have G10 := Lib.hid (G9.out.next hB)
      have R10 := Lib.hid (R9.out.same hB.size fun k hk => hB.block k (Nat.lt_of_lt_of_le (HKL.out k hk) SZ9.out))
      have SZ10 := Lib.hid (Nat.le_trans SZ9.out hB.size)
      clear hB W9 O9 X9 R9
      go_wp2_with fail
      refine (copy_any F _ A c b o hi HS.out (H.out.next (H0.out.2.2.1.trans (B10.out.mono H0.out.2.2.1.size)))).mono ?_
      rintro e w11 ⟨rfl, hB, hM⟩
      have B11 := Lib.hid (B10.out.trans (hB.mono B10.out.size))
      have W11 := Lib.hid (W10.out.next hB)
      have O11 := Lib.hid (O10.out.next hB)
      have X11 := Lib.hid (X10.out.next hB)
      have G11 := Lib.hid (G10.out.next hB)
      have R11 := Lib.hid (R10.out.same hB.size fun k hk => hB.block k (Nat.lt_of_lt_of_le (HKL.out k hk) SZ10.out))
      have SZ11 := Lib.hid (Nat.le_trans SZ10.out hB.size)
      have M11 := Lib.hid hM
      clear hB hM W10 O10 X10 R10 G10
      go_wp2_with fail
      refine (alike_any F _ _ _ _ _ _ _ HL.out O11.out.made M11.out).mono ?_
      rintro e w12 ⟨rfl, hB⟩
      have B12 := Lib.hid (B11.out.trans (hB.mono B11.out.size))
      have W12 := Lib.hid (W11.out.next hB)
      have O12 := Lib.hid (O11.out.next hB)
      have X12 := Lib.hid (X11.out.next hB)
      have G12 := Lib.hid (G11.out.next hB)
      have R12 := Lib.hid (R11.out.same hB.size fun k hk => hB.block k (Nat.lt_of_lt_of_le (HKL.out k hk) SZ11.out))
      have SZ12 := Lib.hid (Nat.le_trans SZ11.out hB.size)
      clear hB W11 O11 X11 R11 G11 M11
      go_wp2_with fail
      have hB := (Below.refl w12.heap.size w12).drew
      have BD := Lib.hid (B12.out.trans (hB.mono B12.out.size))
      have JD := Lib.hid (H0.out.next BD.out)
      have WD := Lib.hid (W12.out.next hB)
      have OD := Lib.hid (O12.out.next hB)
      have XD := Lib.hid (X12.out.next hB)
      have GD := Lib.hid (G12.out.next hB)
      have RD := Lib.hid (R12.out.same hB.size fun k hk => hB.block k (Nat.lt_of_lt_of_le (HKL.out k hk) SZ12.out))
      have SZD := Lib.hid (Nat.le_trans SZ12.out hB.size)
      clear hB W12 O12 X12 G12 R12
      have u0 : (fun w' => (w'.cell? ⟨w7.heap.size, 0, none⟩ = some (.bool X.ha) ∧ w'.cell? ⟨w7.heap.size, 1, none⟩ = some (.bool X.hb) ∧ w'.cell? ⟨w7.heap.size, 2, none⟩ = some (.slice V2.a1 X.al.length V2.c1) ∧ w'.cell? ⟨w7.heap.size, 3, none⟩ = some (.slice V2.a2 X.rm.length V2.c2) ∧ w'.cell? ⟨w7.heap.size, 4, none⟩ = some (.slice V2.a3 X.uw.length V2.c3) ∧ w'.cell? ⟨w7.heap.size, 5, none⟩ = some (.slice V2.a4 X.at_.length V2.c4) ∧ w'.cell? ⟨w7.heap.size, 6, none⟩ = some (.slice V2.a5 X.dp.length V2.c5) ∧ w'.cell? ⟨w7.heap.size, 7, none⟩ = some (.bool X.cm) ∧ w'.cell? ⟨w7.heap.size, 8, none⟩ = some (.bool X.da)) ∧ w'.cell? ⟨w.heap.size, 0, none⟩ = some (.bool X.ha) ∧ w'.cell? ⟨w.heap.size, 1, none⟩ = some (.bool X.hb) ∧ w'.cell? ⟨w.heap.size, 2, none⟩ = some (.slice V.a1 X.al.length V.c1) ∧ w'.cell? ⟨w.heap.size, 3, none⟩ = some (.slice V.a2 X.rm.length V.c2) ∧ w'.cell? ⟨w.heap.size, 4, none⟩ = some (.slice V.a3 X.uw.length V.c3) ∧ w'.cell? ⟨w.heap.size, 5, none⟩ = some (.slice V.a4 X.at_.length V.c4) ∧ w'.cell? ⟨w.heap.size, 6, none⟩ = some (.slice V.a5 X.dp.length V.c5) ∧ w'.cell? ⟨w.heap.size, 7, none⟩ = some (.bool X.cm) ∧ w'.cell? ⟨w.heap.size, 8, none⟩ = some (.bool X.da)) w12.drew := ⟨lay9 XD.out.1, lay9 JD.out.1⟩
      go_region_held3 (fun w' => (w'.cell? ⟨w7.heap.size, 0, none⟩ = some (.bool X.ha) ∧ w'.cell? ⟨w7.heap.size, 1, none⟩ = some (.bool X.hb) ∧ w'.cell? ⟨w7.heap.size, 2, none⟩ = some (.slice V2.a1 X.al.length V2.c1) ∧ w'.cell? ⟨w7.heap.size, 3, none⟩ = some (.slice V2.a2 X.rm.length V2.c2) ∧ w'.cell? ⟨w7.heap.size, 4, none⟩ = some (.slice V2.a3 X.uw.length V2.c3) ∧ w'.cell? ⟨w7.heap.size, 5, none⟩ = some (.slice V2.a4 X.at_.length V2.c4) ∧ w'.cell? ⟨w7.heap.size, 6, none⟩ = some (.slice V2.a5 X.dp.length V2.c5) ∧ w'.cell? ⟨w7.heap.size, 7, none⟩ = some (.bool X.cm) ∧ w'.cell? ⟨w7.heap.size, 8, none⟩ = some (.bool X.da)) ∧ w'.cell? ⟨w.heap.size, 0, none⟩ = some (.bool X.ha) ∧ w'.cell? ⟨w.heap.size, 1, none⟩ = some (.bool X.hb) ∧ w'.cell? ⟨w.heap.size, 2, none⟩ = some (.slice V.a1 X.al.length V.c1) ∧ w'.cell? ⟨w.heap.size, 3, none⟩ = some (.slice V.a2 X.rm.length V.c2) ∧ w'.cell? ⟨w.heap.size, 4, none⟩ = some (.slice V.a3 X.uw.length V.c3) ∧ w'.cell? ⟨w.heap.size, 5, none⟩ = some (.slice V.a4 X.at_.length V.c4) ∧ w'.cell? ⟨w.heap.size, 6, none⟩ = some (.slice V.a5 X.dp.length V.c5) ∧ w'.cell? ⟨w.heap.size, 7, none⟩ = some (.bool X.cm) ∧ w'.cell? ⟨w.heap.size, 8, none⟩ = some (.bool X.da)) (first | exact u1 | exact u2 | exact u0 | go_keep) (first | (go_at_call 12; refine (toConfig_any X V _ HSZ.out JD.out.2.1).mono ?_; rintro e wa ⟨V3, rfl, hB, hat⟩; have Ba := Lib.hid (BD.out.trans (hB.mono BD.out.size)); have Ja := Lib.hid (H0.out.next Ba.out); have Wa := Lib.hid (WD.out.next hB); have Oa := Lib.hid (OD.out.next hB); have Xa := Lib.hid (XD.out.next hB); have Ga := Lib.hid (GD.out.next hB); have Ra := Lib.hid (RD.out.same hB.size fun k hk => hB.block k (Nat.lt_of_lt_of_le (HKL.out k hk) SZD.out)); have SZa := Lib.hid (Nat.le_trans SZD.out hB.size); have Pa := Lib.hid hat; clear hB hat; have u1 : (fun w' => (w'.cell? ⟨w7.heap.size, 0, none⟩ = some (.bool X.ha) ∧ w'.cell? ⟨w7.heap.size, 1, none⟩ = some (.bool X.hb) ∧ w'.cell? ⟨w7.heap.size, 2, none⟩ = some (.slice V2.a1 X.al.length V2.c1) ∧ w'.cell? ⟨w7.heap.size, 3, none⟩ = some (.slice V2.a2 X.rm.length V2.c2) ∧ w'.cell? ⟨w7.heap.size, 4, none⟩ = some (.slice V2.a3 X.uw.length V2.c3) ∧ w'.cell? ⟨w7.heap.size, 5, none⟩ = some (.slice V2.a4 X.at_.length V2.c4) ∧ w'.cell? ⟨w7.heap.size, 6, none⟩ = some (.slice V2.a5 X.dp.length V2.c5) ∧ w'.cell? ⟨w7.heap.size, 7, none⟩ = some (.bool X.cm) ∧ w'.cell? ⟨w7.heap.size, 8, none⟩ = some (.bool X.da)) ∧ w'.cell? ⟨w.heap.size, 0, none⟩ = some (.bool X.ha) ∧ w'.cell? ⟨w.heap.size, 1, none⟩ = some (.bool X.hb) ∧ w'.cell? ⟨w.heap.size, 2, none⟩ = some (.slice V.a1 X.al.length V.c1) ∧ w'.cell? ⟨w.heap.size, 3, none⟩ = some (.slice V.a2 X.rm.length V.c2) ∧ w'.cell? ⟨w.heap.size, 4, none⟩ = some (.slice V.a3 X.uw.length V.c3) ∧ w'.cell? ⟨w.heap.size, 5, none⟩ = some (.slice V.a4 X.at_.length V.c4) ∧ w'.cell? ⟨w.heap.size, 6, none⟩ = some (.slice V.a5 X.dp.length V.c5) ∧ w'.cell? ⟨w.heap.size, 7, none⟩ = some (.bool X.cm) ∧ w'.cell? ⟨w.heap.size, 8, none⟩ = some (.bool X.da)) wa := ⟨lay9 Xa.out.1, lay9 Ja.out.1⟩) | (go_at_call 15; refine (eqConfig_same X V2 V3 _ Xa.out.2.1 Pa.out).mono ?_; rintro e w14 ⟨rfl, hB⟩; have B14 := Lib.hid (Ba.out.trans (hB.mono Ba.out.size)); have J14 := Lib.hid (H0.out.next B14.out); have W14 := Lib.hid (Wa.out.next hB); have O14 := Lib.hid (Oa.out.next hB); have X14 := Lib.hid (Xa.out.next hB); have G14 := Lib.hid (Ga.out.next hB); have R14 := Lib.hid (Ra.out.same hB.size fun k hk => hB.block k (Nat.lt_of_lt_of_le (HKL.out k hk) SZa.out)); have SZ14 := Lib.hid (Nat.le_trans SZa.out hB.size); clear hB; have u2 : (fun w' => (w'.cell? ⟨w7.heap.size, 0, none⟩ = some (.bool X.ha) ∧ w'.cell? ⟨w7.heap.size, 1, none⟩ = some (.bool X.hb) ∧ w'.cell? ⟨w7.heap.size, 2, none⟩ = some (.slice V2.a1 X.al.length V2.c1) ∧ w'.cell? ⟨w7.heap.size, 3, none⟩ = some (.slice V2.a2 X.rm.length V2.c2) ∧ w'.cell? ⟨w7.heap.size, 4, none⟩ = some (.slice V2.a3 X.uw.length V2.c3) ∧ w'.cell? ⟨w7.heap.size, 5, none⟩ = some (.slice V2.a4 X.at_.length V2.c4) ∧ w'.cell? ⟨w7.heap.size, 6, none⟩ = some (.slice V2.a5 X.dp.length V2.c5) ∧ w'.cell? ⟨w7.heap.size, 7, none⟩ = some (.bool X.cm) ∧ w'.cell? ⟨w7.heap.size, 8, none⟩ = some (.bool X.da)) ∧ w'.cell? ⟨w.heap.size, 0, none⟩ = some (.bool X.ha) ∧ w'.cell? ⟨w.heap.size, 1, none⟩ = some (.bool X.hb) ∧ w'.cell? ⟨w.heap.size, 2, none⟩ = some (.slice V.a1 X.al.length V.c1) ∧ w'.cell? ⟨w.heap.size, 3, none⟩ = some (.slice V.a2 X.rm.length V.c2) ∧ w'.cell? ⟨w.heap.size, 4, none⟩ = some (.slice V.a3 X.uw.length V.c3) ∧ w'.cell? ⟨w.heap.size, 5, none⟩ = some (.slice V.a4 X.at_.length V.c4) ∧ w'.cell? ⟨w.heap.size, 6, none⟩ = some (.slice V.a5 X.dp.length V.c5) ∧ w'.cell? ⟨w.heap.size, 7, none⟩ = some (.bool X.cm) ∧ w'.cell? ⟨w.heap.size, 8, none⟩ = some (.bool X.da)) w14 := ⟨lay9 X14.out.1, lay9 J14.out.1⟩))
      clear u0 u1 u2 JD WD OD XD GD RD SZD Ba Ja Wa Oa Xa Ga Ra SZa Pa J14
      go_wp2_with fail
      refine (markO_any F _ _ _ bl HS.out O14.out).mono ?_
      rintro e w15 ⟨rfl, hB⟩
      have hbl : ∀ k ∈ w5.heap.size :: bl, w5.heap.size ≤ k ∧ k < w6.heap.size := fun k hk => by
        rcases List.mem_cons.1 hk with rfl | hk
        · exact ⟨Nat.le_refl _, O6.out.2.1⟩
        · exact O6.out.2.2.2.2 k hk
      have h5 := B5.out.size
      have h67 := S67.out
      have B15 := Lib.hid (B14.out.trans (hB.below (B := (w.alloc (.cells #[.bool X.ha, .bool X.hb, .slice V.a1 X.al.length V.c1, .slice V.a2 X.rm.length V.c2, .slice V.a3 X.uw.length V.c3, .slice V.a4 X.at_.length V.c4, .slice V.a5 X.dp.length V.c5, .bool X.cm, .bool X.da] 26)).heap.size) (fun k hk => by have := hbl k hk; omega) B14.out.size))
      have W15 := Lib.hid (W14.out.only hB fun k hk => by have := hbl k hk; omega)
      have G15 := Lib.hid (G14.out.only hB fun k hk => by have := hbl k hk; have := GLO.out; omega)
      have L15 := Lib.hid (Lay.only' X14.out.1 hB X14.out.2.2.2 (fun e => by have := hbl _ e; omega))
      have R15 := Lib.hid (R14.out.same hB.size fun k hk => hB.block k (Nat.lt_of_lt_of_le (HKL.out k hk) SZ14.out) (fun e => by have := hbl k e; have := KB.out k hk; omega))
      have A15 := Lib.hid (apart_le KA.out (Nat.le_trans SZ14.out hB.size))
      have SZ15 := Lib.hid (Nat.le_trans SZ14.out hB.size)
      clear hB hbl h5 h67 W14 O14 X14 G14 R14
      obtain ⟨q0, q1, q2, q3, q4, q5, q6, q7, q8⟩ := lay9 L15.out
      go_wp2_with fail
      refine (markConfig_any X V2 K (1 + F.cnt) _ (by omega) HCB.out HLS.out R15.out A15.out).mono ?_
      rintro e w16 ⟨rfl, -, hB⟩
      have h56 := S57.out
      have h5 := B5.out.size
      have h67 := S67.out
      have B16 := Lib.hid (B15.out.trans (hB.below (B := (w.alloc (.cells #[.bool X.ha, .bool X.hb, .slice V.a1 X.al.length V.c1, .slice V.a2 X.rm.length V.c2, .slice V.a3 X.uw.length V.c3, .slice V.a4 X.at_.length V.c4, .slice V.a5 X.dp.length V.c5, .bool X.cm, .bool X.da] 26)).heap.size) (fun k hk => by rcases hk with hk | hk; (have := KB.out k hk; omega); (have := B15.out.size; omega)) B15.out.size))
      have W16 := Lib.hid (W15.out.but' hB fun k hk => by rcases hk with hk | hk; (have := KB.out k hk; omega); (have := W15.out.le; omega))
      have G16 := Lib.hid (G15.out.but' hB fun k hk => by rcases hk with hk | hk; (have := HKL.out k hk; have := GLO.out; omega); (have := G15.out.le; omega))
      clear hB h5 h67 h56 W15 G15 L15 R15 A15 q0 q1 q2 q3 q4 q5 q6 q7 q8
      go_wp2_with fail
      refine (eqKR G16.out W16.out).mono ?_
      rintro e w17 ⟨rfl, hB⟩
      have B17 := Lib.hid (B16.out.trans (hB.mono B16.out.size))
      have W17 := Lib.hid (W16.out.next hB)
      have G17 := Lib.hid (G16.out.next hB)
      clear hB W16 G16
      go_wp2_with fail
      refine (markKR G17.out hcc).mono ?_
      rintro e w18 ⟨rfl, hR, hB⟩
      have B18 := Lib.hid (B17.out.trans (hB.below (B := (w.alloc (.cells #[.bool X.ha, .bool X.hb, .slice V.a1 X.al.length V.c1, .slice V.a2 X.rm.length V.c2, .slice V.a3 X.uw.length V.c3, .slice V.a4 X.at_.length V.c4, .slice V.a5 X.dp.length V.c5, .bool X.cm, .bool X.da] 26)).heap.size) (fun k hk => by have := G9.out.at' k hk; have := GLO.out; have := S07.out; omega) B17.out.size))
      have W18 := Lib.hid (W17.out.only hB fun k hk => by have := G9.out.at' k hk; have := GLO.out; have := S67.out; have := S57.out; omega)
      have G18 : Hid (KR w18 Ag (markFo (sanO X F) 1) bg (w7.alloc (.cells #[.bool X.ha, .bool X.hb, .slice V2.a1 X.al.length V2.c1, .slice V2.a2 X.rm.length V2.c2, .slice V2.a3 X.uw.length V2.c3, .slice V2.a4 X.at_.length V2.c4, .slice V2.a5 X.dp.length V2.c5, .bool X.cm, .bool X.da] 35)).heap.size w9.heap.size) := Lib.hid hR
      clear hB hR W17 G17
      go_wp2_with fail
      refine (heldKR G18.out hcc).mono ?_
      rintro e w19 ⟨rfl, hB⟩
      have B19 := Lib.hid (B18.out.trans (hB.mono B18.out.size))
      have W19 := Lib.hid (W18.out.next hB)
      have G19 := Lib.hid (G18.out.next hB)
      clear hB W18 G18
      go_wp2_with fail
      have hB := (Below.refl w19.heap.size w19).drew
      have BE := Lib.hid (B19.out.trans (hB.mono B19.out.size))
      have WE := Lib.hid (W19.out.next hB)
      have GE := Lib.hid (G19.out.next hB)
      have JE := Lib.hid (H0.out.next BE.out)
      clear hB W19 G19
      obtain ⟨p0, p1, p2, p3, p4, p5, p6, p7, p8⟩ := lay9 JE.out.1
      go_region_held3 (fun w' => w'.cell? ⟨w.heap.size, 0, none⟩ = some (.bool X.ha) ∧ w'.cell? ⟨w.heap.size, 1, none⟩ = some (.bool X.hb) ∧ w'.cell? ⟨w.heap.size, 2, none⟩ = some (.slice V.a1 X.al.length V.c1) ∧ w'.cell? ⟨w.heap.size, 3, none⟩ = some (.slice V.a2 X.rm.length V.c2) ∧ w'.cell? ⟨w.heap.size, 4, none⟩ = some (.slice V.a3 X.uw.length V.c3) ∧ w'.cell? ⟨w.heap.size, 5, none⟩ = some (.slice V.a4 X.at_.length V.c4) ∧ w'.cell? ⟨w.heap.size, 6, none⟩ = some (.slice V.a5 X.dp.length V.c5) ∧ w'.cell? ⟨w.heap.size, 7, none⟩ = some (.bool X.cm) ∧ w'.cell? ⟨w.heap.size, 8, none⟩ = some (.bool X.da)) (first | exact ⟨p0, p1, p2, p3, p4, p5, p6, p7, p8⟩ | go_keep) (first | (go_at_call 11; refine (copy_any F _ A c b o hi HS.out (H.out.next (H0.out.2.2.1.trans (BE.out.mono H0.out.2.2.1.size)))).mono ?_; rintro e w20 ⟨rfl, hB, hM⟩; have B20 := Lib.hid (BE.out.trans (hB.mono BE.out.size)); have J20 := Lib.hid (H0.out.next B20.out); have M20 := Lib.hid hM; have W20 := Lib.hid (WE.out.next hB); have G20 := Lib.hid (GE.out.next hB); clear hB hM p0 p1 p2 p3 p4 p5 p6 p7 p8; obtain ⟨p0, p1, p2, p3, p4, p5, p6, p7, p8⟩ := lay9 J20.out.1) | (go_at_call 12; refine (toConfig_any X V _ HSZ.out J20.out.2.1).mono ?_; rintro e w21 ⟨Vh, rfl, hB, hat⟩; have B21 := Lib.hid (B20.out.trans (hB.mono B20.out.size)); have J21 := Lib.hid (H0.out.next B21.out); have M21 := Lib.hid (M20.out.next hB); have C21 := Lib.hid hat; have W21 := Lib.hid (W20.out.next hB); have G21 := Lib.hid (G20.out.next hB); clear hB hat p0 p1 p2 p3 p4 p5 p6 p7 p8; obtain ⟨p0, p1, p2, p3, p4, p5, p6, p7, p8⟩ := lay9 J21.out.1) | (go_at_call 13; refine (implSanW X Vh F _ _ _ _ _ _ _ C21.out (HMX.out.below (H0.out.2.2.1.trans (B21.out.mono H0.out.2.2.1.size))) HN.out M21.out.1 (M21.out.row HL.out) M21.out.2.2).mono ?_; rintro e w22 ⟨v, blh, rfl, hG, hB⟩; obtain ⟨Ah, ch, bh, rfl, hk⟩ := KR.of hG hol; have H22 := Lib.hid hk; have B22 := Lib.hid (B21.out.trans (hB.mono B21.out.size)); have J22 := Lib.hid (H0.out.next B22.out); have W22 := Lib.hid (W21.out.next hB); have G22 := Lib.hid (G21.out.next hB); clear hB hG hk p0 p1 p2 p3 p4 p5 p6 p7 p8; obtain ⟨p0, p1, p2, p3, p4, p5, p6, p7, p8⟩ := lay9 J22.out.1))
      clear J20 M20 J21 M21 C21
      clear JE WE GE W20 G20 W21 G21
      go_wp2_with fail
      refine (eqKR H22.out W22.out).mono ?_
      rintro e w23 ⟨rfl, hB⟩
      have B23 := Lib.hid (B22.out.trans (hB.mono B22.out.size))
      have G23 := Lib.hid (G22.out.next hB)
      clear hB
      go_wp2_with fail
      refine (heldKR G23.out hcc).mono ?_
      rintro e w24 ⟨rfl, hB⟩
      have B24 := Lib.hid (B23.out.trans (hB.mono B23.out.size))
      clear hB
      go_wp2
      go_ret
      exact ⟨rfl, H0.out.2.2.1.trans (B24.out.mono H0.out.2.2.1.size)⟩
    · have HE2 := Lib.hid (left_gt hs2)
      clear hs hs2 hol hcc
      go_enter Tryz.func3, Tryz.ntmps3
      go_wp2_with fail
      refine (szNodeS_any F 1048576 _ A c b o hi (by omega) (H.out.next H0.out.2.2.1).1 (H.out.next H0.out.2.2.1).2.1 (H.out.next H0.out.2.2.1).2.2).mono ?_
      rintro e w1 ⟨rfl, hB⟩
      rw [HE.out, HRE.out]
      have B1 := Lib.hid hB
      clear hB
      have J1 := Lib.hid (H0.out.next B1.out)
      obtain ⟨p0, p1, p2, p3, p4, p5, p6, p7, p8⟩ := lay9 J1.out.1
      go_wp2_with fail
      refine (szConfig_any X V (1048576 - (F.len + F.size)) _ (by omega) J1.out.2.1).mono ?_
      rintro e w2 ⟨rfl, hB⟩
      rw [HE2.out]
      have J2 := Lib.hid (J1.out.next hB)
      clear hB
      go_wp2
      go_ret
      exact ⟨rfl, J2.out.2.2.1⟩
  · have HE := Lib.hid (left_gt hs)
    clear hs
    go_enter Tryz.func3, Tryz.ntmps3
    go_wp2_with fail
    refine (szNodeS_any F 1048576 _ A c b o hi (by omega) (H.out.next H0.out.2.2.1).1 (H.out.next H0.out.2.2.1).2.1 (H.out.next H0.out.2.2.1).2.2).mono ?_
    rintro e w1 ⟨rfl, hB⟩
    rw [HE.out]
    have J1 := Lib.hid (H0.out.next hB)
    clear hB
    go_wp2
    go_ret
    exact ⟨rfl, J1.out.2.2.1⟩
end Go.Proofs.YthdkkpbhijlpaaaGreat
