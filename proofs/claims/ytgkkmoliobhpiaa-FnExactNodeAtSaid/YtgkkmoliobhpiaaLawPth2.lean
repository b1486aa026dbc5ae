import Derived.Test.YtgkkmoliobhpiaaLawPth
namespace Go.Proofs.Ytgkkmoliobhpiaa
open Go.ChangeShapes Go.WideShapes Go.ChangeAt Go.RowKit Go.Deep

/-- numbers of one's own -/
structure IR (w : World) (g : Nat) (l : List Int) : Prop where
  at' : IsAt w g 0 l
  room : Room w g l.length
  lt : g < w.heap.size
  len : l.length ≤ maxLen
theorem IR.next {w w' : World} {g : Nat} {l : List Int} (h : IR w g l) (hB : Below w.heap.size w w') : IR w' g l :=
  ⟨h.at'.carry fun j _ => hB.cell (p := ⟨g, 0 + j, none⟩) h.lt, h.room.below hB h.lt, Nat.lt_of_lt_of_le h.lt hB.size, h.len⟩
theorem IR.only {w w' : World} {g : Nat} {l : List Int} (h : IR w g l) {cs : List Nat} (hB : OnlyAt w w' cs) (hn : g ∉ cs) : IR w' g l := by
  refine ⟨h.at'.carry fun j _ => hB.cell (p := ⟨g, 0 + j, none⟩) h.lt hn, fun j hj => ?_, Nat.lt_of_lt_of_le h.lt hB.size, h.len⟩
  obtain ⟨⟨v, hv⟩, hf⟩ := h.room j hj
  exact ⟨⟨v, (hB.cell (p := ⟨g, j, none⟩) h.lt hn).trans hv⟩, (hB.frozen (p := ⟨g, j, none⟩) h.lt hn).trans hf⟩
theorem IR.ints {w : World} {g : Nat} {l : List Int} (h : IR w g l) : IntsIn w (some ⟨g, 0, none⟩) g 0 l := ⟨⟨h.len, fun _ => ⟨rfl, Nat.zero_le _, h.lt⟩⟩, h.at'⟩
theorem toIR (l : List Int) (w : World) (A : Option Addr) (c b o : Nat) (hl : l.length ≤ 1048576) (h : IntsIn w A b o l) :
    Calls Try.prog 14 #[.slice A l.length c] w fun e w' => e = .returned (.slice (some ⟨w.heap.size, 0, none⟩) l.length l.length) ∧ Below w.heap.size w w' ∧ IR w' w.heap.size l :=
  (toIntS_any l w A c b o hl h).mono fun _ _ ⟨h1, h2, h3, h4, h5⟩ => ⟨h1, h2, h4, h5, h3, by unfold maxLen; omega⟩

set_option maxHeartbeats 4000000 in
theorem lawNodeAt_walk (F : Fo) (w : World) (A : Option Addr) (c b o hi : Nat) (h : CameIn w A b o hi F) (l : List Int) (A' : Option Addr) (c' b' o' : Nat) (hp : IntsIn w A' b' o' l) :
    Calls Try.prog 4 #[.slice A F.len c, .slice A' l.length c'] w fun e w' => e = .returned (.bool true) ∧ Below w.heap.size w w' := by
  have hml := h.1.1
  have hsz := szNodeS_any F 1048576 w A c b o hi (by omega) h.1 h.2.1 h.2.2
  have H := Lib.hid h
  have HP := Lib.hid hp
  have HL := Lib.hid hml
  clear h hml hp
  by_cases hpl : l.length ≤ 1048576
  · by_cases hs : F.len + F.size ≤ 1048576
    · have HS := Lib.hid hs
      have HE := Lib.hid (left_le hs)
      have hnn : 0 ≤ ((1048576 : Nat) : Int) - ((F.len + F.size : Nat) : Int) := by omega
      obtain ⟨cd, f, hat⟩ : ∃ cd f, atOf F l = (cd, f) := ⟨_, _, rfl⟩
      have HAT := Lib.hid hat
      have hcf : 1 + 2 * f.hal.length + f.hkids.cnt ≤ 1073741824 := by
        have h1 := atOf_cnt F l
        rw [hat] at h1
        have h2 := Fo.hkids_cnt f
        have h3 := Fo.cnt_le F
        simp only at h1
        omega
      have HCF := Lib.hid hcf
      have hcl : 1 + F.cnt + l.length ≤ 1073741824 := by have := Fo.cnt_le F; omega
      clear hs hat
      go_enter Try.func4, Try.ntmps4
      go_wp2_with (go_at_call 11; refine hsz.mono ?_; rintro e w1 ⟨rfl, hB1⟩; rw [HE.out]; have B1 := Lib.hid hB1; clear hB1 hsz)

      refine (copy_any F _ A c b o hi HS.out (H.out.next B1.out)).mono ?_
      rintro e w2 ⟨rfl, hB, hM⟩
      have B2 := Lib.hid (B1.out.trans (hB.mono B1.out.size))
      have M2 := Lib.hid hM
      clear hB hM
      go_wp2_with fail
      refine (toIR l _ A' c' b' o' hpl (HP.out.next B2.out)).mono ?_
      rintro e w3 ⟨rfl, hB, hJ⟩
      have B3 := Lib.hid (B2.out.trans (hB.mono B2.out.size))
      have M3 := Lib.hid (M2.out.next hB)
      have J3 := Lib.hid hJ
      clear hB hJ
      go_wp2_with fail
      refine (specNodeAt_any F l _ _ _ F.len l.length w1.heap.size 0 w2.heap.size 0 w1.heap.size w2.heap.size HS.out hpl ⟨Nat.le_refl _, M3.out.row HL.out⟩ M3.out.2.2 M3.out.1 J3.out.ints).mono ?_
      rintro e w4 hA
      obtain ⟨A1, K1, ca1, ck1, ba1, bk1, rfl, hB, hN⟩ := hA.get HAT.out
      have B4 := Lib.hid (B3.out.trans (hB.mono B3.out.size))
      have hle34 : w3.heap.size ≤ w4.heap.size := hB.size
      have X4 := Lib.hid (NB.new hN 37)
      have V4 := Lib.hid (B4.out.alloc B4.out.size (.cells #[.int .i64 f.hk, .int .i64 f.hsp, .string f.hn, .string f.ht, .slice A1 f.hal.length ca1, .slice K1 f.hkids.len ck1] 37))
      clear hB hN M2 M3 J3 hA
      go_wp2_with fail
      generalize hv4 : w4.alloc (.cells #[.int .i64 f.hk, .int .i64 f.hsp, .string f.hn, .string f.ht, .slice A1 f.hal.length ca1, .slice K1 f.hkids.len ck1] 37) = v4 at X4 V4 ⊢
      have hlt4 : w4.heap.size < v4.heap.size := X4.out.lt
      clear hv4
      refine (copyO_any F _ A c b o hi HS.out (H.out.next V4.out)).mono ?_
      rintro e w5 ⟨bl, rfl, hB, hO⟩
      have B5 := Lib.hid (V4.out.trans (hB.mono V4.out.size))
      have X5 := Lib.hid (X4.out.next hB)
      have O5 := Lib.hid hO
      have hle45 : v4.heap.size ≤ w5.heap.size := hB.size
      clear hB hO
      go_wp2_with fail
      refine (toIR l _ A' c' b' o' hpl (HP.out.next B5.out)).mono ?_
      rintro e w6 ⟨rfl, hB, hJ⟩
      have B6 := Lib.hid (B5.out.trans (hB.mono B5.out.size))
      have X6 := Lib.hid (X5.out.next hB)
      have O6 := Lib.hid (O5.out.next hB)
      have I6 := Lib.hid hJ
      have hlt56 : w5.heap.size < w6.heap.size := hJ.lt
      clear hB hJ
      go_wp2_with fail
      refine (implNodeAt_any F l _ _ _ F.len l.length v4.heap.size 0 w5.heap.size 0 v4.heap.size w6.heap.size HS.out hpl (O6.out.row HL.out) O6.out.at (Nat.le_refl _) I6.out.ints).mono ?_
      rintro e w7 hA
      obtain ⟨A2, K2, ca2, ck2, ba2, bk2, rfl, hB, hN⟩ := hA.get HAT.out
      have B7 := Lib.hid (B6.out.trans (hB.mono B6.out.size))
      have X7 := Lib.hid (X6.out.next hB)
      have O7 := Lib.hid (O6.out.next hB)
      have I7 := Lib.hid (I6.out.next hB)
      have G7' := Lib.hid (NB.new hN 37)
      have hle67 : w6.heap.size ≤ w7.heap.size := hB.size
      have hal := (Below.refl w7.heap.size w7).alloc (Nat.le_refl _) (.cells #[.int .i64 f.hk, .int .i64 f.hsp, .string f.hn, .string f.ht, .slice A2 f.hal.length ca2, .slice K2 f.hkids.len ck2] 37)
      have V7 := Lib.hid (B7.out.alloc B7.out.size (.cells #[.int .i64 f.hk, .int .i64 f.hsp, .string f.hn, .string f.ht, .slice A2 f.hal.length ca2, .slice K2 f.hkids.len ck2] 37))
      have Xv := Lib.hid (X7.out.next hal)
      have Ov := Lib.hid (O7.out.next hal)
      have Iv := Lib.hid (I7.out.next hal)
      clear hB hN hA hal X7 O7 I7
      obtain ⟨p0, p1, p2, p3, p4, p5⟩ := lay6 Xv.out.box
      obtain ⟨q0, q1, q2, q3, q4, q5⟩ := lay6 G7'.out.box
      go_wp2_with fail
      clear p0 p1 p2 p3 p4 p5 q0 q1 q2 q3 q4 q5
      generalize w7.alloc (.cells #[.int .i64 f.hk, .int .i64 f.hsp, .string f.hn, .string f.ht, .slice A2 f.hal.length ca2, .slice K2 f.hkids.len ck2] 37) = v7 at G7' V7 Xv Ov Iv ⊢
      refine (eqNR G7'.out.nr Xv.out.nr).mono ?_
      rintro e w8 ⟨rfl, hB⟩
      have B8 := Lib.hid (V7.out.trans (hB.mono V7.out.size))
      have X8 := Lib.hid (Xv.out.next hB)
      have O8 := Lib.hid (Ov.out.next hB)
      have I8 := Lib.hid (Iv.out.next hB)
      have G8 := Lib.hid (G7'.out.next hB)
      clear hB Xv Ov Iv G7'
      go_wp2_with fail
      refine (copy_any F _ A c b o hi HS.out (H.out.next B8.out)).mono ?_
      rintro e w9 ⟨rfl, hB, hM⟩
      have B9 := Lib.hid (B8.out.trans (hB.mono B8.out.size))
      have X9 := Lib.hid (X8.out.next hB)
      have O9 := Lib.hid (O8.out.next hB)
      have I9 := Lib.hid (I8.out.next hB)
      have G9 := Lib.hid (G8.out.next hB)
      have M9 := Lib.hid hM
      clear hB hM
      go_wp2_with fail
      refine (alike_any F _ _ _ _ _ _ _ HL.out O9.out.made M9.out).mono ?_
      rintro e w10 ⟨rfl, hB⟩
      have B10 := Lib.hid (B9.out.trans (hB.mono B9.out.size))
      have X10 := Lib.hid (X9.out.next hB)
      have O10 := Lib.hid (O9.out.next hB)
      have I10 := Lib.hid (I9.out.next hB)
      have G10 := Lib.hid (G9.out.next hB)
      clear hB M9
      go_wp2_with fail
      refine (toIR l _ A' c' b' o' hpl (HP.out.next B10.out)).mono ?_
      rintro e w11 ⟨rfl, hB, hJ⟩
      have B11 := Lib.hid (B10.out.trans (hB.mono B10.out.size))
      have X11 := Lib.hid (X10.out.next hB)
      have O11 := Lib.hid (O10.out.next hB)
      have I11 := Lib.hid (I10.out.next hB)
      have G11 := Lib.hid (G10.out.next hB)
      have J11 := Lib.hid hJ
      clear hB hJ
      go_wp2_with fail
      refine (eqIntS_same l _ _ _ _ _ _ _ _ _ I11.out.ints J11.out.ints).mono ?_
      rintro e w12 ⟨rfl, hB⟩
      have B12 := Lib.hid (B11.out.trans (hB.mono B11.out.size))
      have X12 := Lib.hid (X11.out.next hB)
      have O12 := Lib.hid (O11.out.next hB)
      have I12 := Lib.hid (I11.out.next hB)
      have G12 := Lib.hid (G11.out.next hB)
      clear hB J11
      go_wp2_with fail
      refine (markO_any F _ _ _ bl HS.out O12.out).mono ?_
      rintro e w13 ⟨rfl, hB⟩
      have hbl : ∀ k ∈ v4.heap.size :: bl, v4.heap.size ≤ k ∧ k < w5.heap.size := fun k hk => by
        rcases List.mem_cons.1 hk with rfl | hk
        · exact ⟨Nat.le_refl _, O5.out.2.1⟩
        · exact O5.out.2.2.2.2 k hk
      have B13 := Lib.hid (B12.out.trans (hB.below (B := w.heap.size) (fun k hk => by have := hbl k hk; have := V4.out.size; omega) B12.out.size))
      have X13 := Lib.hid (X12.out.only hB fun k hk => by have := hbl k hk; omega)
      have G13 := Lib.hid (G12.out.only hB fun k hk => by have := hbl k hk; omega)
      have I13 := Lib.hid (I12.out.only hB fun hk => by have := hbl _ hk; omega)
      clear hB
      go_wp2_with fail
      refine (markIntS_any l.length (1 + F.cnt) w5.heap.size _ _ hcl I13.out.room).mono ?_
      rintro e w14 ⟨rfl, hB⟩
      have B14 := Lib.hid (B13.out.trans (hB.below (B := w.heap.size) (fun k hk => by rw [List.mem_singleton.1 hk]; exact B5.out.size) B13.out.size))
      have X14 := Lib.hid (X13.out.only hB fun k hk => by have := List.mem_singleton.1 hk; omega)
      have G14 := Lib.hid (G13.out.only hB fun k hk => by have := List.mem_singleton.1 hk; omega)
      clear hB
      obtain ⟨p0, p1, p2, p3, p4, p5⟩ := lay6 X14.out.box
      obtain ⟨q0, q1, q2, q3, q4, q5⟩ := lay6 G14.out.box
      go_wp2_with fail
      refine (eqNR G14.out.nr X14.out.nr).mono ?_
      rintro e w15 ⟨rfl, hB⟩
      have B15 := Lib.hid (B14.out.trans (hB.mono B14.out.size))
      have X15 := Lib.hid (X14.out.next hB)
      have G15 := Lib.hid (G14.out.next hB)
      clear hB p0 p1 p2 p3 p4 p5 q0 q1 q2 q3 q4 q5
      obtain ⟨q0, q1, q2, q3, q4, q5⟩ := lay6 G15.out.box
      go_wp2_with fail
      refine (markNR ⟨G15.out.nr.al.2.1, G15.out.nr.al.2.2⟩ ⟨G15.out.nr.ks.2.1, G15.out.nr.ks.2.2⟩ G15.out.nr.nd G15.out.nr.at' G15.out.nr.le HCF.out).mono ?_
      rintro e w16 ⟨rfl, hM, hB⟩
      have hbk := G15.out.nr.at'
      have B16 := Lib.hid (B15.out.trans (hB.below (B := w.heap.size) (fun k hk => by have := hbk k hk; have := B6.out.size; omega) B15.out.size))
      have X16 := Lib.hid (X15.out.only hB fun k hk => by have := hbk k hk; omega)
      have LG16 := Lib.hid (G15.out.box.only hB G15.out.lt (fun hk => by have := hbk _ hk; omega))
      have hg16 : w7.heap.size < w16.heap.size := Nat.lt_of_lt_of_le G15.out.lt hB.size
      have R16 := Lib.hid hM
      clear hB hM hbk q0 q1 q2 q3 q4 q5
      obtain ⟨q0, q1, q2, q3, q4, q5⟩ := lay6 LG16.out
      go_wp2_with fail
      refine (heldNR R16.out HCF.out).mono ?_
      rintro e w17 ⟨rfl, hB⟩
      have B17 := Lib.hid (B16.out.trans (hB.mono B16.out.size))
      have X17 := Lib.hid (X16.out.next hB)
      have R17 := Lib.hid (R16.out.next hB)
      have LG17 := Lib.hid (LG16.out.below hB hg16)
      have hg17 : w7.heap.size < w17.heap.size := Nat.lt_of_lt_of_le hg16 hB.size
      clear hB q0 q1 q2 q3 q4 q5
      go_wp2_with fail
      refine (copy_any F _ A c b o hi HS.out (H.out.next B17.out)).mono ?_
      rintro e w18 ⟨rfl, hB, hM⟩
      have B18 := Lib.hid (B17.out.trans (hB.mono B17.out.size))
      have X18 := Lib.hid (X17.out.next hB)
      have R18 := Lib.hid (R17.out.next hB)
      have LG18 := Lib.hid (LG17.out.below hB hg17)
      have hg18 : w7.heap.size < w18.heap.size := Nat.lt_of_lt_of_le hg17 hB.size
      have M18 := Lib.hid hM
      clear hB hM
      go_wp2_with fail
      refine (toIR l _ A' c' b' o' hpl (HP.out.next B18.out)).mono ?_
      rintro e w19 ⟨rfl, hB, hJ⟩
      have B19 := Lib.hid (B18.out.trans (hB.mono B18.out.size))
      have X19 := Lib.hid (X18.out.next hB)
      have R19 := Lib.hid (R18.out.next hB)
      have M19 := Lib.hid (M18.out.next hB)
      have LG19 := Lib.hid (LG18.out.below hB hg18)
      have hg19 : w7.heap.size < w19.heap.size := Nat.lt_of_lt_of_le hg18 hB.size
      have J19 := Lib.hid hJ
      clear hB hJ
      go_wp2_with fail
      refine (implNodeAt_any F l _ _ _ F.len l.length w17.heap.size 0 w18.heap.size 0 w17.heap.size w18.heap.size HS.out hpl (M19.out.row HL.out) M19.out.2.2 M19.out.1 J19.out.ints).mono ?_
      rintro e w20 hA
      obtain ⟨A3, K3, ca3, ck3, ba3, bk3, rfl, hB, hN⟩ := hA.get HAT.out
      have B20 := Lib.hid (B19.out.trans (hB.mono B19.out.size))
      have X20 := Lib.hid (X19.out.next hB)
      have R20 := Lib.hid (R19.out.next hB)
      have LG20 := Lib.hid (LG19.out.below hB hg19)
      have hg20 : w7.heap.size < w20.heap.size := Nat.lt_of_lt_of_le hg19 hB.size
      have Y := Lib.hid (NB.new hN 37)
      have hal := (Below.refl w20.heap.size w20).alloc (Nat.le_refl _) (.cells #[.int .i64 f.hk, .int .i64 f.hsp, .string f.hn, .string f.ht, .slice A3 f.hal.length ca3, .slice K3 f.hkids.len ck3] 37)
      have V20 := Lib.hid (B20.out.alloc B20.out.size (.cells #[.int .i64 f.hk, .int .i64 f.hsp, .string f.hn, .string f.ht, .slice A3 f.hal.length ca3, .slice K3 f.hkids.len ck3] 37))
      have Xv := Lib.hid (X20.out.next hal)
      have Rv := Lib.hid (R20.out.next hal)
      have LGv := Lib.hid (LG20.out.below hal hg20)
      have hgv : w7.heap.size < (w20.alloc (.cells #[.int .i64 f.hk, .int .i64 f.hsp, .string f.hn, .string f.ht, .slice A3 f.hal.length ca3, .slice K3 f.hkids.len ck3] 37)).heap.size := Nat.lt_of_lt_of_le hg20 hal.size
      clear hB hN hA hal X20 R20 LG20 M18 M19 J19
      obtain ⟨p0, p1, p2, p3, p4, p5⟩ := lay6 Xv.out.box
      obtain ⟨q0, q1, q2, q3, q4, q5⟩ := lay6 Y.out.box
      go_wp2_with fail
      clear p0 p1 p2 p3 p4 p5 q0 q1 q2 q3 q4 q5
      generalize w20.alloc (.cells #[.int .i64 f.hk, .int .i64 f.hsp, .string f.hn, .string f.ht, .slice A3 f.hal.length ca3, .slice K3 f.hkids.len ck3] 37) = v20 at Y V20 Xv Rv LGv hgv ⊢
      refine (eqNR Y.out.nr Xv.out.nr).mono ?_
      rintro e w21 ⟨rfl, hB⟩
      have B21 := Lib.hid (V20.out.trans (hB.mono V20.out.size))
      have R21 := Lib.hid (Rv.out.next hB)
      have LG21 := LGv.out.below hB hgv
      clear hB Xv Rv Y LGv
      obtain ⟨q0, q1, q2, q3, q4, q5⟩ := lay6 LG21
      clear LG21
      go_wp2_with fail
      refine (heldNR R21.out HCF.out).mono ?_
      rintro e w22 ⟨rfl, hB⟩
      have B22 := Lib.hid (B21.out.trans (hB.mono B21.out.size))
      clear hB
      go_wp2_with fail
      go_ret
      exact ⟨rfl, B22.out⟩
    · have HE := Lib.hid (left_gt hs)
      clear hs
      go_enter Try.func4, Try.ntmps4
      go_wp2_with (go_at_call 11; refine hsz.mono ?_; rintro e w1 ⟨rfl, hB1⟩; rw [HE.out]; have B1 := Lib.hid hB1; clear hB1 hsz)
      go_ret
      exact ⟨rfl, B1.out⟩
  · clear hsz
    go_enter Try.func4, Try.ntmps4
    go_wp2
    go_ret
    exact ⟨rfl, Below.refl _ _⟩
end Go.Proofs.Ytgkkmoliobhpiaa
