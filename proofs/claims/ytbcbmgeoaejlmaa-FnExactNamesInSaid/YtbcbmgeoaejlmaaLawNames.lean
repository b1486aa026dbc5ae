
import Derived.Test.YtbcbmgeoaejlmaaLawTree
import Derived.Test.YtbcbmgeoaejlmaaNames5
import Derived.Test.YtbcbmgeoaejlmaaSHeld
namespace Go.Proofs.Ytbcbmgeoaejlmaa
open Go.ChangeShapes Go.WideShapes Go.ChangeAt Go.RowKit Go.Deep

/-- a row of texts within some blocks -/
structure SR (w : World) (A : Option Addr) (l : List ByteArray) (bs : List Nat) (lo hi : Nat) : Prop where
  row : StrRow w A l bs
  at' : ∀ k ∈ bs, lo ≤ k ∧ k < hi
  le : hi ≤ w.heap.size
theorem SR.next {w w' : World} {A : Option Addr} {l : List ByteArray} {bs : List Nat} {lo hi : Nat} (h : SR w A l bs lo hi) (hB : Below w.heap.size w w') : SR w' A l bs lo hi :=
  ⟨h.row.same fun k hk => hB.block k (by have := (h.at' k hk).2; have := h.le; omega), h.at', Nat.le_trans h.le hB.size⟩
theorem SR.only {w w' : World} {A : Option Addr} {l : List ByteArray} {bs cs : List Nat} {lo hi : Nat} (h : SR w A l bs lo hi) (hB : OnlyAt w w' cs) (hc : ∀ k ∈ cs, ¬ (lo ≤ k ∧ k < hi)) : SR w' A l bs lo hi :=
  ⟨h.row.same fun k hk => hB.block k (by have := (h.at' k hk).2; have := h.le; omega) (fun e => hc k e (h.at' k hk)), h.at', Nat.le_trans h.le hB.size⟩
theorem SR.of {w : World} {B : Nat} {v : Value} {l : List ByteArray} (h : NRow w B v l) : ∃ A c bs, v = .slice A l.length c ∧ SR w A l bs B w.heap.size := by
  obtain ⟨A, c, bs, h1, h2, h3⟩ := h.form
  exact ⟨A, c, bs, h1, h2, h3, Nat.le_refl _⟩
theorem Fo.cnt_le : ∀ F : Fo, F.cnt ≤ 4 * (F.len + F.size)
  | .nil => Nat.zero_le _
  | .cons _ _ n t al kids rest => by
    have h1 := Fo.cnt_le kids
    have h2 := Fo.cnt_le rest
    simp only [Fo.cnt, Fo.len, Fo.size]
    omega
theorem outN_le (F : Fo) : (outN F).length ≤ F.nodes := by
  unfold outN
  split
  · have := Fo.names_le F []; simpa using this
  · simp
theorem copyO_any (F : Fo) (w : World) (A : Option Addr) (c b o hi : Nat) (hs : F.len + F.size ≤ 1048576) (h : CameIn w A b o hi F) :
    Calls Try.prog 30 #[.slice A F.len c] w fun e w' => ∃ bl, e = .returned (.slice (some ⟨w.heap.size, 0, none⟩) F.len F.len) ∧ Below w.heap.size w w' ∧ Own w' w.heap.size w.heap.size F bl :=
  toNodeS_lay F w A c b o hi (Fo.small_of F (by omega)) (by omega) h.1 h.2.1 h.2.2
theorem Own.made {w : World} {g : Nat} {F : Fo} {bl : List Nat} (h : Own w g g F bl) : MadeAt w g w.heap.size F := ⟨Nat.le_refl _, h.2.1, h.at⟩
/-- all of x's blocks are marked, nothing else -/
theorem markO_any (F : Fo) (w : World) (c g : Nat) (bl : List Nat) (hs : F.len + F.size ≤ 1048576) (h : Own w g g F bl) :
    Calls Try.prog 36 #[.slice (some ⟨g, 0, none⟩) F.len c, .int .i64 1] w fun e w' => e = .returned (.int .i64 ((1 + F.cnt : Nat) : Int)) ∧ OnlyAt w w' (g :: bl) :=
  (markNodeS_any F 1 w (some ⟨g, 0, none⟩) c (g :: bl) (Nat.le_refl _) (by have := Fo.cnt_le F; omega) (by unfold maxLen; omega) (Or.inr ⟨g, bl, rfl, rfl, h.2.2.1⟩) h.2.2.2.1 (fun k hk => by rcases List.mem_cons.1 hk with rfl | hk; exact h.2.1; exact (h.2.2.2.2 k hk).2)).mono fun _ _ ⟨h1, _, h3⟩ => ⟨h1, h3⟩

theorem mark1_any (l : List ByteArray) (w : World) (A : Option Addr) (c : Nat) (bs : List Nat) (h2 : l.length ≤ 1048576) (hr : StrRow w A l bs) :
    Calls Try.prog 48 #[.slice A l.length c, .int .i64 1] w fun e w' => e = .returned (.int .i64 ((1 + l.length : Nat) : Int)) ∧ StrRow w' A (markL l 1) bs ∧ OnlyAt w w' bs :=
  markStringS_any l 1 w A c bs (Nat.le_refl _) (by omega) hr
theorem held1_any (l : List ByteArray) (w : World) (A : Option Addr) (c : Nat) (bs : List Nat) (h2 : l.length ≤ 1048576) (hr : StrRow w A (markL l 1) bs) :
    Calls Try.prog 49 #[.slice A l.length c, .int .i64 1] w fun e w' => e = .returned (.int .i64 ((1 + l.length : Nat) : Int)) ∧ Below w.heap.size w w' :=
  heldStringS_any l 1 w A c bs (Nat.le_refl _) (by omega) hr

set_option maxHeartbeats 2000000 in
theorem lawNamesIn_walk (F : Fo) (w : World) (A : Option Addr) (c b o hi : Nat) (h : CameIn w A b o hi F) :
    Calls Try.prog 11 #[.slice A F.len c] w fun e w' => e = .returned (.bool true) ∧ Below w.heap.size w w' := by
  have hml := h.1.1
  have hsz := szNodeS_any F 1048576 w A c b o hi (by omega) h.1 h.2.1 h.2.2
  have H := Lib.hid h
  have HL := Lib.hid hml
  clear h hml
  by_cases hs : F.len + F.size ≤ 1048576
  · have HS := Lib.hid hs
    have HN := Lib.hid (Nat.le_trans (Fo.nodes_le F) hs)
    have HE := Lib.hid (left_le hs)
    have hnn : 0 ≤ ((1048576 : Nat) : Int) - ((F.len + F.size : Nat) : Int) := by omega
    have hol : (outN F).length ≤ 1048576 := Nat.le_trans (outN_le F) HN.out
    clear hs
    go_enter Try.func11, Try.ntmps11
    go_wp2_with (go_at_call 28; refine hsz.mono ?_; rintro e w1 ⟨rfl, hB1⟩; rw [HE.out]; have B1 := Lib.hid hB1; clear hB1 hsz)
    refine (copy_any F _ A c b o hi HS.out (H.out.next B1.out)).mono ?_
    rintro e w2 ⟨rfl, hB2, hM2⟩
    have B2 := Lib.hid (B1.out.trans (hB2.mono B1.out.size))
    have M2 := Lib.hid hM2
    clear hB2 hM2
    go_wp2_with fail
    refine (specNamesIn_any F _ _ _ _ _ _ _ HN.out M2.out.1 (M2.out.row HL.out) M2.out.2.2).mono ?_
    rintro e w3 ⟨v, rfl, hW, hB3⟩
    obtain ⟨Aw, cw, bw, rfl, hw⟩ := SR.of hW
    have W3 := Lib.hid hw
    have B3 := Lib.hid (B2.out.trans (hB3.mono B2.out.size))
    clear hB3 hW hw
    go_wp2_with fail
    refine (copyO_any F _ A c b o hi HS.out (H.out.next B3.out)).mono ?_
    rintro e w4 ⟨bl, rfl, hB4, hO4⟩
    have B4 := Lib.hid (B3.out.trans (hB4.mono B3.out.size))
    have O4 := Lib.hid hO4
    have W4 := Lib.hid (W3.out.next hB4)
    clear hB4 hO4
    go_wp2_with fail
    refine (implNamesIn_any F _ _ _ _ _ _ _ HN.out (Nat.le_refl _) (O4.out.row HL.out) O4.out.at).mono ?_
    rintro e w5 ⟨v, rfl, hG, hB5⟩
    obtain ⟨Ag, cg, bg, rfl, hg⟩ := SR.of hG
    have G5 := Lib.hid hg
    have B5 := Lib.hid (B4.out.trans (hB5.mono B4.out.size))
    have O5 := Lib.hid (O4.out.next hB5)
    have W5 := Lib.hid (W4.out.next hB5)
    clear hB5 hG hg
    go_wp2_with fail
    refine (eqStringS_any (outN F) _ Ag Aw cg cw bg bw (by omega) G5.out.row W5.out.row).mono ?_
    rintro e w6 ⟨rfl, hB⟩
    have B6 := Lib.hid (B5.out.trans (hB.mono B5.out.size))
    have O6 := Lib.hid (O5.out.next hB)
    have W6 := Lib.hid (W5.out.next hB)
    have G6 := Lib.hid (G5.out.next hB)
    clear hB
    go_wp2_with fail
    refine (copy_any F _ A c b o hi HS.out (H.out.next B6.out)).mono ?_
    rintro e w7 ⟨rfl, hB, hM7⟩
    have B7 := Lib.hid (B6.out.trans (hB.mono B6.out.size))
    have O7 := Lib.hid (O6.out.next hB)
    have W7 := Lib.hid (W6.out.next hB)
    have G7 := Lib.hid (G6.out.next hB)
    have M7 := Lib.hid hM7
    clear hB hM7
    go_wp2_with fail
    refine (alike_any F _ _ _ _ _ _ _ HL.out O7.out.made M7.out).mono ?_
    rintro e w8 ⟨rfl, hB⟩
    have B8 := Lib.hid (B7.out.trans (hB.mono B7.out.size))
    have O8 := Lib.hid (O7.out.next hB)
    have W8 := Lib.hid (W7.out.next hB)
    have G8 := Lib.hid (G7.out.next hB)
    clear hB
    go_wp2_with fail
    refine (markO_any F _ _ _ bl HS.out O8.out).mono ?_
    rintro e w9 ⟨rfl, hB⟩
    have hbl : ∀ k ∈ w3.heap.size :: bl, w3.heap.size ≤ k ∧ k < w4.heap.size := fun k hk => by
      rcases List.mem_cons.1 hk with rfl | hk
      · exact ⟨Nat.le_refl _, O4.out.2.1⟩
      · exact O4.out.2.2.2.2 k hk
    have B9 := Lib.hid (B8.out.trans (hB.below (B := w.heap.size) (fun k hk => by have := hbl k hk; have := B3.out.size; omega) B8.out.size))
    have W9 := Lib.hid (W8.out.only hB fun k hk => by have := hbl k hk; omega)
    have G9 := Lib.hid (G8.out.only hB fun k hk => by have := hbl k hk; omega)
    clear hB
    go_wp2_with fail
    refine (eqStringS_any (outN F) _ Ag Aw cg cw bg bw (by omega) G9.out.row W9.out.row).mono ?_
    rintro e w10 ⟨rfl, hB⟩
    have B10 := Lib.hid (B9.out.trans (hB.mono B9.out.size))
    have W10 := Lib.hid (W9.out.next hB)
    have G10 := Lib.hid (G9.out.next hB)
    clear hB
    go_wp2_with fail
    refine (mark1_any (outN F) _ Ag cg bg hol G10.out.row).mono ?_
    rintro e w11 ⟨rfl, hR, hB⟩
    have B11 := Lib.hid (B10.out.trans (hB.below (B := w.heap.size) (fun k hk => by have := G5.out.at' k hk; have := B4.out.size; omega) B10.out.size))
    have W11 := Lib.hid (W10.out.only hB fun k hk => by have := G5.out.at' k hk; have := O4.out.2.1; have := W4.out.le; omega)
    have G11 : Hid (SR w11 Ag (markL (outN F) 1) bg w4.heap.size w5.heap.size) := Lib.hid ⟨hR, G10.out.at', Nat.le_trans G10.out.le hB.size⟩
    clear hB hR
    go_wp2_with fail
    refine (held1_any (outN F) _ Ag cg bg hol G11.out.row).mono ?_
    rintro e w12 ⟨rfl, hB⟩
    have B12 := Lib.hid (B11.out.trans (hB.mono B11.out.size))
    have W12 := Lib.hid (W11.out.next hB)
    have G12 := Lib.hid (G11.out.next hB)
    clear hB
    go_wp2_with fail
    refine (copy_any F _ A c b o hi HS.out (H.out.next B12.out)).mono ?_
    rintro e w13 ⟨rfl, hB, hM⟩
    have B13 := Lib.hid (B12.out.trans (hB.mono B12.out.size))
    have W13 := Lib.hid (W12.out.next hB)
    have G13 := Lib.hid (G12.out.next hB)
    have M13 := Lib.hid hM
    clear hB hM
    go_wp2_with fail
    refine (implNamesIn_any F _ _ _ _ _ _ _ HN.out M13.out.1 (M13.out.row HL.out) M13.out.2.2).mono ?_
    rintro e w14 ⟨v, rfl, hV, hB⟩
    obtain ⟨Ah, ch, bh, rfl, hh⟩ := SR.of hV
    have B14 := Lib.hid (B13.out.trans (hB.mono B13.out.size))
    have W14 := Lib.hid (W13.out.next hB)
    have G14 := Lib.hid (G13.out.next hB)
    have H14 := Lib.hid hh
    clear hB hV hh
    go_wp2_with fail
    refine (eqStringS_any (outN F) _ Ah Aw ch cw bh bw (by omega) H14.out.row W14.out.row).mono ?_
    rintro e w15 ⟨rfl, hB⟩
    have B15 := Lib.hid (B14.out.trans (hB.mono B14.out.size))
    have G15 := Lib.hid (G14.out.next hB)
    clear hB
    go_wp2_with fail
    refine (held1_any (outN F) _ Ag cg bg hol G15.out.row).mono ?_
    rintro e w16 ⟨rfl, hB⟩
    have B16 := Lib.hid (B15.out.trans (hB.mono B15.out.size))
    clear hB
    go_wp2_with fail
    go_ret
    exact ⟨rfl, B16.out⟩
  · have HE := Lib.hid (left_gt hs)
    clear hs
    go_enter Try.func11, Try.ntmps11
    go_wp2_with (go_at_call 28; refine hsz.mono ?_; rintro e w1 ⟨rfl, hB1⟩; rw [HE.out]; have B1 := Lib.hid hB1; clear hB1 hsz)
    go_ret
    exact ⟨rfl, B1.out⟩
end Go.Proofs.Ytbcbmgeoaejlmaa
