
import Derived.Test.YtbcbmgeoaejlmaaSame3
import Derived.Test.YtbcbmgeoaejlmaaLawTree
namespace Go.Proofs.Ytbcbmgeoaejlmaa
open Go.ChangeShapes Go.WideShapes Go.ChangeAt Go.RowKit Go.Deep

noncomputable def sameB (F G : Fo) : Bool := goodB F && foEq F G
theorem same_good {F G : Fo} (h : goodB F = false) : sameB F G = false := by rw [sameB, h]; rfl
theorem same_good' {F G : Fo} (h : goodB G = false) : sameB F G = false := by
  unfold sameB
  cases e : foEq F G with
  | false => simp
  | true => rw [(foEq_iff F G).1 e, h]; rfl
theorem same_yes {F G : Fo} (h : goodB F = true) : sameB F G = foEq F G := by rw [sameB, h]; rfl
theorem good_small {F : Fo} (h : ¬ F.len ≤ 4096) : goodB F = false := by
  rw [← Bool.not_eq_true]; intro hg
  have : Good F := by simpa [goodB] using hg
  have h1 := this.1
  have := Fo.len_le_nodes F
  omega

theorem implSameTree_any (F G : Fo) (w : World) (A A' : Option Addr) (c c' b b' o o' lo hi lo' hi' : Nat) (hd : F.nodes ≤ 1048576) (_ : G.nodes ≤ 1048576) (hh : hi ≤ w.heap.size) (hh' : hi' ≤ w.heap.size) (hA : RowAt lo hi A F.len b o) (hA' : RowAt lo' hi' A' G.len b' o') (hF : FoAt w lo hi b o F) (hG : FoAt w lo' hi' b' o' G) :
    Calls Try.prog 51 #[.slice A F.len c, .slice A' G.len c'] w fun e w' => e = .returned (.bool (sameB F G)) ∧ Below w.heap.size w w' := by
  have HA := Lib.hid hA
  have HF := Lib.hid hF
  have HA' := Lib.hid hA'
  have HG := Lib.hid hG
  clear hA hF hA' hG
  cases hk : goodB F with
  | true =>
    have HE := Lib.hid (same_yes (G := G) hk)
    have HK := Lib.hid hk
    clear hk
    go_enter Try.func51, Try.ntmps51
    go_wp2_with (first | (go_at_call 40; refine (implTreeOK_any F _ A c b o lo hi hd hh HA.out HF.out).mono ?_; rintro e w1 ⟨rfl, hB⟩; rw [HK.out]; have B1 := Lib.hid hB; clear hB) | (go_at_call 106; refine (equalFunc_any F G _ A A' c c' b b' o o' lo hi lo' hi' HA.out HA'.out (Nat.le_trans hh B1.out.size) (Nat.le_trans hh' B1.out.size) (HF.out.but HA.out (But.of_below (C := No) B1.out) hh (fun _ h => h.elim)) (HG.out.but HA'.out (But.of_below (C := No) B1.out) hh' (fun _ h => h.elim))).mono ?_; rintro e w2 ⟨rfl, hB⟩; have B2 := Lib.hid (B1.out.trans (hB.mono B1.out.size)); clear hB))
    go_ret
    exact ⟨by rw [HE.out]; rfl, B2.out⟩
  | false =>
    have HE := Lib.hid (same_good (G := G) hk)
    have HK := Lib.hid hk
    clear hk
    go_enter Try.func51, Try.ntmps51
    go_wp2_with (go_at_call 40; refine (implTreeOK_any F _ A c b o lo hi hd hh HA.out HF.out).mono ?_; rintro e w1 ⟨rfl, hB⟩; rw [HK.out]; have B1 := Lib.hid hB; clear hB)
    go_ret
    exact ⟨by rw [HE.out]; rfl, B1.out⟩

theorem specSameTree_any (F G : Fo) (w : World) (A A' : Option Addr) (c c' b b' o o' lo hi lo' hi' : Nat) (hd : F.nodes ≤ 1048576) (hd' : G.nodes ≤ 1048576) (hh : hi ≤ w.heap.size) (hh' : hi' ≤ w.heap.size) (hA : RowAt lo hi A F.len b o) (hA' : RowAt lo' hi' A' G.len b' o') (hF : FoAt w lo hi b o F) (hG : FoAt w lo' hi' b' o' G) :
    Calls Try.prog 50 #[.slice A F.len c, .slice A' G.len c'] w fun e w' => e = .returned (.bool (sameB F G)) ∧ Below w.heap.size w w' := by
  have hln := Fo.len_le_nodes F
  have hln' := Fo.len_le_nodes G
  have HA := Lib.hid hA
  have HF := Lib.hid hF
  have HA' := Lib.hid hA'
  have HG := Lib.hid hG
  clear hA hF hA' hG
  by_cases hl : F.len ≤ 4096
  · by_cases hl' : G.len ≤ 4096
    · cases hk : goodB F with
      | true =>
        cases hg : goodB G with
        | true =>
          have HE := Lib.hid (same_yes (G := G) hk)
          have HK := Lib.hid hk
          have HK' := Lib.hid hg
          clear hk hg
          go_enter Try.func50, Try.ntmps50
          go_wp2_with fail
          refine (l03Tree_any F _ A c b o lo hi hd hh HA.out HF.out).mono ?_
          rintro e w1 ⟨rfl, hB⟩
          rw [HK.out]
          have B1 := Lib.hid hB
          clear hB
          go_wp2_with fail
          refine (l03Tree_any G _ A' c' b' o' lo' hi' hd' (Nat.le_trans hh' B1.out.size) HA'.out (HG.out.but HA'.out (But.of_below (C := No) B1.out) hh' (fun _ h => h.elim))).mono ?_
          rintro e w2 ⟨rfl, hB⟩
          rw [HK'.out]
          have B2 := Lib.hid (B1.out.trans (hB.mono B1.out.size))
          clear hB
          go_wp2_with fail
          refine (l03Same_any F G _ A A' c c' b b' o o' lo hi lo' hi' HA.out HA'.out (Nat.le_trans hh B2.out.size) (Nat.le_trans hh' B2.out.size) (HF.out.but HA.out (But.of_below (C := No) B2.out) hh (fun _ h => h.elim)) (HG.out.but HA'.out (But.of_below (C := No) B2.out) hh' (fun _ h => h.elim))).mono ?_
          rintro e w3 ⟨rfl, hB⟩
          have B3 := Lib.hid (B2.out.trans (hB.mono B2.out.size))
          clear hB
          go_wp2
          go_ret
          exact ⟨by rw [HE.out]; rfl, B3.out⟩
        | false =>
          have HE := Lib.hid (same_good' (F := F) hg)
          have HK := Lib.hid hk
          have HK' := Lib.hid hg
          clear hk hg
          go_enter Try.func50, Try.ntmps50
          go_wp2_with fail
          refine (l03Tree_any F _ A c b o lo hi hd hh HA.out HF.out).mono ?_
          rintro e w1 ⟨rfl, hB⟩
          rw [HK.out]
          have B1 := Lib.hid hB
          clear hB
          go_wp2_with fail
          refine (l03Tree_any G _ A' c' b' o' lo' hi' hd' (Nat.le_trans hh' B1.out.size) HA'.out (HG.out.but HA'.out (But.of_below (C := No) B1.out) hh' (fun _ h => h.elim))).mono ?_
          rintro e w2 ⟨rfl, hB⟩
          rw [HK'.out]
          have B2 := Lib.hid (B1.out.trans (hB.mono B1.out.size))
          clear hB
          go_wp2
          go_ret
          exact ⟨by rw [HE.out]; rfl, B2.out⟩
      | false =>
        have HE := Lib.hid (same_good (G := G) hk)
        have HK := Lib.hid hk
        clear hk
        go_enter Try.func50, Try.ntmps50
        go_wp2_with fail
        refine (l03Tree_any F _ A c b o lo hi hd hh HA.out HF.out).mono ?_
        rintro e w1 ⟨rfl, hB⟩
        rw [HK.out]
        have B1 := Lib.hid hB
        clear hB
        go_wp2
        go_ret
        exact ⟨by rw [HE.out]; rfl, B1.out⟩
    · have hl2 : (G.len : Int) > 4096 := by omega
      have HE := Lib.hid (same_good' (F := F) (good_small hl'))
      go_enter Try.func50, Try.ntmps50
      go_wp2
      go_ret
      exact ⟨by rw [HE.out]; rfl, Below.refl _ _⟩
  · have hl2 : (F.len : Int) > 4096 := by omega
    have HE := Lib.hid (same_good (G := G) (good_small hl))
    go_enter Try.func50, Try.ntmps50
    go_wp2
    go_ret
    exact ⟨by rw [HE.out]; rfl, Below.refl _ _⟩

theorem MadeAt.fo {w : World} {g h : Nat} {F : Fo} (hm : MadeAt w g h F) : FoAt w g h g 0 F := hm.2.2

set_option maxHeartbeats 2000000 in
theorem lawSameTree_walk (F : Fo) (w : World) (A : Option Addr) (c b o hi : Nat) (h : CameIn w A b o hi F) (G : Fo) (A' : Option Addr) (c' b' o' hi' : Nat) (h' : CameIn w A' b' o' hi' G) :
    Calls Try.prog 12 #[.slice A F.len c, .slice A' G.len c'] w fun e w' => e = .returned (.bool true) ∧ Below w.heap.size w w' := by
  have hml := h.1.1
  have hml' := h'.1.1
  have hsz := szNodeS_any F 1048576 w A c b o hi (by omega) h.1 h.2.1 h.2.2
  have H := Lib.hid h
  have H' := Lib.hid h'
  have HL := Lib.hid hml
  have HL' := Lib.hid hml'
  clear h hml h' hml'
  by_cases hs : F.len + F.size ≤ 1048576
  · have HS := Lib.hid hs
    have HN := Lib.hid (Nat.le_trans (Fo.nodes_le F) hs)
    have HE := Lib.hid (left_le hs)
    have hnn : 0 ≤ ((1048576 : Nat) : Int) - ((F.len + F.size : Nat) : Int) := by omega
    have hre : ((1048576 : Nat) : Int) - ((F.len + F.size : Nat) : Int) = ((1048576 - (F.len + F.size) : Nat) : Int) := by omega
    have HRE := Lib.hid hre
    clear hre
    by_cases hs' : G.len + G.size ≤ 1048576 - (F.len + F.size)
    · have HS' := Lib.hid (show G.len + G.size ≤ 1048576 by omega)
      have HN' := Lib.hid (Nat.le_trans (Fo.nodes_le G) HS'.out)
      have HE' := Lib.hid (left_le hs')
      have hnn' : 0 ≤ ((1048576 - (F.len + F.size) : Nat) : Int) - ((G.len + G.size : Nat) : Int) := by omega
      clear hs hs'
      go_enter Try.func12, Try.ntmps12
      go_wp2_with (go_at_call 28; refine hsz.mono ?_; rintro e w1 ⟨rfl, hB1⟩; rw [HE.out, HRE.out]; have B1 := Lib.hid hB1; clear hB1 hsz)
      refine (szNodeS_any G (1048576 - (F.len + F.size)) _ A' c' b' o' hi' (by omega) H'.out.1 (H'.out.next B1.out).2.1 (H'.out.next B1.out).2.2).mono ?_
      rintro e w2 ⟨rfl, hB⟩
      rw [HE'.out]
      have B2 := Lib.hid (B1.out.trans (hB.mono B1.out.size))
      clear hB
      go_wp2_with fail
      refine (copy_any F _ A c b o hi HS.out (H.out.next B2.out)).mono ?_
      rintro e v1 ⟨rfl, hB, hp⟩
      have C1 := Lib.hid (B2.out.trans (hB.mono B2.out.size))
      have Khp := Lib.hid hp
      clear hB hp
      go_wp2_with fail
      refine (copy_any G _ A' c' b' o' hi' HS'.out (H'.out.next C1.out)).mono ?_
      rintro e v2 ⟨rfl, hB, hq⟩
      have C2 := Lib.hid (C1.out.trans (hB.mono C1.out.size))
      have p_2 := Lib.hid (Khp.out.next hB)
      have Khq := Lib.hid hq
      clear hB hq
      go_wp2_with fail
      refine (specSameTree_any F G _ _ _ _ _ _ _ _ _ _ _ _ _ HN.out HN'.out p_2.out.1 Khq.out.1 (p_2.out.row HL.out) (Khq.out.row HL'.out) p_2.out.2.2 Khq.out.2.2).mono ?_
      rintro e v3 ⟨rfl, hB⟩
      have C3 := Lib.hid (C2.out.trans (hB.mono C2.out.size))
      have p_3 := Lib.hid (p_2.out.next hB)
      have q_3 := Lib.hid (Khq.out.next hB)
      clear hB
      go_wp2_with fail
      refine (copy_any F _ A c b o hi HS.out (H.out.next C3.out)).mono ?_
      rintro e v4 ⟨rfl, hB, hp⟩
      have C4 := Lib.hid (C3.out.trans (hB.mono C3.out.size))
      have Khp := Lib.hid hp
      clear hB hp
      go_wp2_with fail
      refine (copy_any G _ A' c' b' o' hi' HS'.out (H'.out.next C4.out)).mono ?_
      rintro e v5 ⟨rfl, hB, hq⟩
      have C5 := Lib.hid (C4.out.trans (hB.mono C4.out.size))
      have p_5 := Lib.hid (Khp.out.next hB)
      have Khq := Lib.hid hq
      clear hB hq
      go_wp2_with fail
      refine (implSameTree_any F G _ _ _ _ _ _ _ _ _ _ _ _ _ HN.out HN'.out p_5.out.1 Khq.out.1 (p_5.out.row HL.out) (Khq.out.row HL'.out) p_5.out.2.2 Khq.out.2.2).mono ?_
      rintro e v6 ⟨rfl, hB⟩
      have C6 := Lib.hid (C5.out.trans (hB.mono C5.out.size))
      have p_6 := Lib.hid (p_5.out.next hB)
      have q_6 := Lib.hid (Khq.out.next hB)
      clear hB
      go_wp2_with fail
      refine (copy_any F _ A c b o hi HS.out (H.out.next C6.out)).mono ?_
      rintro e v7 ⟨rfl, hB, hr⟩
      have C7 := Lib.hid (C6.out.trans (hB.mono C6.out.size))
      have p_7 := Lib.hid (p_6.out.next hB)
      have q_7 := Lib.hid (q_6.out.next hB)
      have Khr := Lib.hid hr
      clear hB hr
      go_wp2_with fail
      refine (alike_any F _ _ _ _ _ _ _ HL.out p_7.out Khr.out).mono ?_
      rintro e v8 ⟨rfl, hB⟩
      have C8 := Lib.hid (C7.out.trans (hB.mono C7.out.size))
      have p_8 := Lib.hid (p_7.out.next hB)
      have q_8 := Lib.hid (q_7.out.next hB)
      have r_8 := Lib.hid (Khr.out.next hB)
      clear hB
      go_wp2_with fail
      refine (copy_any G _ A' c' b' o' hi' HS'.out (H'.out.next C8.out)).mono ?_
      rintro e v9 ⟨rfl, hB, hs⟩
      have C9 := Lib.hid (C8.out.trans (hB.mono C8.out.size))
      have p_9 := Lib.hid (p_8.out.next hB)
      have q_9 := Lib.hid (q_8.out.next hB)
      have r_9 := Lib.hid (r_8.out.next hB)
      have Khs := Lib.hid hs
      clear hB hs
      go_wp2_with fail
      refine (alike_any G _ _ _ _ _ _ _ HL'.out q_9.out Khs.out).mono ?_
      rintro e v10 ⟨rfl, hB⟩
      have C10 := Lib.hid (C9.out.trans (hB.mono C9.out.size))
      have p_10 := Lib.hid (p_9.out.next hB)
      have q_10 := Lib.hid (q_9.out.next hB)
      have r_10 := Lib.hid (r_9.out.next hB)
      have s_10 := Lib.hid (Khs.out.next hB)
      clear hB
      go_wp2
      go_ret
      exact ⟨rfl, C10.out⟩
    · have HE' := Lib.hid (left_gt hs')
      clear hs hs'
      go_enter Try.func12, Try.ntmps12
      go_wp2_with (go_at_call 28; refine hsz.mono ?_; rintro e w1 ⟨rfl, hB1⟩; rw [HE.out, HRE.out]; have B1 := Lib.hid hB1; clear hB1 hsz)
      refine (szNodeS_any G (1048576 - (F.len + F.size)) _ A' c' b' o' hi' (by omega) H'.out.1 (H'.out.next B1.out).2.1 (H'.out.next B1.out).2.2).mono ?_
      rintro e w2 ⟨rfl, hB⟩
      rw [HE'.out]
      have B2 := Lib.hid (B1.out.trans (hB.mono B1.out.size))
      clear hB
      go_wp2
      go_ret
      exact ⟨rfl, B2.out⟩
  · have HE := Lib.hid (left_gt hs)
    clear hs
    go_enter Try.func12, Try.ntmps12
    go_wp2_with (go_at_call 28; refine hsz.mono ?_; rintro e w1 ⟨rfl, hB1⟩; rw [HE.out]; have B1 := Lib.hid hB1; clear hB1 hsz)
    go_ret
    exact ⟨rfl, B1.out⟩
end Go.Proofs.Ytbcbmgeoaejlmaa
