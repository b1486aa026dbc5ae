import Derived.Test.YtgkkmoliobhpiaaMrg3
namespace Go.Proofs.Ytgkkmoliobhpiaa
open Go.ChangeShapes Go.WideShapes Go.ChangeAt Go.RowKit Go.Deep


set_option maxHeartbeats 4000000 in
set_option maxRecDepth 100000 in
theorem mergeText_lt : ∀ (N : Nat) (F : Fo), F.nodes < N → MergesOK 44 F := by
  intro N
  induction N with
  | zero => intro F hF; omega
  | succ N IH =>
  intro F hF w A c b o lo hi hsm htm hl hA hh hFo
  obtain ⟨ia, hia, hza, hsa, hba⟩ := info_of infoAttr
  have HA := Lib.hid hA
  have HS := Lib.hid hFo
  have HF := Lib.hid hF
  have HI := Lib.hid IH
  have HSM := Lib.hid (And.intro hsm htm)
  clear hA hFo hF IH hsm htm
  go_enter Try.func44, Try.ntmps44
  go_wp2
  go_loopw [3, 9] (fun m i wr => ∃ (k : Nat) (acc suf : Fo), i = .int .i64 (k : Int) ∧ k + suf.len = F.len ∧ acc.len ≤ k ∧ Hid ((∃ bl, GRow wr w.heap.size m acc bl) ∧ lastSm acc ∧ (suf.small ∧ suf.tsm) ∧ Fo.mergeOn acc suf = Fo.mergeOn .nil F ∧ FoAt w lo hi b (o + k * 6) suf ∧ Below w.heap.size w wr ∧ suf.nodes < N + 1)) (fun m i wr => F.len - (intOf i).toNat)
  case atStart => exact ⟨0, .nil, F, rfl, by omega, Nat.le_refl _, Lib.hid ⟨⟨[], GRow.nil _ _⟩, fun x hx => (by cases hx), HSM.out, rfl, by simpa using HS.out, Below.refl _ _, HF.out⟩⟩
  case round =>
    obtain ⟨k, acc, suf, rfl, hk, hak, HH⟩ := hrel
    cases suf with
    | nil =>
      have hkl : k = F.len := by simpa [Fo.len] using hk
      clear hk
      subst hkl
      go_wp2
      go_ret
      obtain ⟨⟨bl, i1⟩, _, _, i4, _, i6, _⟩ := HH.out
      exact ⟨_, bl, rfl, i6, by rw [← i4]; exact i1⟩
    | cons xk xs xn xt xa kids r =>
      have hkl : k < F.len := by simp [Fo.len] at hk; omega
      obtain ⟨⟨bl, hG⟩, hls, hst, hme, ⟨⟨s0, s1, s2, s3, z2, z3⟩, ⟨A4, c4, b4, o4, s4, r4, a4⟩, ⟨A5, c5, b5, o5, s5, r5, a5⟩, sr⟩, hB, hnd⟩ := HH.out
      obtain ⟨rfl, hlo, hhi⟩ := HA.out.2 (by omega)
      have hb : b < w.heap.size := by omega
      have t0 := (hB.cell (p := ⟨b, _, none⟩) hb).trans s0
      have t1 := (hB.cell (p := ⟨b, _, none⟩) hb).trans s1
      have t2 := (hB.cell (p := ⟨b, _, none⟩) hb).trans s2
      have t3 := (hB.cell (p := ⟨b, _, none⟩) hb).trans s3
      have t4 := (hB.cell (p := ⟨b, _, none⟩) hb).trans s4
      have t5 := (hB.cell (p := ⟨b, _, none⟩) hb).trans s5
      have HB := Lib.hid hB
      have H4 := Lib.hid (And.intro r4.2 a4)
      have H5 := Lib.hid (And.intro r5.2 a5)
      have HR := Lib.hid sr
      have HND : Hid (kids.nodes < N ∧ r.nodes < N + 1) := Lib.hid (by simp [Fo.nodes] at hnd; omega)
      have HSK : Hid ((xa.length ≤ 1048576 ∧ kids.len ≤ 1048576 ∧ kids.small ∧ r.small) ∧ (xt.size ≤ 1048576 ∧ kids.tsm ∧ r.tsm)) := Lib.hid hst
      have htz : xt.size ≤ 1048576 := hst.2.1
      have HZ := Lib.hid (And.intro z2 z3)
      have HME := Lib.hid hme
      clear HH s0 s1 s2 s3 s4 s5 sr hB r4 r5 a4 a5 hnd z2 z3 hst hme
      have hbw : w.heap.size ≤ wr.heap.size := HB.out.size
      have hpl : acc.len ≤ 1048576 := by omega
      have BX : Hid (Below w.heap.size w (wr.alloc (.cells #[.int .i64 xk, .int .i64 xs, .string xn, .string xt, .slice A4 xa.length c4, .slice A5 kids.len c5] 37))) := Lib.hid (HB.out.alloc hbw _)
      have LX : Hid (Lay (wr.alloc (.cells #[.int .i64 xk, .int .i64 xs, .string xn, .string xt, .slice A4 xa.length c4, .slice A5 kids.len c5] 37)) wr.heap.size #[.int .i64 xk, .int .i64 xs, .string xn, .string xt, .slice A4 xa.length c4, .slice A5 kids.len c5]) := Lib.hid (Lay.new _ _ _)
      have BR : Hid (Below wr.heap.size wr (wr.alloc (.cells #[.int .i64 xk, .int .i64 xs, .string xn, .string xt, .slice A4 xa.length c4, .slice A5 kids.len c5] 37))) := Lib.hid ((Below.refl _ _).alloc (Nat.le_refl _) _)

      rcases acc.snoc_or with hacc | ⟨P, k', sp', n', t', al', kids', hacc⟩
      · obtain ⟨Am, cm, bs, hm, _, _, _, _⟩ := hG.form
        have h0 : acc.len = 0 := by rw [hacc]; rfl
        rw [h0] at hm
        subst hm
        have HJ : Hid (joinsB acc.last xk xt = false) := Lib.hid (by rw [hacc]; rfl)
        have HG := Lib.hid hG
        clear hG hacc h0 hls
        have LW := LX
        have BW := BX
        have RW := BR
        have hsW : wr.heap.size < (wr.alloc (.cells #[.int .i64 xk, .int .i64 xs, .string xn, .string xt, .slice A4 xa.length c4, .slice A5 kids.len c5] 37)).heap.size := by simp
        clear LX BX BR
        obtain ⟨_, _, _, _, q4, _⟩ := lay6 LW.out
        go_wp2_with (at_builtin; refine wpList_append_al rfl (.const (.slice none 0 0)) (.tmp 35) 27 rfl (wr.heap.size + 1) 56 ia _ Try.underlying27 hia hza hsa hba rfl (.slice none 0 0) rfl (World.ownsRow_nil _ _ _ _) xa A4 c4 b4 o4 lo hi rfl H4.out.1 (al_below H4.out.1 H4.out.2 BW.out hh) HSK.out.1.1 (by omega) ?_; intro v2 w2 hown2 hgrow2; obtain ⟨L2, B2⟩ := box_nilW LW.out hsW hgrow2; obtain ⟨A', ca, ba, rfl, hC⟩ := Cp.of hown2 (asAt_sizes H4.out.2) (by have := HSK.out.1.1; unfold maxLen; omega) (Nat.lt_succ_self _); obtain ⟨p0, p1, p2, p3, p4, p5⟩ := lay6 L2; have f4 := L2.2 4; have K2 := Lib.hid L2; have hs2 := B2.size; have KB2 := Lib.hid (RW.out.trans (B2.mono (Nat.le_of_lt hsW))); have C2 := Lib.hid hC; have C2lt := Lib.hid (show ∀ q ∈ ba, q < w2.heap.size from fun q hq => (hC.2.2 q hq).2); clear hown2 hgrow2 L2 B2 hC)
        have B3 : Hid (Below w.heap.size w (w2.setCell ⟨wr.heap.size, 4, none⟩ (.slice A' xa.length ca))) := Lib.hid ((HB.out.trans (KB2.out.mono hbw)).setCell (p := ⟨wr.heap.size, 4, none⟩) hbw _)
        have C3 := Lib.hid (C2.out.set 4 (.slice A' xa.length ca))
        have K3 := Lib.hid (K2.out.set 4 (.slice A' xa.length ca))
        clear C2 K2 q4 p0 p1 p2 p3 p4 p5 f4
        refine (HI.out kids HND.out.1 _ A5 c5 b5 o5 lo hi HSK.out.1.2.2.1 HSK.out.2.2.1 HSK.out.1.2.1 H5.out.1 (Nat.le_trans hh B3.out.size) (FoAt.below H5.out.1 H5.out.2 B3.out hh)).mono ?_
        rintro e w4 ⟨v4, bl4, rfl, hB4, hG4⟩
        obtain ⟨K', ck, bk, rfl, hK⟩ := Kp.of hG4 (by have := HSK.out.1.2.1; have := Fo.mergeOn_len kids .nil; simp only [Fo.len] at this; unfold maxLen; omega)
        rw [World.size_setCell] at hK
        have hs4 := hB4.size
        rw [World.size_setCell] at hs4
        have L4 := K3.out.below hB4 (by rw [World.size_setCell]; omega)
        have C4 := Lib.hid ((C3.out.next hB4).set 5 (.slice K' (Fo.mergeOn .nil kids).len ck))
        have KK := Lib.hid (hK.set (g := wr.heap.size) (by omega) 5 (.slice K' (Fo.mergeOn .nil kids).len ck))
        have BV : Hid (Below wr.heap.size wr (w4.setCell ⟨wr.heap.size, 5, none⟩ (.slice K' (Fo.mergeOn .nil kids).len ck))) := Lib.hid (((KB2.out.setCell (p := ⟨wr.heap.size, 4, none⟩) (Nat.le_refl _) _).trans (hB4.mono (by rw [World.size_setCell]; omega))).setCell (p := ⟨wr.heap.size, 5, none⟩) (Nat.le_refl _) _)
        obtain ⟨p0, p1, p2, p3, p4, p5⟩ := lay6 L4
        have f5 := L4.2 5
        clear hB4 hG4 hK L4 K3 C3 B3
        have hcn := cells_new (w4.setCell ⟨wr.heap.size, 5, none⟩ (.slice K' (Fo.mergeOn .nil kids).len ck)) [.int .i64 xk, .int .i64 xs, .string xn, .string xt, .slice A' xa.length ca, .slice K' (Fo.mergeOn .nil kids).len ck] 37
        rw [World.size_setCell] at hcn
        have HCN := Lib.hid hcn
        have HND2 : Hid ((ba ++ bk).Nodup ∧ ∀ q ∈ ba ++ bk, wr.heap.size ≤ q ∧ q < w4.heap.size) := by
          obtain ⟨_, _, h1, h2⟩ := nodeOut_of (w := wr) C4.out KK.out (Nat.le_refl _) C2lt.out (by omega)
          exact Lib.hid ⟨h1, fun q hq => by have := h2 q hq; rw [World.size_setCell] at this; exact this⟩
        clear hcn
        go_wp2_with (at_builtin; refine wpList_push_node rfl (.tmp 42) (.tmp 44) rfl w.heap.size _ _ acc bl rfl HG.out (BV.out.alloc (by simp; omega) _) hbw hpl rfl xk xs xn xt xa (Fo.mergeOn .nil kids) A' K' ca ck ba bk HCN.out HZ.out (C4.out.next ((Below.refl _ _).alloc (Nat.le_refl _) _)).1 (KK.out.next ((Below.refl _ _).alloc (Nat.le_refl _) _)).1 HND2.out.1 (fun q hq => ⟨(HND2.out.2 q hq).1, by have := (HND2.out.2 q hq).2; simp; omega⟩) ?_; intro v6 w6 bl6 hG6 hB6; have G6 := Lib.hid hG6; have B6 := Lib.hid (HB.out.trans (((BV.out.mono hbw).alloc (by simp; omega) _).trans hB6)); clear hG6 hB6)
        go_roundw
        case rel => exact ⟨k + 1, acc.app (.one xk xs xn xt xa (Fo.mergeOn .nil kids)), r, by go_num, by simp [Fo.len] at hk; omega, by rw [Fo.len_app]; show acc.len + 1 ≤ k + 1; omega, Lib.hid ⟨⟨_, G6.out⟩, lastSm_push htz, ⟨HSK.out.1.2.2.2, HSK.out.2.2.2⟩, by rw [← HME.out, mergeOn_step HJ.out], by rw [show o + (k + 1) * 6 = o + k * 6 + 6 by omega]; exact HR.out, B6.out, HND.out.2⟩⟩
        case measure => simp [intOf]; omega
      · have hG' := hG
        rw [hacc] at hG'
        obtain ⟨g, cap, hm, hcap, hbg, hgl, c0, c3, hadd⟩ := hG'.last
        subst hm
        have HLA : Hid (acc.last = some (k', t')) := Lib.hid (by rw [hacc]; exact Fo.last_snoc _ _ _ _ _ _ _)
        have htz' : t'.size ≤ 1048576 := hls _ HLA.out
        have hpn : P.len ≤ 1048576 := by rw [hacc, Fo.len_app] at hpl; omega
        have d0 := (BR.out.cell (p := ⟨g, P.len * 6, none⟩) hgl).trans c0.1
        have d3 := (BR.out.cell (p := ⟨g, P.len * 6 + 3, none⟩) hgl).trans c3.1
        have f3 : (wr.alloc (.cells #[.int .i64 xk, .int .i64 xs, .string xn, .string xt, .slice A4 xa.length c4, .slice A5 kids.len c5] 37)).frozen? ⟨g, P.len * 6 + 3, none⟩ = false := (BR.out.frozen (p := ⟨g, P.len * 6 + 3, none⟩) hgl).trans c3.2
        have HG := Lib.hid hG
        have HADD := Lib.hid hadd
        have HAC := Lib.hid hacc
        clear hG hG' c0 c3 hadd hacc hls
        obtain ⟨e0, _, _, e3, _, _⟩ := lay6 LX.out
        cases hj : joinsB (some (k', t')) xk xt with
        | false =>
          have HJ : Hid (joinsB acc.last xk xt = false) := Lib.hid (by rw [HLA.out]; exact hj)
          have HQ := Lib.hid hj
          clear hj
          go_wp2_with (first | (go_at_call 52; refine (joins_any _ g (P.len * 6) wr.heap.size 0 k' xk t' xt d0 d3 e0 e3 htz' htz).mono ?_; rintro e W ⟨rfl, hBW⟩; rw [HQ.out]; have LW := Lib.hid (LX.out.below hBW (by simp)); have BW := Lib.hid (BX.out.trans (hBW.mono BX.out.size)); have RW := Lib.hid (BR.out.trans (hBW.mono BR.out.size)); have hsW : wr.heap.size < W.heap.size := Nat.lt_of_lt_of_le (by simp) hBW.size; have ee3 := (hBW.cell (p := ⟨g, P.len * 6 + 3, none⟩) (by simp; omega)).trans d3; have g3 := (hBW.frozen (p := ⟨g, P.len * 6 + 3, none⟩) (by simp; omega)).trans f3; have q4 := (lay6 LW.out).2.2.2.2.1; have q3 := (lay6 LW.out).2.2.2.1; clear hBW t0 t1 t2 t3 t4 t5 d0 d3 e0 e3 f3 LX BX BR) | (at_builtin; refine wpList_append_al rfl (.const (.slice none 0 0)) (.tmp 35) 27 rfl (wr.heap.size + 1) 56 ia _ Try.underlying27 hia hza hsa hba rfl (.slice none 0 0) rfl (World.ownsRow_nil _ _ _ _) xa A4 c4 b4 o4 lo hi rfl H4.out.1 (al_below H4.out.1 H4.out.2 BW.out hh) HSK.out.1.1 (by omega) ?_; intro v2 w2 hown2 hgrow2; obtain ⟨L2, B2⟩ := box_nilW LW.out hsW hgrow2; obtain ⟨A', ca, ba, rfl, hC⟩ := Cp.of hown2 (asAt_sizes H4.out.2) (by have := HSK.out.1.1; unfold maxLen; omega) (Nat.lt_succ_self _); obtain ⟨p0, p1, p2, p3, p4, p5⟩ := lay6 L2; have f4 := L2.2 4; have K2 := Lib.hid L2; have hs2 := B2.size; have KB2 := Lib.hid (RW.out.trans (B2.mono (Nat.le_of_lt hsW))); have C2 := Lib.hid hC; have C2lt := Lib.hid (show ∀ q ∈ ba, q < w2.heap.size from fun q hq => (hC.2.2 q hq).2); clear hown2 hgrow2 L2 B2 hC))
          have B3 : Hid (Below w.heap.size w (w2.setCell ⟨wr.heap.size, 4, none⟩ (.slice A' xa.length ca))) := Lib.hid ((HB.out.trans (KB2.out.mono hbw)).setCell (p := ⟨wr.heap.size, 4, none⟩) hbw _)
          have C3 := Lib.hid (C2.out.set 4 (.slice A' xa.length ca))
          have K3 := Lib.hid (K2.out.set 4 (.slice A' xa.length ca))
          clear C2 K2 q4 p0 p1 p2 p3 p4 p5 f4
          refine (HI.out kids HND.out.1 _ A5 c5 b5 o5 lo hi HSK.out.1.2.2.1 HSK.out.2.2.1 HSK.out.1.2.1 H5.out.1 (Nat.le_trans hh B3.out.size) (FoAt.below H5.out.1 H5.out.2 B3.out hh)).mono ?_
          rintro e w4 ⟨v4, bl4, rfl, hB4, hG4⟩
          obtain ⟨K', ck, bk, rfl, hK⟩ := Kp.of hG4 (by have := HSK.out.1.2.1; have := Fo.mergeOn_len kids .nil; simp only [Fo.len] at this; unfold maxLen; omega)
          rw [World.size_setCell] at hK
          have hs4 := hB4.size
          rw [World.size_setCell] at hs4
          have L4 := K3.out.below hB4 (by rw [World.size_setCell]; omega)
          have C4 := Lib.hid ((C3.out.next hB4).set 5 (.slice K' (Fo.mergeOn .nil kids).len ck))
          have KK := Lib.hid (hK.set (g := wr.heap.size) (by omega) 5 (.slice K' (Fo.mergeOn .nil kids).len ck))
          have BV : Hid (Below wr.heap.size wr (w4.setCell ⟨wr.heap.size, 5, none⟩ (.slice K' (Fo.mergeOn .nil kids).len ck))) := Lib.hid (((KB2.out.setCell (p := ⟨wr.heap.size, 4, none⟩) (Nat.le_refl _) _).trans (hB4.mono (by rw [World.size_setCell]; omega))).setCell (p := ⟨wr.heap.size, 5, none⟩) (Nat.le_refl _) _)
          obtain ⟨p0, p1, p2, p3, p4, p5⟩ := lay6 L4
          have f5 := L4.2 5
          clear hB4 hG4 hK L4 K3 C3 B3
          have hcn := cells_new (w4.setCell ⟨wr.heap.size, 5, none⟩ (.slice K' (Fo.mergeOn .nil kids).len ck)) [.int .i64 xk, .int .i64 xs, .string xn, .string xt, .slice A' xa.length ca, .slice K' (Fo.mergeOn .nil kids).len ck] 37
          rw [World.size_setCell] at hcn
          have HCN := Lib.hid hcn
          have HND2 : Hid ((ba ++ bk).Nodup ∧ ∀ q ∈ ba ++ bk, wr.heap.size ≤ q ∧ q < w4.heap.size) := by
            obtain ⟨_, _, h1, h2⟩ := nodeOut_of (w := wr) C4.out KK.out (Nat.le_refl _) C2lt.out (by omega)
            exact Lib.hid ⟨h1, fun q hq => by have := h2 q hq; rw [World.size_setCell] at this; exact this⟩
          clear hcn
          go_wp2_with (at_builtin; refine wpList_push_node rfl (.tmp 42) (.tmp 44) rfl w.heap.size _ _ acc bl rfl HG.out (BV.out.alloc (by simp; omega) _) hbw hpl rfl xk xs xn xt xa (Fo.mergeOn .nil kids) A' K' ca ck ba bk HCN.out HZ.out (C4.out.next ((Below.refl _ _).alloc (Nat.le_refl _) _)).1 (KK.out.next ((Below.refl _ _).alloc (Nat.le_refl _) _)).1 HND2.out.1 (fun q hq => ⟨(HND2.out.2 q hq).1, by have := (HND2.out.2 q hq).2; simp; omega⟩) ?_; intro v6 w6 bl6 hG6 hB6; have G6 := Lib.hid hG6; have B6 := Lib.hid (HB.out.trans (((BV.out.mono hbw).alloc (by simp; omega) _).trans hB6)); clear hG6 hB6)
          go_roundw
          case rel => exact ⟨k + 1, acc.app (.one xk xs xn xt xa (Fo.mergeOn .nil kids)), r, by go_num, by simp [Fo.len] at hk; omega, by rw [Fo.len_app]; show acc.len + 1 ≤ k + 1; omega, Lib.hid ⟨⟨_, G6.out⟩, lastSm_push htz, ⟨HSK.out.1.2.2.2, HSK.out.2.2.2⟩, by rw [← HME.out, mergeOn_step HJ.out], by rw [show o + (k + 1) * 6 = o + k * 6 + 6 by omega]; exact HR.out, B6.out, HND.out.2⟩⟩
          case measure => simp [intOf]; omega
        | true =>
          have HJ : Hid (joinsB (some (k', t')) xk xt = true) := Lib.hid hj
          have hgn : wr.heap.size ≠ g := by omega
          have HQ := Lib.hid hj
          clear hj
          go_wp2_with (go_at_call 52; refine (joins_any _ g (P.len * 6) wr.heap.size 0 k' xk t' xt d0 d3 e0 e3 htz' htz).mono ?_; rintro e W ⟨rfl, hBW⟩; rw [HQ.out]; have LW := Lib.hid (LX.out.below hBW (by simp)); have BW := Lib.hid (BX.out.trans (hBW.mono BX.out.size)); have RW := Lib.hid (BR.out.trans (hBW.mono BR.out.size)); have hsW : wr.heap.size < W.heap.size := Nat.lt_of_lt_of_le (by simp) hBW.size; have ee3 := (hBW.cell (p := ⟨g, P.len * 6 + 3, none⟩) (by simp; omega)).trans d3; have g3 := (hBW.frozen (p := ⟨g, P.len * 6 + 3, none⟩) (by simp; omega)).trans f3; have q4 := (lay6 LW.out).2.2.2.2.1; have q3 := (lay6 LW.out).2.2.2.1; clear hBW t0 t1 t2 t3 t4 t5 d0 d3 e0 e3 f3 LX BX BR)
          have GADD : Hid (GRow (W.setCell ⟨g, P.len * 6 + 3, none⟩ (.string (t' ++ xt))).drew w.heap.size (.slice (some ⟨g, 0, none⟩) (P.len + 1) cap) (P.app (.one k' sp' n' (t' ++ xt) al' kids')) bl) := by
            have hGW := HG.out.next RW.out
            rw [HAC.out] at hGW
            obtain ⟨g2, cap2, hm2, _, _, _, _, _, hadd2⟩ := hGW.last
            injection hm2 with h1 _ _
            injection h1 with h1
            injection h1 with h1
            subst h1
            exact Lib.hid ((hadd2 xt (by rw [ByteArray.size_append]; have := (joinsB_le HJ.out).2.2; unfold maxLen; omega)).next (Below.refl _ _).drew)
          go_region
          go_wp2
          go_roundw
          case rel => exact ⟨k + 1, P.app (.one k' sp' n' (t' ++ xt) al' kids'), r, by go_num, by simp [Fo.len] at hk; omega, by have := hak; rw [HAC.out, Fo.len_app] at this; rw [Fo.len_app]; simp only [Fo.one, Fo.len] at *; omega, Lib.hid ⟨⟨_, GADD.out⟩, lastSm_add (joinsB_le HJ.out).2.2, ⟨HSK.out.1.2.2.2, HSK.out.2.2.2⟩, by rw [← HME.out, HAC.out, mergeOn_join HJ.out], by rw [show o + (k + 1) * 6 = o + k * 6 + 6 by omega]; exact HR.out, ((HB.out.trans (RW.out.mono hbw)).setCell (p := ⟨g, P.len * 6 + 3, none⟩) hbg _).drew, HND.out.2⟩⟩
          case measure => simp [intOf]; omega
theorem mergeText_any (F : Fo) : MergesOK 44 F := mergeText_lt (F.nodes + 1) F (Nat.lt_succ_self _)
end Go.Proofs.Ytgkkmoliobhpiaa
