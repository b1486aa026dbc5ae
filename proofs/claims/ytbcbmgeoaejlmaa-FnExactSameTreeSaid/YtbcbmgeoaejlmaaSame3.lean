
import Derived.Test.YtbcbmgeoaejlmaaSame2
namespace Go.Proofs.Ytbcbmgeoaejlmaa
open Go.ChangeShapes Go.WideShapes Go.ChangeAt Go.RowKit Go.Deep

def SameOK (F : Fo) : Prop := ∀ (G : Fo) (w : World) (A A' : Option Addr) (c c' b b' o o' lo hi lo' hi' : Nat), RowAt lo hi A F.len b o → RowAt lo' hi' A' G.len b' o' → hi ≤ w.heap.size → hi' ≤ w.heap.size → FoAt w lo hi b o F → FoAt w lo' hi' b' o' G →
    Calls Try.prog 105 #[.slice A F.len c, .slice A' G.len c'] w fun e w' => e = .returned (.bool (foEq F G)) ∧ Below w.heap.size w w'

set_option maxHeartbeats 4000000 in
theorem l03Same_lt : ∀ (N : Nat) (F : Fo), F.nodes < N → SameOK F := by
  intro N
  induction N with
  | zero => intro F hF; omega
  | succ N IH =>
  intro F hF G w A A' c c' b b' o o' lo hi lo' hi' hA hA' hh hh' hFo hFo'
  have hlen := hA.1
  have hlen' := hA'.1
  unfold maxLen at hlen hlen'
  have HA := Lib.hid hA
  have HS := Lib.hid hFo
  have HA' := Lib.hid hA'
  have HS' := Lib.hid hFo'
  have HF := Lib.hid hF
  have HI := Lib.hid IH
  clear hA hFo hF IH hA' hFo'
  by_cases hl : F.len = G.len
  · have HL := Lib.hid hl
    have hl2 : ((F.len : Int) != (G.len : Int)) = false := by simp; omega
    clear hl
    go_enter Try.func105, Try.ntmps105
    go_wp2
    go_loopw [5] (fun i wr => ∃ (k : Nat) (suf suf' : Fo), i = .int .i64 (k : Int) ∧ k + suf.len = F.len ∧ Hid (FoAt w lo hi b (o + k * 6) suf ∧ FoAt w lo' hi' b' (o' + k * 6) suf' ∧ suf.len = suf'.len ∧ foEq F G = foEq suf suf' ∧ Below w.heap.size w wr ∧ suf.nodes < N + 1)) (fun i wr => F.len - (intOf i).toNat)
    case atStart => exact ⟨0, F, G, rfl, by omega, Lib.hid ⟨by simpa using HS.out, by simpa using HS'.out, HL.out, rfl, Below.refl _ _, HF.out⟩⟩
    case round =>
      obtain ⟨k, suf, suf', rfl, hk, HH⟩ := hrel
      cases suf with
      | nil =>
        cases suf' with
        | cons _ _ _ _ _ _ _ => have := HH.out.2.2.1; simp [Fo.len] at this
        | nil =>
          have hkl : k = F.len := by simpa [Fo.len] using hk
          clear hk
          subst hkl
          go_wp2
          go_ret
          exact ⟨by rw [HH.out.2.2.2.1]; rfl, HH.out.2.2.2.2.1⟩
      | cons xk xs xn xt xa kids r =>
        cases suf' with
        | nil => have := HH.out.2.2.1; simp [Fo.len] at this
        | cons yk ys yn yt ya ykids s =>
          have hkl : k < F.len := by simp [Fo.len] at hk; omega
          have hkl' : k < G.len := by have := HL.out; omega
          obtain ⟨⟨⟨s0, s1, s2, s3, z2, z3⟩, ⟨A4, c4, b4, o4, s4, r4, a4⟩, ⟨A5, c5, b5, o5, s5, r5, a5⟩, sr⟩, ⟨⟨s0', s1', s2', s3', _, _⟩, ⟨A4', c4', b4', o4', s4', r4', a4'⟩, ⟨A5', c5', b5', o5', s5', r5', a5'⟩, sr'⟩, hls, he, hB, hnd⟩ := HH.out
          obtain ⟨rfl, hlo, hhi⟩ := HA.out.2 (by omega)
          obtain ⟨rfl, hlo', hhi'⟩ := HA'.out.2 (by omega)
          have hb : b < w.heap.size := by omega
          have hb' : b' < w.heap.size := by omega
          have hl3 : (k : Int) < (G.len : Int) := by omega
          have t0 := (hB.cell (p := ⟨b, _, none⟩) hb).trans s0
          have t1 := (hB.cell (p := ⟨b, _, none⟩) hb).trans s1
          have t2 := (hB.cell (p := ⟨b, _, none⟩) hb).trans s2
          have t3 := (hB.cell (p := ⟨b, _, none⟩) hb).trans s3
          have t4 := (hB.cell (p := ⟨b, _, none⟩) hb).trans s4
          have t5 := (hB.cell (p := ⟨b, _, none⟩) hb).trans s5
          have t0' := (hB.cell (p := ⟨b', _, none⟩) hb').trans s0'
          have t1' := (hB.cell (p := ⟨b', _, none⟩) hb').trans s1'
          have t2' := (hB.cell (p := ⟨b', _, none⟩) hb').trans s2'
          have t3' := (hB.cell (p := ⟨b', _, none⟩) hb').trans s3'
          have t4' := (hB.cell (p := ⟨b', _, none⟩) hb').trans s4'
          have t5' := (hB.cell (p := ⟨b', _, none⟩) hb').trans s5'
          have HR := Lib.hid (And.intro sr sr')
          have HB := Lib.hid hB
          have H4 := Lib.hid (And.intro a4 a4')
          have H5 := Lib.hid (And.intro a5 a5')
          have R4 := Lib.hid (And.intro r4.2 r4'.2)
          have R5 := Lib.hid (And.intro r5.2 r5'.2)
          have HND := Lib.hid hnd
          have HK := Lib.hid hk
          have HE := Lib.hid (And.intro hls he)
          have hcat : foEq (.cons xk xs xn xt xa kids r) (.cons yk ys yn yt ya ykids s) = (nodeEq xk xs xn xt xa kids yk ys yn yt ya ykids && foEq r s) := rfl
          have HC := Lib.hid hcat
          clear HH s0 s1 s2 s3 s4 s5 sr s0' s1' s2' s3' s4' s5' sr' hB hnd a4 a5 r4 r5 a4' a5' r4' r5' hk hls he hcat
          have HBX := Lib.hid (show But No w ((wr.alloc (.cells #[.int .i64 xk, .int .i64 xs, .string xn, .string xt, .slice A4 xa.length c4, .slice A5 kids.len c5] 68)).alloc (.cells #[.int .i64 yk, .int .i64 ys, .string yn, .string yt, .slice A4' ya.length c4', .slice A5' ykids.len c5'] 68)) from (((But.of_below (C := No) HB.out).alloc _).alloc _))
          have hbw' : b' < wr.heap.size := Nat.lt_of_lt_of_le hb' HB.out.size
          have u0' := (((Below.refl wr.heap.size wr).alloc (Nat.le_refl _) (.cells #[.int .i64 xk, .int .i64 xs, .string xn, .string xt, .slice A4 xa.length c4, .slice A5 kids.len c5] 68)).cell (p := ⟨b', o' + k * 6, none⟩) hbw').trans t0'
          have u1' := (((Below.refl wr.heap.size wr).alloc (Nat.le_refl _) (.cells #[.int .i64 xk, .int .i64 xs, .string xn, .string xt, .slice A4 xa.length c4, .slice A5 kids.len c5] 68)).cell (p := ⟨b', o' + k * 6 + 1, none⟩) hbw').trans t1'
          have u2' := (((Below.refl wr.heap.size wr).alloc (Nat.le_refl _) (.cells #[.int .i64 xk, .int .i64 xs, .string xn, .string xt, .slice A4 xa.length c4, .slice A5 kids.len c5] 68)).cell (p := ⟨b', o' + k * 6 + 2, none⟩) hbw').trans t2'
          have u3' := (((Below.refl wr.heap.size wr).alloc (Nat.le_refl _) (.cells #[.int .i64 xk, .int .i64 xs, .string xn, .string xt, .slice A4 xa.length c4, .slice A5 kids.len c5] 68)).cell (p := ⟨b', o' + k * 6 + 3, none⟩) hbw').trans t3'
          have u4' := (((Below.refl wr.heap.size wr).alloc (Nat.le_refl _) (.cells #[.int .i64 xk, .int .i64 xs, .string xn, .string xt, .slice A4 xa.length c4, .slice A5 kids.len c5] 68)).cell (p := ⟨b', o' + k * 6 + 4, none⟩) hbw').trans t4'
          have u5' := (((Below.refl wr.heap.size wr).alloc (Nat.le_refl _) (.cells #[.int .i64 xk, .int .i64 xs, .string xn, .string xt, .slice A4 xa.length c4, .slice A5 kids.len c5] 68)).cell (p := ⟨b', o' + k * 6 + 5, none⟩) hbw').trans t5'
          by_cases h1 : xk = yk
          · subst h1
            by_cases h2 : xs = ys
            · subst h2
              cases h3 : xn.toList == yn.toList with
              | true =>
                cases h4 : xt.toList == yt.toList with
                | true =>
                  cases h5 : alEq xa ya with
                  | true =>
                    have HA5 := Lib.hid h5
                    cases hq : foEq kids ykids with
                    | true =>
                      have HX := Lib.hid (show nodeEq xk xs xn xt xa kids xk xs yn yt ya ykids = true by simp [nodeEq, h3, h4, h5, hq])
                      have HQ := Lib.hid hq
                      clear hq h5
                      go_wp2_with (first | (go_at_call 161; refine (l03SameAttrs_any xa ya _ A4 A4' c4 c4' b4 b4' o4 o4' lo hi lo' hi' R4.out.1 R4.out.2 (Nat.le_trans hh HBX.out.size) (Nat.le_trans hh' HBX.out.size) (H4.out.1.but R4.out.1 HBX.out hh (fun _ h => h.elim)) (H4.out.2.but R4.out.2 HBX.out hh' (fun _ h => h.elim))).mono ?_; rintro e w1 ⟨rfl, hB1⟩; rw [HA5.out]; simp only [World.size_alloc] at hB1; obtain ⟨L1, L2, B3⟩ := two_lay hB1; have q5 := L1.1 5; have q5' := L2.1 5; have KB := Lib.hid (HB.out.trans (B3.mono HB.out.size)); simp at q5 q5'; clear L1 L2 B3 hB1) | (go_at_call 105; refine (HI.out kids (by have := HND.out; simp [Fo.nodes] at this; omega) ykids _ A5 A5' c5 c5' b5 b5' o5 o5' lo hi lo' hi' R5.out.1 R5.out.2 (Nat.le_trans hh KB.out.size) (Nat.le_trans hh' KB.out.size) (H5.out.1.but R5.out.1 (But.of_below (C := No) KB.out) hh (fun _ h => h.elim)) (H5.out.2.but R5.out.2 (But.of_below (C := No) KB.out) hh' (fun _ h => h.elim))).mono ?_; rintro e w2 ⟨rfl, hB2⟩; rw [HQ.out]; have KB2 := Lib.hid (KB.out.trans (hB2.mono KB.out.size)); clear hB2))
                      go_roundw
                      case rel => exact ⟨k + 1, r, s, by go_num, by have := HK.out; simp [Fo.len] at this; omega, Lib.hid ⟨by rw [show o + (k + 1) * 6 = o + k * 6 + 6 by omega]; exact HR.out.1, by rw [show o' + (k + 1) * 6 = o' + k * 6 + 6 by omega]; exact HR.out.2, by have := HE.out.1; simpa [Fo.len] using this, by rw [HE.out.2, HC.out, HX.out]; rfl, KB2.out, by have := HND.out; simp [Fo.nodes] at this; omega⟩⟩
                      case measure => simp [intOf]; omega
                    | false =>
                      have HX := Lib.hid (show nodeEq xk xs xn xt xa kids xk xs yn yt ya ykids = false by simp [nodeEq, hq])
                      have HQ := Lib.hid hq
                      clear hq h5
                      go_wp2_with (first | (go_at_call 161; refine (l03SameAttrs_any xa ya _ A4 A4' c4 c4' b4 b4' o4 o4' lo hi lo' hi' R4.out.1 R4.out.2 (Nat.le_trans hh HBX.out.size) (Nat.le_trans hh' HBX.out.size) (H4.out.1.but R4.out.1 HBX.out hh (fun _ h => h.elim)) (H4.out.2.but R4.out.2 HBX.out hh' (fun _ h => h.elim))).mono ?_; rintro e w1 ⟨rfl, hB1⟩; rw [HA5.out]; simp only [World.size_alloc] at hB1; obtain ⟨L1, L2, B3⟩ := two_lay hB1; have q5 := L1.1 5; have q5' := L2.1 5; have KB := Lib.hid (HB.out.trans (B3.mono HB.out.size)); simp at q5 q5'; clear L1 L2 B3 hB1) | (go_at_call 105; refine (HI.out kids (by have := HND.out; simp [Fo.nodes] at this; omega) ykids _ A5 A5' c5 c5' b5 b5' o5 o5' lo hi lo' hi' R5.out.1 R5.out.2 (Nat.le_trans hh KB.out.size) (Nat.le_trans hh' KB.out.size) (H5.out.1.but R5.out.1 (But.of_below (C := No) KB.out) hh (fun _ h => h.elim)) (H5.out.2.but R5.out.2 (But.of_below (C := No) KB.out) hh' (fun _ h => h.elim))).mono ?_; rintro e w2 ⟨rfl, hB2⟩; rw [HQ.out]; have KB2 := Lib.hid (KB.out.trans (hB2.mono KB.out.size)); clear hB2))
                      go_ret
                      exact ⟨by rw [HE.out.2, HC.out, HX.out]; rfl, KB2.out⟩
                  | false =>
                    have HA5 := Lib.hid h5
                    have HX := Lib.hid (show nodeEq xk xs xn xt xa kids xk xs yn yt ya ykids = false by simp [nodeEq, h5])
                    clear h5
                    go_wp2_with (go_at_call 161; refine (l03SameAttrs_any xa ya _ A4 A4' c4 c4' b4 b4' o4 o4' lo hi lo' hi' R4.out.1 R4.out.2 (Nat.le_trans hh HBX.out.size) (Nat.le_trans hh' HBX.out.size) (H4.out.1.but R4.out.1 HBX.out hh (fun _ h => h.elim)) (H4.out.2.but R4.out.2 HBX.out hh' (fun _ h => h.elim))).mono ?_; rintro e w1 ⟨rfl, hB1⟩; rw [HA5.out]; simp only [World.size_alloc] at hB1; obtain ⟨L1, L2, B3⟩ := two_lay hB1; have q5 := L1.1 5; have q5' := L2.1 5; have KB := Lib.hid (HB.out.trans (B3.mono HB.out.size)); simp at q5 q5'; clear L1 L2 B3 hB1)
                    go_ret
                    exact ⟨by rw [HE.out.2, HC.out, HX.out]; rfl, KB.out⟩
                | false =>
                  have HX := Lib.hid (show nodeEq xk xs xn xt xa kids xk xs yn yt ya ykids = false by simp [nodeEq, h4])
                  go_wp2
                  go_ret
                  exact ⟨by rw [HE.out.2, HC.out, HX.out]; rfl, ((HB.out.alloc HB.out.size _).alloc (Nat.le_trans HB.out.size (by simp)) _)⟩
              | false =>
                have HX := Lib.hid (show nodeEq xk xs xn xt xa kids xk xs yn yt ya ykids = false by simp [nodeEq, h3])
                go_wp2
                go_ret
                exact ⟨by rw [HE.out.2, HC.out, HX.out]; rfl, ((HB.out.alloc HB.out.size _).alloc (Nat.le_trans HB.out.size (by simp)) _)⟩
            · have h2' : (xs != ys) = true := by simpa using h2
              have HX := Lib.hid (show nodeEq xk xs xn xt xa kids xk ys yn yt ya ykids = false by simp [nodeEq, h2])
              clear h2
              go_wp2
              go_ret
              exact ⟨by rw [HE.out.2, HC.out, HX.out]; rfl, ((HB.out.alloc HB.out.size _).alloc (Nat.le_trans HB.out.size (by simp)) _)⟩
          · have h1' : (xk != yk) = true := by simpa using h1
            have HX := Lib.hid (show nodeEq xk xs xn xt xa kids yk ys yn yt ya ykids = false by simp [nodeEq, h1])
            clear h1
            go_wp2
            go_ret
            exact ⟨by rw [HE.out.2, HC.out, HX.out]; rfl, ((HB.out.alloc HB.out.size _).alloc (Nat.le_trans HB.out.size (by simp)) _)⟩

  · have HL := Lib.hid hl
    have hl2 : ((F.len : Int) != (G.len : Int)) = true := by simp; omega
    clear hl
    go_enter Try.func105, Try.ntmps105
    go_wp2
    go_ret
    exact ⟨by rw [foEq_len HL.out]; rfl, Below.refl _ _⟩
theorem l03Same_any (F : Fo) : SameOK F := l03Same_lt (F.nodes + 1) F (Nat.lt_succ_self _)
end Go.Proofs.Ytbcbmgeoaejlmaa
