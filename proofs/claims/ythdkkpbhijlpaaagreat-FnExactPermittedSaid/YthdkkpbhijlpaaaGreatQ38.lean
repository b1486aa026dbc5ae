import Derived.Test.YthdkkpbhijlpaaaGreatQ37
import Derived.Test.YthdkkpbhijlpaaaGreatQ27
set_option linter.unusedVariables false
namespace Go.Proofs.YthdkkpbhijlpaaaGreat
open Go.ChangeShapes Go.WideShapes Go.ChangeAt Go.RowKit Go.Deep

def SameOK (F : Fo) : Prop := ∀ (G : Fo) (w : World) (A A' : Option Addr) (c c' b b' o o' lo hi lo' hi' : Nat), RowAt lo hi A F.len b o → RowAt lo' hi' A' G.len b' o' → hi ≤ w.heap.size → hi' ≤ w.heap.size → FoAt w lo hi b o F → FoAt w lo' hi' b' o' G →
    Calls Tryz.prog 54 #[.slice A F.len c, .slice A' G.len c'] w fun e w' => e = .returned (.bool (foEq F G)) ∧ Below w.heap.size w w'
set_option maxHeartbeats 4000000 in
theorem l03Same_lt : ∀ (N : Nat) (F : Fo), F.nodes < N → SameOK F := by
  intro N
  induction N with
  | zero => intro F hF; omega
  | succ N IH =>
  intro F hF G w A A' c c' b b' o o' lo hi lo' hi' hA hA' hh hh' hFo hFo'
  have hlen := hA.1
  have hlen' := hA'.1
  unfold maxLen at hlen hlen'
  have HA := Lib.hid hA
  have HS := Lib.hid hFo
  have HA' := Lib.hid hA'
  have HS' := Lib.hid hFo'
  have HF := Lib.hid hF
  have HI := Lib.hid IH
  clear hA hFo hF IH hA' hFo'
  by_cases hl : F.len = G.len
  · have HL := Lib.hid hl
    have hl2 : ((F.len : Int) != (G.len : Int)) = false := by simp; omega
    clear hl
    go_enter Tryz.func54, Tryz.ntmps54
    go_wp2
    go_loopw [5] (fun i wr => ∃ (k : Nat) (suf suf' : Fo), i = .int .i64 (k : Int) ∧ k + suf.len = F.len ∧ Hid (FoAt w lo hi b (o + k * 6) suf ∧ FoAt w lo' hi' b' (o' + k * 6) suf' ∧ suf.len = suf'.len ∧ foEq F G = foEq suf suf' ∧ Below w.heap.size w wr ∧ suf.nodes < N + 1)) (fun i wr => F.len - (intOf i).toNat)
    case atStart => exact ⟨0, F, G, rfl, by omega, Lib.hid ⟨by simpa using HS.out, by simpa using HS'.out, HL.out, rfl, Below.refl _ _, HF.out⟩⟩
    case round =>
      obtain ⟨k, suf, suf', rfl, hk, HH⟩ := hrel
      cases suf with
      | nil =>
        cases suf' with
        | cons _ _ _ _ _ _ _ => have := HH.out.2.2.1; simp [Fo.len] at this
        | nil =>
          have hkl : k = F.len := by simpa [Fo.len] using hk
          clear hk
          subst hkl
          go_wp2
          go_ret
          exact ⟨by rw [HH.out.2.2.2.1]; rfl, HH.out.2.2.2.2.1⟩
      | cons xk xs xn xt xa kids r =>
        cases suf' with
        | nil => have := HH.out.2.2.1; simp [Fo.len] at this
        | cons yk ys yn yt ya ykids s =>
          have hkl : k < F.len := by simp [Fo.len] at hk; omega
          have hkl' : k < G.len := by have := HL.out; omega
          obtain ⟨⟨⟨s0, s1, s2, s3, z2, z3⟩, ⟨A4, c4, b4, o4, s4, r4, a4⟩, ⟨A5, c5, b5, o5, s5, r5, a5⟩, sr⟩, ⟨⟨s0', s1', s2', s3', _, _⟩, ⟨A4', c4', b4', o4', s4', r4', a4'⟩, ⟨A5', c5', b5', o5', s5', r5', a5'⟩, sr'⟩, hls, he, hB, hnd⟩ := HH.out
          obtain ⟨rfl, hlo, hhi⟩ := HA.out.2 (by omega)
          obtain ⟨rfl, hlo', hhi'⟩ := HA'.out.2 (by omega)
          have hb : b < w.heap.size := by omega
          have hb' : b' < w.heap.size := by omega
          have hl3 : (k : Int) < (G.len : Int) := by omega
          have t0 := (hB.cell (p := ⟨b, _, none⟩) hb).trans s0
          have t1 := (hB.cell (p := ⟨b, _, none⟩) hb).trans s1
          have t2 := (hB.cell (p := ⟨b, _, none⟩) hb).trans s2
          have t3 := (hB.cell (p := ⟨b, _, none⟩) hb).trans s3
          have t4 := (hB.cell (p := ⟨b, _, none⟩) hb).trans s4
          have t5 := (hB.cell (p := ⟨b, _, none⟩) hb).trans s5
          have t0' := (hB.cell (p := ⟨b', _, none⟩) hb').trans s0'
          have t1' := (hB.cell (p := ⟨b', _, none⟩) hb').trans s1'
          have t2' := (hB.cell (p := ⟨b', _, none⟩) hb').trans s2'
          have t3' := (hB.cell (p := ⟨b', _, none⟩) hb').trans s3'
          have t4' := (hB.cell (p := ⟨b', _, none⟩) hb').trans s4'
          have t5' := (hB.cell (p := ⟨b', _, none⟩) hb').trans s5'
          have HR := Lib.hid (And.intro sr sr')
          have HB := Lib.hid hB
          have H4 := Lib.hid (And.intro a4 a4')
          have H5 := Lib.hid (And.intro a5 a5')
          have R4 := Lib.hid (And.intro r4.2 r4'.2)
          have R5 := Lib.hid (And.intro r5.2 r5'.2)
          have HND := Lib.hid hnd
          have HK := Lib.hid hk
          have HE := Lib.hid (And.intro hls he)
          have hcat : foEq (.cons xk xs xn xt xa kids r) (.cons yk ys yn yt ya ykids s) = (nodeEq xk xs xn xt xa kids yk ys yn yt ya ykids && foEq r s) := rfl
          have HC := Lib.hid hcat
          clear HH s0 s1 s2 s3 s4 s5 sr s0' s1' s2' s3' s4' s5' sr' hB hnd a4 a5 r4 r5 a4' a5' r4' r5' hk hls he hcat
          have HBX := Lib.hid (show But No w ((wr.alloc (.cells #[.int .i64 xk, .int .i64 xs, .string xn, .string xt, .slice A4 xa.length c4, .slice A5 kids.len c5] 71)).alloc (.cells #[.int .i64 yk, .int .i64 ys, .string yn, .string yt, .slice A4' ya.length c4', .slice A5' ykids.len c5'] 71)) from (((But.of_below (C := No) HB.out).alloc _).alloc _))
          have hbw' : b' < wr.heap.size := Nat.lt_of_lt_of_le hb' HB.out.size
          have u0' := (((Below.refl wr.heap.size wr).alloc (Nat.le_refl _) (.cells #[.int .i64 xk, .int .i64 xs, .string xn, .string xt, .slice A4 xa.length c4, .slice A5 kids.len c5] 71)).cell (p := ⟨b', o' + k * 6, none⟩) hbw').trans t0'
          have u1' := (((Below.refl wr.heap.size wr).alloc (Nat.le_refl _) (.cells #[.int .i64 xk, .int .i64 xs, .string xn, .string xt, .slice A4 xa.length c4, .slice A5 kids.len c5] 71)).cell (p := ⟨b', o' + k * 6 + 1, none⟩) hbw').trans t1'
          have u2' := (((Below.refl wr.heap.size wr).alloc (Nat.le_refl _) (.cells #[.int .i64 xk, .int .i64 xs, .string xn, .string xt, .slice A4 xa.length c4, .slice A5 kids.len c5] 71)).cell (p := ⟨b', o' + k * 6 + 2, none⟩) hbw').trans t2'
          have u3' := (((Below.refl wr.heap.size wr).alloc (Nat.le_refl _) (.cells #[.int .i64 xk, .int .i64 xs, .string xn, .string xt, .slice A4 xa.length c4, .slice A5 kids.len c5] 71)).cell (p := ⟨b', o' + k * 6 + 3, none⟩) hbw').trans t3'
          have u4' := (((Below.refl wr.heap.size wr).alloc (Nat.le_refl _) (.cells #[.int .i64 xk, .int .i64 xs, .string xn, .string xt, .slice A4 xa.length c4, .slice A5 kids.len c5] 71)).cell (p := ⟨b', o' + k * 6 + 4, none⟩) hbw').trans t4'
          have u5' := (((Below.refl wr.heap.size wr).alloc (Nat.le_refl _) (.cells #[.int .i64 xk, .int .i64 xs, .string xn, .string xt, .slice A4 xa.length c4, .slice A5 kids.len c5] 71)).cell (p := ⟨b', o' + k * 6 + 5, none⟩) hbw').trans t5'
          by_cases h1 : xk = yk
          · subst h1
            by_cases h2 : xs = ys
            · subst h2
              cases h3 : xn.toList == yn.toList with
              | true =>
                cases h4 : xt.toList == yt.toList with
                | true =>
                  cases h5 : alEq xa ya with
                  | true =>
                    have HA5 := Lib.hid h5
                    cases hq : foEq kids ykids with
                    | true =>
                      have HX := Lib.hid (show nodeEq xk xs xn xt xa kids xk xs yn yt ya ykids = true by simp [nodeEq, h3, h4, h5, hq])
                      have HQ := Lib.hid hq
                      clear hq h5
                      go_wp2_with (first | (go_at_call 100; refine (l03SameAttrs_any xa ya _ A4 A4' c4 c4' b4 b4' o4 o4' lo hi lo' hi' R4.out.1 R4.out.2 (Nat.le_trans hh HBX.out.size) (Nat.le_trans hh' HBX.out.size) (H4.out.1.but R4.out.1 HBX.out hh (fun _ h => h.elim)) (H4.out.2.but R4.out.2 HBX.out hh' (fun _ h => h.elim))).mono ?_; rintro e w1 ⟨rfl, hB1⟩; rw [HA5.out]; simp only [World.size_alloc] at hB1; obtain ⟨L1, L2, B3⟩ := two_lay hB1; have q5 := L1.1 5; have q5' := L2.1 5; have KB := Lib.hid (HB.out.trans (B3.mono HB.out.size)); simp at q5 q5'; clear L1 L2 B3 hB1) | (go_at_call 54; refine (HI.out kids (by have := HND.out; simp [Fo.nodes] at this; omega) ykids _ A5 A5' c5 c5' b5 b5' o5 o5' lo hi lo' hi' R5.out.1 R5.out.2 (Nat.le_trans hh KB.out.size) (Nat.le_trans hh' KB.out.size) (H5.out.1.but R5.out.1 (But.of_below (C := No) KB.out) hh (fun _ h => h.elim)) (H5.out.2.but R5.out.2 (But.of_below (C := No) KB.out) hh' (fun _ h => h.elim))).mono ?_; rintro e w2 ⟨rfl, hB2⟩; rw [HQ.out]; have KB2 := Lib.hid (KB.out.trans (hB2.mono KB.out.size)); clear hB2))
                      go_roundw
                      case rel => exact ⟨k + 1, r, s, by go_num, by have := HK.out; simp [Fo.len] at this; omega, Lib.hid ⟨by rw [show o + (k + 1) * 6 = o + k * 6 + 6 by omega]; exact HR.out.1, by rw [show o' + (k + 1) * 6 = o' + k * 6 + 6 by omega]; exact HR.out.2, by have := HE.out.1; simpa [Fo.len] using this, by rw [HE.out.2, HC.out, HX.out]; rfl, KB2.out, by have := HND.out; simp [Fo.nodes] at this; omega⟩⟩
                      case measure => simp [intOf]; omega
                    | false =>
                      have HX := Lib.hid (show nodeEq xk xs xn xt xa kids xk xs yn yt ya ykids = false by simp [nodeEq, hq])
                      have HQ := Lib.hid hq
                      clear hq h5
                      go_wp2_with (first | (go_at_call 100; refine (l03SameAttrs_any xa ya _ A4 A4' c4 c4' b4 b4' o4 o4' lo hi lo' hi' R4.out.1 R4.out.2 (Nat.le_trans hh HBX.out.size) (Nat.le_trans hh' HBX.out.size) (H4.out.1.but R4.out.1 HBX.out hh (fun _ h => h.elim)) (H4.out.2.but R4.out.2 HBX.out hh' (fun _ h => h.elim))).mono ?_; rintro e w1 ⟨rfl, hB1⟩; rw [HA5.out]; simp only [World.size_alloc] at hB1; obtain ⟨L1, L2, B3⟩ := two_lay hB1; have q5 := L1.1 5; have q5' := L2.1 5; have KB := Lib.hid (HB.out.trans (B3.mono HB.out.size)); simp at q5 q5'; clear L1 L2 B3 hB1) | (go_at_call 54; refine (HI.out kids (by have := HND.out; simp [Fo.nodes] at this; omega) ykids _ A5 A5' c5 c5' b5 b5' o5 o5' lo hi lo' hi' R5.out.1 R5.out.2 (Nat.le_trans hh KB.out.size) (Nat.le_trans hh' KB.out.size) (H5.out.1.but R5.out.1 (But.of_below (C := No) KB.out) hh (fun _ h => h.elim)) (H5.out.2.but R5.out.2 (But.of_below (C := No) KB.out) hh' (fun _ h => h.elim))).mono ?_; rintro e w2 ⟨rfl, hB2⟩; rw [HQ.out]; have KB2 := Lib.hid (KB.out.trans (hB2.mono KB.out.size)); clear hB2))
                      go_ret
                      exact ⟨by rw [HE.out.2, HC.out, HX.out]; rfl, KB2.out⟩
                  | false =>
                    have HA5 := Lib.hid h5
                    have HX := Lib.hid (show nodeEq xk xs xn xt xa kids xk xs yn yt ya ykids = false by simp [nodeEq, h5])
                    clear h5
                    go_wp2_with (go_at_call 100; refine (l03SameAttrs_any xa ya _ A4 A4' c4 c4' b4 b4' o4 o4' lo hi lo' hi' R4.out.1 R4.out.2 (Nat.le_trans hh HBX.out.size) (Nat.le_trans hh' HBX.out.size) (H4.out.1.but R4.out.1 HBX.out hh (fun _ h => h.elim)) (H4.out.2.but R4.out.2 HBX.out hh' (fun _ h => h.elim))).mono ?_; rintro e w1 ⟨rfl, hB1⟩; rw [HA5.out]; simp only [World.size_alloc] at hB1; obtain ⟨L1, L2, B3⟩ := two_lay hB1; have q5 := L1.1 5; have q5' := L2.1 5; have KB := Lib.hid (HB.out.trans (B3.mono HB.out.size)); simp at q5 q5'; clear L1 L2 B3 hB1)
                    go_ret
                    exact ⟨by rw [HE.out.2, HC.out, HX.out]; rfl, KB.out⟩
                | false =>
                  have HX := Lib.hid (show nodeEq xk xs xn xt xa kids xk xs yn yt ya ykids = false by simp [nodeEq, h4])
                  go_wp2
                  go_ret
                  exact ⟨by rw [HE.out.2, HC.out, HX.out]; rfl, ((HB.out.alloc HB.out.size _).alloc (Nat.le_trans HB.out.size (by simp)) _)⟩
              | false =>
                have HX := Lib.hid (show nodeEq xk xs xn xt xa kids xk xs yn yt ya ykids = false by simp [nodeEq, h3])
                go_wp2
                go_ret
                exact ⟨by rw [HE.out.2, HC.out, HX.out]; rfl, ((HB.out.alloc HB.out.size _).alloc (Nat.le_trans HB.out.size (by simp)) _)⟩
            · have h2' : (xs != ys) = true := by simpa using h2
              have HX := Lib.hid (show nodeEq xk xs xn xt xa kids xk ys yn yt ya ykids = false by simp [nodeEq, h2])
              clear h2
              go_wp2
              go_ret
              exact ⟨by rw [HE.out.2, HC.out, HX.out]; rfl, ((HB.out.alloc HB.out.size _).alloc (Nat.le_trans HB.out.size (by simp)) _)⟩
          · have h1' : (xk != yk) = true := by simpa using h1
            have HX := Lib.hid (show nodeEq xk xs xn xt xa kids yk ys yn yt ya ykids = false by simp [nodeEq, h1])
            clear h1
            go_wp2
            go_ret
            exact ⟨by rw [HE.out.2, HC.out, HX.out]; rfl, ((HB.out.alloc HB.out.size _).alloc (Nat.le_trans HB.out.size (by simp)) _)⟩

  · have HL := Lib.hid hl
    have hl2 : ((F.len : Int) != (G.len : Int)) = true := by simp; omega
    clear hl
    go_enter Tryz.func54, Tryz.ntmps54
    go_wp2
    go_ret
    exact ⟨by rw [foEq_len HL.out]; rfl, Below.refl _ _⟩
theorem l03Same_any (F : Fo) : SameOK F := l03Same_lt (F.nodes + 1) F (Nat.lt_succ_self _)
end Go.Proofs.YthdkkpbhijlpaaaGreat
namespace Go.Proofs.YthdkkpbhijlpaaaGreat
open Go.ChangeShapes Go.WideShapes Go.ChangeAt Go.RowKit Go.Deep

/-- a tree that a call has made: its row in block g, all of it from g up to h -/
def MadeAt (w : World) (g h : Nat) (F : Fo) : Prop := h ≤ w.heap.size ∧ g < h ∧ FoAt w g h g 0 F
theorem MadeAt.row {w : World} {g h : Nat} {F : Fo} (hm : MadeAt w g h F) (hl : F.len ≤ maxLen) : RowAt g h (some ⟨g, 0, none⟩) F.len g 0 := ⟨hl, fun _ => ⟨rfl, Nat.le_refl _, hm.2.1⟩⟩
theorem MadeAt.below {w w' : World} {g h B : Nat} {F : Fo} (hm : MadeAt w g h F) (hB : Below B w w') (hh : h ≤ B) : MadeAt w' g h F :=
  ⟨Nat.le_trans hm.1 hB.size, hm.2.1, hm.2.2.carry (Nat.le_refl _) (Nat.le_refl _) (fun b o _ h2 => hB.cell (p := ⟨b, o, none⟩) (by show b < B; omega)) (fun j _ => hB.cell (p := ⟨g, 0 + j, none⟩) (by have := hm.2.1; show g < B; omega))⟩
theorem MadeAt.next {w w' : World} {g h : Nat} {F : Fo} (hm : MadeAt w g h F) (hB : Below w.heap.size w w') : MadeAt w' g h F := hm.below hB hm.1
/-- the tree that came in -/
def CameIn (w : World) (A : Option Addr) (b o hi : Nat) (F : Fo) : Prop := RowAt 0 hi A F.len b o ∧ hi ≤ w.heap.size ∧ FoAt w 0 hi b o F
theorem CameIn.next {w w' : World} {A : Option Addr} {b o hi : Nat} {F : Fo} (h : CameIn w A b o hi F) (hB : Below w.heap.size w w') : CameIn w' A b o hi F :=
  ⟨h.1, Nat.le_trans h.2.1 hB.size, FoAt.below h.1 h.2.2 hB h.2.1⟩
theorem copy_any (F : Fo) (w : World) (A : Option Addr) (c b o hi : Nat) (hs : F.len + F.size ≤ 1048576) (h : CameIn w A b o hi F) :
    Calls Tryz.prog 11 #[.slice A F.len c] w fun e w' => e = .returned (.slice (some ⟨w.heap.size, 0, none⟩) F.len F.len) ∧ Below w.heap.size w w' ∧ MadeAt w' w.heap.size w'.heap.size F :=
  (toNodeS_any F w A c b o hi (Fo.small_of F (by omega)) (by omega) h.1 h.2.1 h.2.2).mono fun e w' ⟨h1, h2, h3, h4⟩ => ⟨h1, h2, Nat.le_refl _, h3, h4.mono (by omega) (Nat.le_refl _)⟩
theorem alike_any (F : Fo) (w : World) (g h g' h' c c' : Nat) (hl : F.len ≤ maxLen) (h1 : MadeAt w g h F) (h2 : MadeAt w g' h' F) :
    Calls Tryz.prog 14 #[.slice (some ⟨g, 0, none⟩) F.len c, .slice (some ⟨g', 0, none⟩) F.len c'] w fun e w' => e = .returned (.bool true) ∧ Below w.heap.size w w' :=
  eqNodeS_same F w _ _ c c' g g' 0 0 g h g' h' (h1.row hl) (h2.row hl) h1.1 h2.1 h1.2.2 h2.2.2
end Go.Proofs.YthdkkpbhijlpaaaGreat
namespace Go.Proofs.YthdkkpbhijlpaaaGreat
open Go.ChangeShapes Go.WideShapes Go.ChangeAt Go.RowKit Go.Deep

noncomputable def sameB (F G : Fo) : Bool := goodB F && foEq F G
theorem same_good {F G : Fo} (h : goodB F = false) : sameB F G = false := by rw [sameB, h]; rfl
theorem same_yes {F G : Fo} (h : goodB F = true) : sameB F G = foEq F G := by rw [sameB, h]; rfl
theorem implSameTree_any (F G : Fo) (w : World) (A A' : Option Addr) (c c' b b' o o' lo hi lo' hi' : Nat) (hd : F.nodes ≤ 1048576) (_ : G.nodes ≤ 1048576) (hh : hi ≤ w.heap.size) (hh' : hi' ≤ w.heap.size) (hA : RowAt lo hi A F.len b o) (hA' : RowAt lo' hi' A' G.len b' o') (hF : FoAt w lo hi b o F) (hG : FoAt w lo' hi' b' o' G) :
    Calls Tryz.prog 55 #[.slice A F.len c, .slice A' G.len c'] w fun e w' => e = .returned (.bool (sameB F G)) ∧ Below w.heap.size w w' := by
  have HA := Lib.hid hA
  have HF := Lib.hid hF
  have HA' := Lib.hid hA'
  have HG := Lib.hid hG
  clear hA hF hA' hG
  cases hk : goodB F with
  | true =>
    have HE := Lib.hid (same_yes (G := G) hk)
    have HK := Lib.hid hk
    clear hk
    go_enter Tryz.func55, Tryz.ntmps55
    go_wp2_with (first | (go_at_call 75; refine (implTreeOK_any F _ A c b o lo hi hd hh HA.out HF.out).mono ?_; rintro e w1 ⟨rfl, hB⟩; rw [HK.out]; have B1 := Lib.hid hB; clear hB) | (go_at_call 101; refine (equalFunc_any F G _ A A' c c' b b' o o' lo hi lo' hi' HA.out HA'.out (Nat.le_trans hh B1.out.size) (Nat.le_trans hh' B1.out.size) (HF.out.but HA.out (But.of_below (C := No) B1.out) hh (fun _ h => h.elim)) (HG.out.but HA'.out (But.of_below (C := No) B1.out) hh' (fun _ h => h.elim))).mono ?_; rintro e w2 ⟨rfl, hB⟩; have B2 := Lib.hid (B1.out.trans (hB.mono B1.out.size)); clear hB))
    go_ret
    exact ⟨by rw [HE.out]; rfl, B2.out⟩
  | false =>
    have HE := Lib.hid (same_good (G := G) hk)
    have HK := Lib.hid hk
    clear hk
    go_enter Tryz.func55, Tryz.ntmps55
    go_wp2_with (go_at_call 75; refine (implTreeOK_any F _ A c b o lo hi hd hh HA.out HF.out).mono ?_; rintro e w1 ⟨rfl, hB⟩; rw [HK.out]; have B1 := Lib.hid hB; clear hB)
    go_ret
    exact ⟨by rw [HE.out]; rfl, B1.out⟩
end Go.Proofs.YthdkkpbhijlpaaaGreat
namespace Go.Proofs.YthdkkpbhijlpaaaGreat
open Go.ChangeShapes Go.WideShapes Go.ChangeAt Go.RowKit Go.Deep

theorem Fo.deep_le : ∀ F : Fo, F.deep ≤ F.nodes
  | .nil => Nat.le_refl _
  | .cons _ _ _ _ _ kids rest => by have := Fo.deep_le kids; have := Fo.deep_le rest; simp [Fo.deep, Fo.nodes]; omega
def stCount (c : Int) (_ : List Nd) : Int := nextI c
theorem trav_count : ∀ (F : Fo) (ch : List Nd) (c : Nat), c + F.nodes ≤ 1048577 → travU stCount F ch (c : Int) = ((c + F.nodes : Nat) : Int)
  | .nil, _, c, _ => by simp [travU, Fo.nodes]
  | .cons k sp n t al kids rest, ch, c, h => by
    simp only [Fo.nodes] at h
    rw [travU, show stCount (c : Int) (⟨k, sp, n, t, al⟩ :: ch) = ((c + 1 : Nat) : Int) from nextI_nat (by omega), trav_count kids _ (c + 1) (by omega), trav_count rest ch (c + 1 + kids.nodes) (by omega)]
    simp only [Fo.nodes]; omega
theorem trav_count0 (F : Fo) (h : F.nodes ≤ 1048576) : travU stCount F [] 0 = ((F.nodes : Nat) : Int) := by
  have := trav_count F [] 0 (by omega)
  simpa using this
theorem count1_any (cb lo hi : Nat) (c : Int) (C : Nat → Prop) (w : World) (q : Option Addr) (ch : List Nd) (hI : CountAt cb hi c C w) :
    Calls Tryz.prog 104 #[.pointer q, .pointer (some ⟨cb, 0, none⟩)] w (SeenU stCount (CountAt cb hi) c C ch w) := by
  have HI := Lib.hid (hI.put (c' := nextI c))
  have HC := Lib.hid (show C cb from (hI.1 cb).2 rfl)
  have m0 := hI.2.2.2.1
  have mf := hI.2.2.2.2
  have hw : ∀ c : Int, IntKind.i64.wrap (c + 1) = nextI c := fun _ => rfl
  clear hI
  go_enter Tryz.func104, Tryz.ntmps104
  go_wp2
  go_end0
  exact ⟨C, rfl, HI.out, (But.refl C w).setCell (p := ⟨cb, 0, none⟩) (Or.inl (HC.out)) _, fun _ h => Or.inl h⟩
theorem visCount (cb lo hi : Nat) : VisU Tryz.prog 104 #[.pointer (some ⟨cb, 0, none⟩)] lo hi always stCount (CountAt cb hi) where
  own := fun _ _ _ h k hk => by rw [(h.1 k).1 hk]; exact ⟨h.2.1, h.2.2.1⟩
  keep := fun _ _ _ _ h hB => h.keep hB.but
  call := fun s C w q ch _ _ _ hI _ _ => count1_any cb lo hi s C w q ch hI
theorem countOf_any (F : Fo) (w : World) (A : Option Addr) (c b o lo hi : Nat) (hd : F.nodes ≤ 1048576) (hh : hi ≤ w.heap.size) (hA : RowAt lo hi A F.len b o) (hF : FoAt w lo hi b o F) :
    Calls Tryz.prog 57 #[.slice A F.len c] w fun e w' => e = .returned (.int .i64 (F.nodes : Int)) ∧ Below w.heap.size w w' := by
  have hmf : ∀ (fn : Fn) (first cap : Array Value) (w : World), (Instr.makeFunc fn first cap).run Tryz.prog w = .ok (.func fn first cap) w := fun _ _ _ _ => rfl
  have HA := Lib.hid hA
  have HF := Lib.hid hF
  clear hA hF
  go_enter Tryz.func57, Tryz.ntmps57
  go_wp2_with fail
  refine (walkAll_any 104 #[.pointer (some ⟨w.heap.size, 0, none⟩)] lo hi always stCount (CountAt w.heap.size hi) (visCount w.heap.size lo hi) (enters_of Tryz.func104 (by kernel_rfl) rfl) F 0 (fun k => k = w.heap.size) _ A c b o hd (travPU_always _ _ _ _) (count_new w hi 0 _ hh) ?_ HA.out ?_).mono ?_
  · simp; omega
  · exact HF.out.but HA.out ((But.refl No w).alloc _) hh (fun _ h => h.elim)
  · rintro e w2 ⟨D, rfl, i1, b1, d1⟩
    have e1 := trav_count0 F hd
    rw [e1] at i1
    have hcell := i1.2.2.2.1
    have B2 := Lib.hid (((Below.refl w.heap.size w).alloc (Nat.le_refl _) _).trans (b1.below (B := w.heap.size) (fun k hk => by rw [hk]; exact Nat.le_refl _) (by simp)))
    clear i1 b1 d1 e1
    go_wp2
    go_ret
    exact ⟨rfl, B2.out⟩
def CountOK (F : Fo) : Prop := ∀ (w : World) (A : Option Addr) (c b o lo hi : Nat), F.nodes ≤ 1048576 → hi ≤ w.heap.size → RowAt lo hi A F.len b o → FoAt w lo hi b o F →
    Calls Tryz.prog 56 #[.slice A F.len c] w fun e w' => e = .returned (.int .i64 (F.nodes : Int)) ∧ Below w.heap.size w w'
theorem l03Count_lt : ∀ (N : Nat) (F : Fo), F.nodes < N → CountOK F := by
  intro N
  induction N with
  | zero => intro F hF; omega
  | succ N IH =>
  intro F hF w A c b o lo hi hnd hh hA hFo
  have hlen := hA.1
  unfold maxLen at hlen
  have hln := Fo.len_le_nodes F
  have HA := Lib.hid hA
  have HS := Lib.hid hFo
  have HF := Lib.hid hF
  have HI := Lib.hid IH
  clear hA hFo hF IH
  go_enter Tryz.func56, Tryz.ntmps56
  go_wp2
  go_loopw [3, 4] (fun x i wr => ∃ (k m : Nat) (suf : Fo), x = .int .i64 (m : Int) ∧ i = .int .i64 (k : Int) ∧ k + suf.len = F.len ∧ m ≤ 1048576 ∧ Hid (FoAt w lo hi b (o + k * 6) suf ∧ Below w.heap.size w wr ∧ suf.nodes < N + 1 ∧ suf.nodes ≤ 1048576 ∧ m + suf.under = F.nodes)) (fun x i wr => F.len - (intOf i).toNat)
  case atStart => exact ⟨0, F.len, F, rfl, rfl, by omega, by omega, Lib.hid ⟨by simpa using HS.out, Below.refl _ _, HF.out, hnd, (Fo.under_len F).symm⟩⟩
  case round =>
    obtain ⟨k, m, suf, rfl, rfl, hk, hm, HH⟩ := hrel
    cases suf with
    | nil =>
      have hkl : k = F.len := by simpa [Fo.len] using hk
      clear hk
      subst hkl
      go_wp2
      go_ret
      exact ⟨by rw [show F.nodes = m by have := HH.out.2.2.2.2; simp [Fo.under] at this; omega]; rfl, HH.out.2.1⟩
    | cons xk xs xn xt xa kids r =>
      obtain ⟨⟨_, _, ⟨A5, c5, b5, o5, s5, r5, a5⟩, sr⟩, hB, hT1, hT2, hT3⟩ := HH.out
      obtain ⟨rfl, hlo, hhi⟩ := HA.out.2 (by simp [Fo.len] at hk; omega)
      have hkl : k < F.len := by simp [Fo.len] at hk; omega
      have hb : b < w.heap.size := by omega
      have t5 := (hB.cell (p := ⟨b, _, none⟩) hb).trans s5
      have HB := Lib.hid hB
      have HR := Lib.hid sr
      have H5 := Lib.hid a5
      have R5 := Lib.hid r5.2
      have HT := Lib.hid (And.intro hT1 (And.intro hT2 hT3))
      have hkn : kids.nodes ≤ 1048576 ∧ r.nodes ≤ 1048576 := by simp [Fo.nodes] at hT2; omega
      clear HH s5 sr hB hT1 hT2 hT3 a5 r5
      have hms : m + kids.nodes ≤ 1048576 := by have h1 := HT.out.2.2; simp [Fo.under] at h1; omega
      go_wp2_with (go_at_call 56; refine (HI.out kids (by have := HT.out.1; simp [Fo.nodes] at this; omega) _ A5 c5 b5 o5 lo hi hkn.1 (Nat.le_trans hh HB.out.size) R5.out (H5.out.but R5.out (But.of_below (C := No) HB.out) hh (fun _ h => h.elim))).mono ?_; rintro e w2 ⟨rfl, hB2⟩; have KB := Lib.hid (HB.out.trans (hB2.mono HB.out.size)); clear hB2)
      go_roundw
      case rel => exact ⟨k + 1, m + kids.nodes, r, by go_num, by go_num, by simp [Fo.len] at hk; omega, hms, Lib.hid ⟨by rw [show o + (k + 1) * 6 = o + k * 6 + 6 by omega]; exact HR.out, KB.out, by have := HT.out.1; simp [Fo.nodes] at this; omega, hkn.2, by have h1 := HT.out.2.2; simp [Fo.under] at h1; omega⟩⟩
      case measure => simp [intOf]; omega
theorem l03Count_any (F : Fo) : CountOK F := l03Count_lt (F.nodes + 1) F (Nat.lt_succ_self _)
end Go.Proofs.YthdkkpbhijlpaaaGreat
