import Derived.Test.YthdkkpbhijlpaaaGreatQ42
import Derived.Test.YthdkkpbhijlpaaaGreatQ34
import Derived.Test.YthdkkpbhijlpaaaGreatQ43
import Derived.Test.YthdkkpbhijlpaaaGreatQ38
set_option linter.unusedVariables false
namespace Go.Proofs.YthdkkpbhijlpaaaGreat
open Go.ChangeShapes Go.WideShapes Go.ChangeAt Go.RowKit Go.Deep

/-- a comment that may end elsewhere, or a raw element that holds markup -/
def uncB (x : Nd) (kids : Fo) : Bool := ((x.k == 3) && !commentB x.t) || (rawB x && kids.anyT)
def dirtyB (x : Nd) (kids : Fo) : Bool := harmNd x || uncB x kids
theorem anyF_or (p q : Nd → Fo → Bool) : ∀ F : Fo, anyF (fun x k => p x k || q x k) F = (anyF p F || anyF q F)
  | .nil => rfl
  | .cons k sp n t al kids r => by
    simp only [anyF, anyF_or p q kids, anyF_or p q r]
    cases p ⟨k, sp, n, t, al⟩ kids <;> cases q ⟨k, sp, n, t, al⟩ kids <;> cases anyF p kids <;> cases anyF q kids <;> simp
set_option maxHeartbeats 2000000 in
theorem isUnclean_fn (lo hi : Nat) : NdFnM Tryz.prog 53 #[] uncB lo hi := by
  intro x kids b o W hN hK hb hh hmx
  show Calls _ _ #[.pointer (some ⟨b, o, none⟩)] W _
  have HN := Lib.hid hN
  obtain ⟨K, ck, b5, o5, h5, hr, hf⟩ := hK
  obtain ⟨⟨h0, _, _, h3, _, _⟩, _⟩ := hN
  have HM := Lib.hid (fun W' (hB : Below W.heap.size W W') => holdsMarkup_any x kids b o lo hi b5 o5 ck lo hi K W' (HN.out.but hb (But.of_below (C := No) hB) hh (fun _ h => h.elim)) ((hB.cell (p := ⟨b, o + 5, none⟩) (by show b < _; omega)).trans h5) hr.2 (Nat.le_trans hh hB.size) (hf.but hr.2 (But.of_below (C := No) hB) hh (fun _ h => h.elim)))
  have HCM := Lib.hid (implCommentOK_any x.t)
  have HMX := Lib.hid hmx
  clear h5 hr hf
  by_cases hk : x.k = 3
  · have hk' : (x.k == 3) = true := by simpa using hk
    cases hc : commentB x.t with
    | true =>
      have HC := Lib.hid hc
      have HE : Hid (uncB x kids = (rawB x && kids.anyT)) := Lib.hid (by unfold uncB; rw [hk', hc]; rfl)
      clear hc hk
      go_enter Tryz.func53, Tryz.ntmps53
      go_wp2_with (first | (go_at_call 84; refine (HCM.out _ HMX.out).mono ?_; rintro e w1 ⟨rfl, hB⟩; rw [HC.out]; have B1 := Lib.hid hB; clear hB) | (go_at_call 88; refine (HM.out _ B1.out).mono ?_; rintro e w2 ⟨rfl, hB⟩; have B2 := Lib.hid (B1.out.trans (hB.mono B1.out.size)); clear hB))
      go_ret
      exact ⟨ret_bool HE.out.symm, B2.out⟩
    | false =>
      have HC := Lib.hid hc
      have HE : Hid (uncB x kids = true) := Lib.hid (by unfold uncB; rw [hk', hc]; rfl)
      clear hc hk
      go_enter Tryz.func53, Tryz.ntmps53
      go_wp2_with (go_at_call 84; refine (HCM.out _ HMX.out).mono ?_; rintro e w1 ⟨rfl, hB⟩; rw [HC.out]; have B1 := Lib.hid hB; clear hB)
      go_ret
      exact ⟨ret_bool HE.out.symm, B1.out⟩
  · have hk' : (x.k == 3) = false := by simpa using hk
    have HE : Hid (uncB x kids = (rawB x && kids.anyT)) := Lib.hid (by unfold uncB; rw [hk']; rfl)
    clear hk
    go_enter Tryz.func53, Tryz.ntmps53
    go_wp2_with (go_at_call 88; refine (HM.out _ (Below.refl _ _)).mono ?_; rintro e w2 ⟨rfl, hB⟩; have B2 := Lib.hid hB; clear hB)
    go_ret
    exact ⟨ret_bool HE.out.symm, B2.out⟩
noncomputable def cleanB (F : Fo) : Bool := goodB F && !anyF dirtyB F
theorem clean_is (F : Fo) : cleanB F = (harmlessB F && !anyF uncB F) := by
  unfold cleanB
  rw [harmless_is, show anyF dirtyB F = anyF (fun x k => (fun x _ => harmNd x) x k || uncB x k) F from rfl, anyF_or]
  cases goodB F <;> cases anyF (fun x _ => harmNd x) F <;> cases anyF uncB F <;> rfl
set_option maxHeartbeats 2000000 in
theorem implClean_any (F : Fo) (w : World) (A : Option Addr) (c b o lo hi : Nat) (hm : MaxAt w) (hd : F.nodes ≤ 1048576) (hh : hi ≤ w.heap.size) (hA : RowAt lo hi A F.len b o) (hF : FoAt w lo hi b o F) :
    Calls Tryz.prog 20 #[.slice A F.len c] w fun e w' => e = .returned (.bool (cleanB F)) ∧ Below w.heap.size w w' := by
  have HA := Lib.hid hA
  have HF := Lib.hid hF
  have HM := Lib.hid hm
  have HE := Lib.hid (clean_is F)
  clear hA hF hm
  cases hq : harmlessB F with
  | false =>
    have HQ := Lib.hid hq
    clear hq
    go_enter Tryz.func20, Tryz.ntmps20
    go_wp2_with (go_at_call 51; refine (implHarmless_any F _ A c b o lo hi hd hh HA.out HF.out).mono ?_; rintro e w1 ⟨rfl, hB⟩; rw [HQ.out]; have B1 := Lib.hid hB; clear hB)
    go_ret
    exact ⟨by rw [HE.out, HQ.out]; rfl, B1.out⟩
  | true =>
    have HQ := Lib.hid hq
    have hff := firstF_any uncB F [] 0
    clear hq
    cases hs : firstF uncB F [] 0 with
    | none =>
      have HS := Lib.hid hs
      have HV : Hid (cleanB F = true) := Lib.hid (by rw [HE.out, HQ.out, ← hff, hs]; rfl)
      clear hs hff
      go_enter Tryz.func20, Tryz.ntmps20
      go_wp2_with (first | (go_at_call 51; refine (implHarmless_any F _ A c b o lo hi hd hh HA.out HF.out).mono ?_; rintro e w1 ⟨rfl, hB⟩; rw [HQ.out]; have B1 := Lib.hid hB; clear hB) | (go_at_call 52; refine (firstSpotM_any 53 #[] uncB lo hi (enters_of Tryz.func53 (by kernel_rfl) rfl) (isUnclean_fn lo hi) F _ A c b o (HM.out.below B1.out) hd (Nat.le_trans hh B1.out.size) HA.out (HF.out.but HA.out (But.of_below (C := No) B1.out) hh (fun _ h => h.elim))).mono ?_; rintro e w2 ⟨q, D, rfl, hB, hfi⟩; rw [HS.out] at hfi; obtain rfl : q = none := hfi; have B2 := Lib.hid (B1.out.trans (hB.mono B1.out.size)); clear hB))
      go_ret
      exact ⟨by rw [HV.out]; rfl, B2.out⟩
    | some ch =>
      have HS := Lib.hid hs
      have HV : Hid (cleanB F = false) := Lib.hid (by rw [HE.out, HQ.out, ← hff, hs]; rfl)
      clear hs hff
      go_enter Tryz.func20, Tryz.ntmps20
      go_wp2_with (first | (go_at_call 51; refine (implHarmless_any F _ A c b o lo hi hd hh HA.out HF.out).mono ?_; rintro e w1 ⟨rfl, hB⟩; rw [HQ.out]; have B1 := Lib.hid hB; clear hB) | (go_at_call 52; refine (firstSpotM_any 53 #[] uncB lo hi (enters_of Tryz.func53 (by kernel_rfl) rfl) (isUnclean_fn lo hi) F _ A c b o (HM.out.below B1.out) hd (Nat.le_trans hh B1.out.size) HA.out (HF.out.but HA.out (But.of_below (C := No) B1.out) hh (fun _ h => h.elim))).mono ?_; rintro e w2 ⟨q, D, rfl, hB, hfi⟩; rw [HS.out] at hfi; obtain ⟨hne, hsp⟩ := hfi; obtain ⟨y, r, rfl⟩ : ∃ y r, ch = y :: r := (by cases ch with | nil => exact absurd rfl hne | cons y r => exact ⟨y, r, rfl⟩); obtain ⟨gb, _, _, _, rfl, _⟩ := hsp; have B2 := Lib.hid (B1.out.trans (hB.mono B1.out.size)); clear hB hne))
      go_ret
      exact ⟨by rw [HV.out]; rfl, B2.out⟩
def CleanOK (F : Fo) : Prop := ∀ (w : World) (A : Option Addr) (c b o lo hi : Nat), F.nodes ≤ 60 → SFine F → hi ≤ w.heap.size → RowAt lo hi A F.len b o → FoAt w lo hi b o F →
    Calls Tryz.prog 50 #[.slice A F.len c] w fun e w' => e = .returned (.bool (!anyF dirtyB F)) ∧ Below w.heap.size w w'
set_option maxHeartbeats 4000000 in
set_option maxRecDepth 100000 in
theorem l08Clean_lt : ∀ (N : Nat) (F : Fo), F.nodes < N → CleanOK F := by
  intro N
  induction N with
  | zero => intro F hF; omega
  | succ N IH =>
  intro F hF w A c b o lo hi hnd hfi hh hA hFo
  have hlen := hA.1
  unfold maxLen at hlen
  have hln := Fo.len_le_nodes F
  have HA := Lib.hid hA
  have HS := Lib.hid (And.intro hFo hfi)
  have HF := Lib.hid hF
  have HI := Lib.hid IH
  clear hA hFo hF IH hfi
  go_enter Tryz.func50, Tryz.ntmps50
  go_wp2
  go_loopw [3] (fun i wr => ∃ (k : Nat) (suf : Fo), i = .int .i64 (k : Int) ∧ k + suf.len = F.len ∧ Hid (FoAt w lo hi b (o + k * 6) suf ∧ Below w.heap.size w wr ∧ suf.nodes < N + 1 ∧ suf.nodes ≤ 60 ∧ anyF dirtyB F = anyF dirtyB suf ∧ SFine suf)) (fun i wr => F.len - (intOf i).toNat)
  case atStart => exact ⟨0, F, rfl, by omega, Lib.hid ⟨by simpa using HS.out.1, Below.refl _ _, HF.out, hnd, rfl, HS.out.2⟩⟩
  case round =>
    obtain ⟨k, suf, rfl, hk, HH⟩ := hrel
    cases suf with
    | nil =>
      have hkl : k = F.len := by simpa [Fo.len] using hk
      clear hk
      subst hkl
      go_wp2
      go_ret
      exact ⟨by rw [HH.out.2.2.2.2.1]; rfl, HH.out.2.1⟩
    | cons xk xs xn xt xa kids r =>
      obtain ⟨⟨⟨s0, s1, s2, s3, z2, z3⟩, ⟨A4, c4, b4, o4, s4, r4, a4⟩, ⟨A5, c5, b5, o5, s5, r5, a5⟩, sr⟩, hB, hT1, hT2, hT3, f1, f2, f3, f4⟩ := HH.out
      obtain ⟨rfl, hlo, hhi⟩ := HA.out.2 (by simp [Fo.len] at hk; omega)
      have hkl : k < F.len := by simp [Fo.len] at hk; omega
      have hb : b < w.heap.size := by omega
      have t0 := (hB.cell (p := ⟨b, _, none⟩) hb).trans s0
      have t1 := (hB.cell (p := ⟨b, _, none⟩) hb).trans s1
      have t2 := (hB.cell (p := ⟨b, _, none⟩) hb).trans s2
      have t3 := (hB.cell (p := ⟨b, _, none⟩) hb).trans s3
      have t4 := (hB.cell (p := ⟨b, _, none⟩) hb).trans s4
      have t5 := (hB.cell (p := ⟨b, _, none⟩) hb).trans s5
      have HB := Lib.hid hB
      have HR := Lib.hid (And.intro sr f4)
      have H4 := Lib.hid (And.intro a4 r4.2)
      have H5 := Lib.hid (And.intro a5 (And.intro r5.2 f3))
      have HN := Lib.hid (And.intro f1 z2)
      have HT := Lib.hid (And.intro hT1 (And.intro hT2 hT3))
      have hkn : kids.nodes ≤ 60 ∧ r.nodes ≤ 60 := by simp [Fo.nodes] at hT2; omega
      have hsz := sfine_sizeZ kids f3
      have hwl := Fo.words_le kids
      have HW : Hid (kids.nodes ≤ 60 ∧ kids.words.length ≤ 65536 ∧ kids.size ≤ 1048576 * 64) := Lib.hid ⟨hkn.1, by omega, by omega⟩
      have HX : Hid (∀ (W : World) (kk : Int), Lay (W.alloc (.cells #[.int .i64 kk, .int .i64 xs, .string xn, .string xt, .slice A4 xa.length c4, .slice A5 kids.len c5] 71)) W.heap.size #[.int .i64 kk, .int .i64 xs, .string xn, .string xt, .slice A4 xa.length c4, .slice A5 kids.len c5]) := Lib.hid fun W kk => Lay.new _ _ _
      have HRS : Hid (xk = 1 → rawW xs xn kids = (rawB ⟨xk, xs, xn, xt, xa⟩ && kids.anyT)) := Lib.hid (fun e => by subst e; exact raw_same f2 f3)
      have HTS : Hid (xk = 3 → commentB xt = commentIn xt ∧ xt.size ≤ 65536) := Lib.hid (fun e => by
        rcases f1 with h | h | h
        · exact absurd (h.1.symm.trans e) (by decide)
        · exact absurd (h.1.symm.trans e) (by decide)
        · have ht : xt.size ≤ 120 := h.2.1
          exact ⟨by unfold commentB; rw [show decide (xt.size ≤ 65536) = true by simp; omega]; rfl, by omega⟩)
      have HRN : Hid (xk ≠ 1 → rawB ⟨xk, xs, xn, xt, xa⟩ = false) := Lib.hid (fun e => by
        rcases f1 with h | h | h
        · exact absurd h.1 e
        · have h2 : xn.size = 0 := h.2.2.2.2.1
          have : xn = ⟨#[]⟩ := ByteArray.ext (Array.eq_empty_of_size_eq_zero h2)
          subst this; unfold rawB; rw [show inL rawL (⟨#[]⟩ : ByteArray) = false by simp [inL, rawL, ByteArray.toList_eq]]; simp
        · have h2 : xn.size = 0 := h.2.2.2.1
          have : xn = ⟨#[]⟩ := ByteArray.ext (Array.eq_empty_of_size_eq_zero h2)
          subst this; unfold rawB; rw [show inL rawL (⟨#[]⟩ : ByteArray) = false by simp [inL, rawL, ByteArray.toList_eq]]; simp)
      have hxk : xk = 1 ∨ xk = 2 ∨ xk = 3 := by rcases f1 with h | h | h; exact Or.inl h.1; exact Or.inr (Or.inl h.1); exact Or.inr (Or.inr h.1)
      clear HH s0 s1 s2 s3 s4 s5 sr hB hT1 hT2 hT3 a4 r4 a5 r5 f1 f2 f3 f4 z2 z3 hsz hwl
      rcases hxk with rfl | rfl | rfl
      · have XA : Hid (Lay (wr.alloc (.cells #[.int .i64 1, .int .i64 xs, .string xn, .string xt, .slice A4 xa.length c4, .slice A5 kids.len c5] 71)) wr.heap.size #[.int .i64 1, .int .i64 xs, .string xn, .string xt, .slice A4 xa.length c4, .slice A5 kids.len c5]) := Lib.hid (HX.out wr 1)
        have HL : Hid (wr.heap.size < (wr.alloc (.cells #[.int .i64 1, .int .i64 xs, .string xn, .string xt, .slice A4 xa.length c4, .slice A5 kids.len c5] 71)).heap.size) := Lib.hid (by simp)
        have BW : Hid (Below w.heap.size w (wr.alloc (.cells #[.int .i64 1, .int .i64 xs, .string xn, .string xt, .slice A4 xa.length c4, .slice A5 kids.len c5] 71))) := Lib.hid (HB.out.alloc HB.out.size _)
        obtain ⟨n0, n1, n2, n3, n4, n5⟩ := lay6z XA.out
        cases hq : harmNd ⟨1, xs, xn, xt, xa⟩ with
        | true =>
          have HQ := Lib.hid hq
          have HD : Hid (dirtyB ⟨1, xs, xn, xt, xa⟩ kids = true) := Lib.hid (by unfold dirtyB; rw [hq]; rfl)
          clear hq
          go_wp2_with (first | (go_at_call 94; refine (l08Harm_any ⟨1, xs, xn, xt, xa⟩ HN.out.1 _ A4 A5 c4 kids.len c5 b4 o4 lo hi H4.out.2 (Nat.le_trans hh BW.out.size) (H4.out.1.but H4.out.2 (But.of_below (C := No) BW.out) hh (fun _ h => h.elim)) HN.out.2).mono ?_; rintro e w1 ⟨rfl, hB⟩; rw [HQ.out]; have XA := Lib.hid (XA.out.below hB (HL.out)); have HL := Lib.hid (Nat.lt_of_lt_of_le HL.out hB.size); have BW := Lib.hid (BW.out.trans (hB.mono BW.out.size)); clear n0 n1 n2 n3 n4 n5 hB; obtain ⟨n0, n1, n2, n3, n4, n5⟩ := lay6z XA.out))
          go_ret
          exact ⟨by rw [HT.out.2.2, anyF, HD.out]; rfl, BW.out⟩
        | false =>
          have HQ := Lib.hid hq
          cases hr : rawW xs xn kids with
          | true =>
            have HRW := Lib.hid hr
            have HD : Hid (dirtyB ⟨1, xs, xn, xt, xa⟩ kids = true) := Lib.hid (by unfold dirtyB uncB; rw [hq, ← HRS.out rfl, hr]; rfl)
            clear hr hq
            go_wp2_with (first | (go_at_call 94; refine (l08Harm_any ⟨1, xs, xn, xt, xa⟩ HN.out.1 _ A4 A5 c4 kids.len c5 b4 o4 lo hi H4.out.2 (Nat.le_trans hh BW.out.size) (H4.out.1.but H4.out.2 (But.of_below (C := No) BW.out) hh (fun _ h => h.elim)) HN.out.2).mono ?_; rintro e w1 ⟨rfl, hB⟩; rw [HQ.out]; have XA := Lib.hid (XA.out.below hB (HL.out)); have HL := Lib.hid (Nat.lt_of_lt_of_le HL.out hB.size); have BW := Lib.hid (BW.out.trans (hB.mono BW.out.size)); clear n0 n1 n2 n3 n4 n5 hB; obtain ⟨n0, n1, n2, n3, n4, n5⟩ := lay6z XA.out) | (go_at_call 95; refine (l08Raw_any 1 xs xn xt _ _ _ b5 o5 lo hi _ A5 kids _ HW.out.1 HW.out.2.1 HW.out.2.2 (Nat.le_trans hh BW.out.size) H5.out.2.1 (H5.out.1.but H5.out.2.1 (But.of_below (C := No) BW.out) hh (fun _ h => h.elim))).mono ?_; rintro e w2 ⟨rfl, hB⟩; rw [HRW.out]; have XA := Lib.hid (XA.out.below hB (HL.out)); have HL := Lib.hid (Nat.lt_of_lt_of_le HL.out hB.size); have BW := Lib.hid (BW.out.trans (hB.mono BW.out.size)); clear n0 n1 n2 n3 n4 n5 hB; obtain ⟨n0, n1, n2, n3, n4, n5⟩ := lay6z XA.out))
            go_ret
            exact ⟨by rw [HT.out.2.2, anyF, HD.out]; rfl, BW.out⟩
          | false =>
            have HRW := Lib.hid hr
            have HD : Hid (dirtyB ⟨1, xs, xn, xt, xa⟩ kids = false) := Lib.hid (by unfold dirtyB uncB; rw [hq, ← HRS.out rfl, hr]; rfl)
            clear hr hq
            cases hz : anyF dirtyB kids with
            | true =>
              have HZ := Lib.hid hz
              clear hz
              go_wp2_with (first | (go_at_call 94; refine (l08Harm_any ⟨1, xs, xn, xt, xa⟩ HN.out.1 _ A4 A5 c4 kids.len c5 b4 o4 lo hi H4.out.2 (Nat.le_trans hh BW.out.size) (H4.out.1.but H4.out.2 (But.of_below (C := No) BW.out) hh (fun _ h => h.elim)) HN.out.2).mono ?_; rintro e w1 ⟨rfl, hB⟩; rw [HQ.out]; have XA := Lib.hid (XA.out.below hB (HL.out)); have HL := Lib.hid (Nat.lt_of_lt_of_le HL.out hB.size); have BW := Lib.hid (BW.out.trans (hB.mono BW.out.size)); clear n0 n1 n2 n3 n4 n5 hB; obtain ⟨n0, n1, n2, n3, n4, n5⟩ := lay6z XA.out) | (go_at_call 95; refine (l08Raw_any 1 xs xn xt _ _ _ b5 o5 lo hi _ A5 kids _ HW.out.1 HW.out.2.1 HW.out.2.2 (Nat.le_trans hh BW.out.size) H5.out.2.1 (H5.out.1.but H5.out.2.1 (But.of_below (C := No) BW.out) hh (fun _ h => h.elim))).mono ?_; rintro e w2 ⟨rfl, hB⟩; rw [HRW.out]; have XA := Lib.hid (XA.out.below hB (HL.out)); have HL := Lib.hid (Nat.lt_of_lt_of_le HL.out hB.size); have BW := Lib.hid (BW.out.trans (hB.mono BW.out.size)); clear n0 n1 n2 n3 n4 n5 hB; obtain ⟨n0, n1, n2, n3, n4, n5⟩ := lay6z XA.out) | (go_at_call 50; refine (HI.out kids (by have := HT.out.1; simp [Fo.nodes] at this; omega) _ A5 c5 b5 o5 lo hi hkn.1 H5.out.2.2 (Nat.le_trans hh BW.out.size) H5.out.2.1 (H5.out.1.but H5.out.2.1 (But.of_below (C := No) BW.out) hh (fun _ h => h.elim))).mono ?_; rintro e w3 ⟨rfl, hB⟩; rw [HZ.out]; have BW := Lib.hid (BW.out.trans (hB.mono BW.out.size)); clear hB))
              go_ret
              exact ⟨by rw [HT.out.2.2, anyF, HD.out, HZ.out]; rfl, BW.out⟩
            | false =>
              have HZ := Lib.hid hz
              clear hz
              go_wp2_with (first | (go_at_call 94; refine (l08Harm_any ⟨1, xs, xn, xt, xa⟩ HN.out.1 _ A4 A5 c4 kids.len c5 b4 o4 lo hi H4.out.2 (Nat.le_trans hh BW.out.size) (H4.out.1.but H4.out.2 (But.of_below (C := No) BW.out) hh (fun _ h => h.elim)) HN.out.2).mono ?_; rintro e w1 ⟨rfl, hB⟩; rw [HQ.out]; have XA := Lib.hid (XA.out.below hB (HL.out)); have HL := Lib.hid (Nat.lt_of_lt_of_le HL.out hB.size); have BW := Lib.hid (BW.out.trans (hB.mono BW.out.size)); clear n0 n1 n2 n3 n4 n5 hB; obtain ⟨n0, n1, n2, n3, n4, n5⟩ := lay6z XA.out) | (go_at_call 95; refine (l08Raw_any 1 xs xn xt _ _ _ b5 o5 lo hi _ A5 kids _ HW.out.1 HW.out.2.1 HW.out.2.2 (Nat.le_trans hh BW.out.size) H5.out.2.1 (H5.out.1.but H5.out.2.1 (But.of_below (C := No) BW.out) hh (fun _ h => h.elim))).mono ?_; rintro e w2 ⟨rfl, hB⟩; rw [HRW.out]; have XA := Lib.hid (XA.out.below hB (HL.out)); have HL := Lib.hid (Nat.lt_of_lt_of_le HL.out hB.size); have BW := Lib.hid (BW.out.trans (hB.mono BW.out.size)); clear n0 n1 n2 n3 n4 n5 hB; obtain ⟨n0, n1, n2, n3, n4, n5⟩ := lay6z XA.out) | (go_at_call 50; refine (HI.out kids (by have := HT.out.1; simp [Fo.nodes] at this; omega) _ A5 c5 b5 o5 lo hi hkn.1 H5.out.2.2 (Nat.le_trans hh BW.out.size) H5.out.2.1 (H5.out.1.but H5.out.2.1 (But.of_below (C := No) BW.out) hh (fun _ h => h.elim))).mono ?_; rintro e w3 ⟨rfl, hB⟩; rw [HZ.out]; have BW := Lib.hid (BW.out.trans (hB.mono BW.out.size)); clear hB))
              go_roundw
              case rel => exact ⟨k + 1, r, by go_num, by simp [Fo.len] at hk; omega, Lib.hid ⟨by rw [show o + (k + 1) * 6 = o + k * 6 + 6 by omega]; exact HR.out.1, BW.out, by have := HT.out.1; simp [Fo.nodes] at this; omega, hkn.2, by rw [HT.out.2.2, anyF, HD.out, HZ.out]; rfl, HR.out.2⟩⟩
              case measure => simp [intOf]; omega
      · have XA : Hid (Lay (wr.alloc (.cells #[.int .i64 2, .int .i64 xs, .string xn, .string xt, .slice A4 xa.length c4, .slice A5 kids.len c5] 71)) wr.heap.size #[.int .i64 2, .int .i64 xs, .string xn, .string xt, .slice A4 xa.length c4, .slice A5 kids.len c5]) := Lib.hid (HX.out wr 2)
        have HL : Hid (wr.heap.size < (wr.alloc (.cells #[.int .i64 2, .int .i64 xs, .string xn, .string xt, .slice A4 xa.length c4, .slice A5 kids.len c5] 71)).heap.size) := Lib.hid (by simp)
        have BW : Hid (Below w.heap.size w (wr.alloc (.cells #[.int .i64 2, .int .i64 xs, .string xn, .string xt, .slice A4 xa.length c4, .slice A5 kids.len c5] 71))) := Lib.hid (HB.out.alloc HB.out.size _)
        obtain ⟨n0, n1, n2, n3, n4, n5⟩ := lay6z XA.out
        cases hq : harmNd ⟨2, xs, xn, xt, xa⟩ with
        | true =>
          have HQ := Lib.hid hq
          have HD : Hid (dirtyB ⟨2, xs, xn, xt, xa⟩ kids = true) := Lib.hid (by unfold dirtyB; rw [hq]; rfl)
          clear hq
          go_wp2_with (first | (go_at_call 94; refine (l08Harm_any ⟨2, xs, xn, xt, xa⟩ HN.out.1 _ A4 A5 c4 kids.len c5 b4 o4 lo hi H4.out.2 (Nat.le_trans hh BW.out.size) (H4.out.1.but H4.out.2 (But.of_below (C := No) BW.out) hh (fun _ h => h.elim)) HN.out.2).mono ?_; rintro e w1 ⟨rfl, hB⟩; rw [HQ.out]; have XA := Lib.hid (XA.out.below hB (HL.out)); have HL := Lib.hid (Nat.lt_of_lt_of_le HL.out hB.size); have BW := Lib.hid (BW.out.trans (hB.mono BW.out.size)); clear n0 n1 n2 n3 n4 n5 hB; obtain ⟨n0, n1, n2, n3, n4, n5⟩ := lay6z XA.out))
          go_ret
          exact ⟨by rw [HT.out.2.2, anyF, HD.out]; rfl, BW.out⟩
        | false =>
          have HQ := Lib.hid hq
          have HD : Hid (dirtyB ⟨2, xs, xn, xt, xa⟩ kids = false) := Lib.hid (by unfold dirtyB uncB; rw [hq, HRN.out (by decide)]; rfl)
          clear hq
          cases hz : anyF dirtyB kids with
          | true =>
            have HZ := Lib.hid hz
            clear hz
            go_wp2_with (first | (go_at_call 94; refine (l08Harm_any ⟨2, xs, xn, xt, xa⟩ HN.out.1 _ A4 A5 c4 kids.len c5 b4 o4 lo hi H4.out.2 (Nat.le_trans hh BW.out.size) (H4.out.1.but H4.out.2 (But.of_below (C := No) BW.out) hh (fun _ h => h.elim)) HN.out.2).mono ?_; rintro e w1 ⟨rfl, hB⟩; rw [HQ.out]; have XA := Lib.hid (XA.out.below hB (HL.out)); have HL := Lib.hid (Nat.lt_of_lt_of_le HL.out hB.size); have BW := Lib.hid (BW.out.trans (hB.mono BW.out.size)); clear n0 n1 n2 n3 n4 n5 hB; obtain ⟨n0, n1, n2, n3, n4, n5⟩ := lay6z XA.out) | (go_at_call 50; refine (HI.out kids (by have := HT.out.1; simp [Fo.nodes] at this; omega) _ A5 c5 b5 o5 lo hi hkn.1 H5.out.2.2 (Nat.le_trans hh BW.out.size) H5.out.2.1 (H5.out.1.but H5.out.2.1 (But.of_below (C := No) BW.out) hh (fun _ h => h.elim))).mono ?_; rintro e w3 ⟨rfl, hB⟩; rw [HZ.out]; have BW := Lib.hid (BW.out.trans (hB.mono BW.out.size)); clear hB))
            go_ret
            exact ⟨by rw [HT.out.2.2, anyF, HD.out, HZ.out]; rfl, BW.out⟩
          | false =>
            have HZ := Lib.hid hz
            clear hz
            go_wp2_with (first | (go_at_call 94; refine (l08Harm_any ⟨2, xs, xn, xt, xa⟩ HN.out.1 _ A4 A5 c4 kids.len c5 b4 o4 lo hi H4.out.2 (Nat.le_trans hh BW.out.size) (H4.out.1.but H4.out.2 (But.of_below (C := No) BW.out) hh (fun _ h => h.elim)) HN.out.2).mono ?_; rintro e w1 ⟨rfl, hB⟩; rw [HQ.out]; have XA := Lib.hid (XA.out.below hB (HL.out)); have HL := Lib.hid (Nat.lt_of_lt_of_le HL.out hB.size); have BW := Lib.hid (BW.out.trans (hB.mono BW.out.size)); clear n0 n1 n2 n3 n4 n5 hB; obtain ⟨n0, n1, n2, n3, n4, n5⟩ := lay6z XA.out) | (go_at_call 50; refine (HI.out kids (by have := HT.out.1; simp [Fo.nodes] at this; omega) _ A5 c5 b5 o5 lo hi hkn.1 H5.out.2.2 (Nat.le_trans hh BW.out.size) H5.out.2.1 (H5.out.1.but H5.out.2.1 (But.of_below (C := No) BW.out) hh (fun _ h => h.elim))).mono ?_; rintro e w3 ⟨rfl, hB⟩; rw [HZ.out]; have BW := Lib.hid (BW.out.trans (hB.mono BW.out.size)); clear hB))
            go_roundw
            case rel => exact ⟨k + 1, r, by go_num, by simp [Fo.len] at hk; omega, Lib.hid ⟨by rw [show o + (k + 1) * 6 = o + k * 6 + 6 by omega]; exact HR.out.1, BW.out, by have := HT.out.1; simp [Fo.nodes] at this; omega, hkn.2, by rw [HT.out.2.2, anyF, HD.out, HZ.out]; rfl, HR.out.2⟩⟩
            case measure => simp [intOf]; omega
      · have XA : Hid (Lay (wr.alloc (.cells #[.int .i64 3, .int .i64 xs, .string xn, .string xt, .slice A4 xa.length c4, .slice A5 kids.len c5] 71)) wr.heap.size #[.int .i64 3, .int .i64 xs, .string xn, .string xt, .slice A4 xa.length c4, .slice A5 kids.len c5]) := Lib.hid (HX.out wr 3)
        have HL : Hid (wr.heap.size < (wr.alloc (.cells #[.int .i64 3, .int .i64 xs, .string xn, .string xt, .slice A4 xa.length c4, .slice A5 kids.len c5] 71)).heap.size) := Lib.hid (by simp)
        have BW : Hid (Below w.heap.size w (wr.alloc (.cells #[.int .i64 3, .int .i64 xs, .string xn, .string xt, .slice A4 xa.length c4, .slice A5 kids.len c5] 71))) := Lib.hid (HB.out.alloc HB.out.size _)
        obtain ⟨n0, n1, n2, n3, n4, n5⟩ := lay6z XA.out
        cases hq : harmNd ⟨3, xs, xn, xt, xa⟩ with
        | true =>
          have HQ := Lib.hid hq
          have HD : Hid (dirtyB ⟨3, xs, xn, xt, xa⟩ kids = true) := Lib.hid (by unfold dirtyB; rw [hq]; rfl)
          clear hq
          go_wp2_with (first | (go_at_call 94; refine (l08Harm_any ⟨3, xs, xn, xt, xa⟩ HN.out.1 _ A4 A5 c4 kids.len c5 b4 o4 lo hi H4.out.2 (Nat.le_trans hh BW.out.size) (H4.out.1.but H4.out.2 (But.of_below (C := No) BW.out) hh (fun _ h => h.elim)) HN.out.2).mono ?_; rintro e w1 ⟨rfl, hB⟩; rw [HQ.out]; have XA := Lib.hid (XA.out.below hB (HL.out)); have HL := Lib.hid (Nat.lt_of_lt_of_le HL.out hB.size); have BW := Lib.hid (BW.out.trans (hB.mono BW.out.size)); clear n0 n1 n2 n3 n4 n5 hB; obtain ⟨n0, n1, n2, n3, n4, n5⟩ := lay6z XA.out))
          go_ret
          exact ⟨by rw [HT.out.2.2, anyF, HD.out]; rfl, BW.out⟩
        | false =>
          have HQ := Lib.hid hq
          have HTZ := Lib.hid (HTS.out rfl).2
          cases hc : commentIn xt with
          | false =>
            have HCM := Lib.hid hc
            have HD : Hid (dirtyB ⟨3, xs, xn, xt, xa⟩ kids = true) := Lib.hid (by unfold dirtyB uncB; rw [hq, HRN.out (by decide), (HTS.out rfl).1, hc]; rfl)
            clear hc hq
            go_wp2_with (first | (go_at_call 94; refine (l08Harm_any ⟨3, xs, xn, xt, xa⟩ HN.out.1 _ A4 A5 c4 kids.len c5 b4 o4 lo hi H4.out.2 (Nat.le_trans hh BW.out.size) (H4.out.1.but H4.out.2 (But.of_below (C := No) BW.out) hh (fun _ h => h.elim)) HN.out.2).mono ?_; rintro e w1 ⟨rfl, hB⟩; rw [HQ.out]; have XA := Lib.hid (XA.out.below hB (HL.out)); have HL := Lib.hid (Nat.lt_of_lt_of_le HL.out hB.size); have BW := Lib.hid (BW.out.trans (hB.mono BW.out.size)); clear n0 n1 n2 n3 n4 n5 hB; obtain ⟨n0, n1, n2, n3, n4, n5⟩ := lay6z XA.out) | (go_at_call 96; refine (l02Comment_any xt _ HTZ.out).mono ?_; rintro e w2 ⟨rfl, rfl⟩; rw [HCM.out]))
            go_ret
            exact ⟨by rw [HT.out.2.2, anyF, HD.out]; rfl, BW.out⟩
          | true =>
            have HCM := Lib.hid hc
            have HD : Hid (dirtyB ⟨3, xs, xn, xt, xa⟩ kids = false) := Lib.hid (by unfold dirtyB uncB; rw [hq, HRN.out (by decide), (HTS.out rfl).1, hc]; rfl)
            clear hc hq
            cases hz : anyF dirtyB kids with
            | true =>
              have HZ := Lib.hid hz
              clear hz
              go_wp2_with (first | (go_at_call 94; refine (l08Harm_any ⟨3, xs, xn, xt, xa⟩ HN.out.1 _ A4 A5 c4 kids.len c5 b4 o4 lo hi H4.out.2 (Nat.le_trans hh BW.out.size) (H4.out.1.but H4.out.2 (But.of_below (C := No) BW.out) hh (fun _ h => h.elim)) HN.out.2).mono ?_; rintro e w1 ⟨rfl, hB⟩; rw [HQ.out]; have XA := Lib.hid (XA.out.below hB (HL.out)); have HL := Lib.hid (Nat.lt_of_lt_of_le HL.out hB.size); have BW := Lib.hid (BW.out.trans (hB.mono BW.out.size)); clear n0 n1 n2 n3 n4 n5 hB; obtain ⟨n0, n1, n2, n3, n4, n5⟩ := lay6z XA.out) | (go_at_call 96; refine (l02Comment_any xt _ HTZ.out).mono ?_; rintro e w2 ⟨rfl, rfl⟩; rw [HCM.out]) | (go_at_call 50; refine (HI.out kids (by have := HT.out.1; simp [Fo.nodes] at this; omega) _ A5 c5 b5 o5 lo hi hkn.1 H5.out.2.2 (Nat.le_trans hh BW.out.size) H5.out.2.1 (H5.out.1.but H5.out.2.1 (But.of_below (C := No) BW.out) hh (fun _ h => h.elim))).mono ?_; rintro e w3 ⟨rfl, hB⟩; rw [HZ.out]; have BW := Lib.hid (BW.out.trans (hB.mono BW.out.size)); clear hB))
              go_ret
              exact ⟨by rw [HT.out.2.2, anyF, HD.out, HZ.out]; rfl, BW.out⟩
            | false =>
              have HZ := Lib.hid hz
              clear hz
              go_wp2_with (first | (go_at_call 94; refine (l08Harm_any ⟨3, xs, xn, xt, xa⟩ HN.out.1 _ A4 A5 c4 kids.len c5 b4 o4 lo hi H4.out.2 (Nat.le_trans hh BW.out.size) (H4.out.1.but H4.out.2 (But.of_below (C := No) BW.out) hh (fun _ h => h.elim)) HN.out.2).mono ?_; rintro e w1 ⟨rfl, hB⟩; rw [HQ.out]; have XA := Lib.hid (XA.out.below hB (HL.out)); have HL := Lib.hid (Nat.lt_of_lt_of_le HL.out hB.size); have BW := Lib.hid (BW.out.trans (hB.mono BW.out.size)); clear n0 n1 n2 n3 n4 n5 hB; obtain ⟨n0, n1, n2, n3, n4, n5⟩ := lay6z XA.out) | (go_at_call 96; refine (l02Comment_any xt _ HTZ.out).mono ?_; rintro e w2 ⟨rfl, rfl⟩; rw [HCM.out]) | (go_at_call 50; refine (HI.out kids (by have := HT.out.1; simp [Fo.nodes] at this; omega) _ A5 c5 b5 o5 lo hi hkn.1 H5.out.2.2 (Nat.le_trans hh BW.out.size) H5.out.2.1 (H5.out.1.but H5.out.2.1 (But.of_below (C := No) BW.out) hh (fun _ h => h.elim))).mono ?_; rintro e w3 ⟨rfl, hB⟩; rw [HZ.out]; have BW := Lib.hid (BW.out.trans (hB.mono BW.out.size)); clear hB))
              go_roundw
              case rel => exact ⟨k + 1, r, by go_num, by simp [Fo.len] at hk; omega, Lib.hid ⟨by rw [show o + (k + 1) * 6 = o + k * 6 + 6 by omega]; exact HR.out.1, BW.out, by have := HT.out.1; simp [Fo.nodes] at this; omega, hkn.2, by rw [HT.out.2.2, anyF, HD.out, HZ.out]; rfl, HR.out.2⟩⟩
              case measure => simp [intOf]; omega
theorem l08Clean_any (F : Fo) : CleanOK F := l08Clean_lt (F.nodes + 1) F (Nat.lt_succ_self _)
theorem good_nodes {F : Fo} (h : goodB F = true) : F.nodes ≤ 60 := by
  have : Good F := by simpa [goodB] using h
  exact this.1
theorem specClean_any (F : Fo) (w : World) (A : Option Addr) (c b o lo hi : Nat) (hd : F.nodes ≤ 1048576) (hh : hi ≤ w.heap.size) (hA : RowAt lo hi A F.len b o) (hF : FoAt w lo hi b o F) :
    Calls Tryz.prog 19 #[.slice A F.len c] w fun e w' => e = .returned (.bool (cleanB F)) ∧ Below w.heap.size w w' := by
  have hln := Fo.len_le_nodes F
  have HA := Lib.hid hA
  have HF := Lib.hid hF
  have HM := Lib.hid (show cleanB F = (goodB F && !anyF dirtyB F) from rfl)
  clear hA hF
  by_cases hl : F.len ≤ 4096
  · cases hg : goodB F with
    | true =>
      have HG := Lib.hid hg
      clear hg
      go_enter Tryz.func19, Tryz.ntmps19
      go_wp2_with (first
        | (go_at_call 49; refine (l03Tree_any F _ A c b o lo hi hd hh HA.out HF.out).mono ?_; rintro e w1 ⟨rfl, hB⟩; rw [HG.out]; have B1 := Lib.hid hB; clear hB)
        | (go_at_call 50; refine (l08Clean_any F _ A c b o lo hi (good_nodes HG.out) (good_fine HG.out) (Nat.le_trans hh B1.out.size) HA.out (HF.out.but HA.out (But.of_below (C := No) B1.out) hh (fun _ h => h.elim))).mono ?_; rintro e w2 ⟨rfl, hB⟩; have B2 := Lib.hid (B1.out.trans (hB.mono B1.out.size)); clear hB))
      go_ret
      exact ⟨ret_bool (by rw [HM.out, HG.out]; rfl), B2.out⟩
    | false =>
      have HG := Lib.hid hg
      clear hg
      go_enter Tryz.func19, Tryz.ntmps19
      go_wp2_with (go_at_call 49; refine (l03Tree_any F _ A c b o lo hi hd hh HA.out HF.out).mono ?_; rintro e w1 ⟨rfl, hB⟩; rw [HG.out]; have B1 := Lib.hid hB; clear hB)
      go_ret
      exact ⟨ret_bool (by rw [HM.out, HG.out]; rfl), B1.out⟩
  · have hl' : (F.len : Int) > 4096 := by omega
    have HG : Hid (goodB F = false) := Lib.hid (by cases h : goodB F with | false => rfl | true => exact absurd (good_len h) hl)
    go_enter Tryz.func19, Tryz.ntmps19
    go_wp2
    go_ret
    exact ⟨ret_bool (by rw [HM.out, HG.out]; rfl), Below.refl _ _⟩
end Go.Proofs.YthdkkpbhijlpaaaGreat
