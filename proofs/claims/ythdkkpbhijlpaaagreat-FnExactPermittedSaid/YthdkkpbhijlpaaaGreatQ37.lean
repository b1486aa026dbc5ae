import Derived.Test.YthdkkpbhijlpaaaGreatQ36
set_option linter.unusedVariables false
namespace Go.Proofs.YthdkkpbhijlpaaaGreat
open Go.ChangeShapes Go.WideShapes Go.ChangeAt Go.RowKit Go.Deep
theorem slicesEqual_any (al al' : List (ByteArray × ByteArray)) (w : World) (A A' : Option Addr) (c c' b b' o o' lo hi lo' hi' : Nat) (hA : RowAt lo hi A al.length b o) (hA' : RowAt lo' hi' A' al'.length b' o') (hh : hi ≤ w.heap.size) (hh' : hi' ≤ w.heap.size)
    (hal : AsAt w b o al) (hal' : AsAt w b' o' al') :
    Calls Tryz.prog 161 #[.slice A al.length c, .slice A' al'.length c'] w fun e w' => e = .returned (.bool (alEq al al')) ∧ Below w.heap.size w w' := by
  have hlen := hA.1
  have hlen' := hA'.1
  unfold maxLen at hlen hlen'
  have HA := Lib.hid hA
  have HS := Lib.hid hal
  have HA' := Lib.hid hA'
  have HS' := Lib.hid hal'
  clear hA hal hA' hal'
  by_cases hl : al.length = al'.length
  · have HL := Lib.hid hl
    have hl2 : ((al.length : Int) != (al'.length : Int)) = false := by simp; omega
    clear hl
    go_enter Tryz.func161, Tryz.ntmps161
    go_wp2
    go_loopw [13] (fun i wr => ∃ (k : Nat) (suf suf' : List (ByteArray × ByteArray)), i = .int .i64 (k : Int) ∧ k + suf.length = al.length ∧ Hid (AsAt w b (o + k * 2) suf ∧ AsAt w b' (o' + k * 2) suf' ∧ suf.length = suf'.length ∧ alEq al al' = alEq suf suf' ∧ Below w.heap.size w wr)) (fun i wr => al.length - (intOf i).toNat)
    case atStart => exact ⟨0, al, al', rfl, by omega, Lib.hid ⟨by simpa using HS.out, by simpa using HS'.out, HL.out, rfl, Below.refl _ _⟩⟩
    case round =>
      obtain ⟨k, suf, suf', rfl, hk, HH⟩ := hrel
      cases suf with
      | nil =>
        cases suf' with
        | cons _ _ => have := HH.out.2.2.1; simp at this
        | nil =>
          have hkl : k = al.length := by simpa using hk
          clear hk
          subst hkl
          go_wp2
          go_ret
          exact ⟨by rw [HH.out.2.2.2.1]; rfl, HH.out.2.2.2.2⟩
      | cons x r =>
        cases suf' with
        | nil => have := HH.out.2.2.1; simp at this
        | cons y s =>
          obtain ⟨⟨s1, s2, s3, s4, s5⟩, ⟨s1', s2', s3', s4', s5'⟩, hls, he, hB⟩ := HH.out
          have hkl : k < al.length := by simp at hk; omega
          have hkl' : k < al'.length := by have := HL.out; omega
          obtain ⟨rfl, hlo, hhi⟩ := HA.out.2 (by omega)
          obtain ⟨rfl, hlo', hhi'⟩ := HA'.out.2 (by omega)
          have t1 := (hB.cell (p := ⟨b, o + k * 2, none⟩) (by show b < _; omega)).trans s1
          have t2 := (hB.cell (p := ⟨b, o + k * 2 + 1, none⟩) (by show b < _; omega)).trans s2
          have t1' := (hB.cell (p := ⟨b', o' + k * 2, none⟩) (by show b' < _; omega)).trans s1'
          have t2' := (hB.cell (p := ⟨b', o' + k * 2 + 1, none⟩) (by show b' < _; omega)).trans s2'
          have H5 := Lib.hid (And.intro s5 s5')
          have HB := Lib.hid hB
          have HE := Lib.hid (And.intro hls he)
          simp at hk
          have hnq := neq_attr x y
          clear HH s1 s2 s5 s1' s2' s5' hB hls he
          have hl3 : (k : Int) < (al'.length : Int) := by omega
          cases hq : attrEq x y with
          | true =>
            rw [hq] at hnq
            have HQ := Lib.hid hq
            clear hq
            go_wp2
            go_quiet (fail)
            go_wp2
            go_roundw
            case rel => exact ⟨k + 1, r, s, by go_num, by omega, Lib.hid ⟨by rw [show o + (k + 1) * 2 = o + k * 2 + 2 by omega]; exact H5.out.1, by rw [show o' + (k + 1) * 2 = o' + k * 2 + 2 by omega]; exact H5.out.2, by have := HE.out.1; simpa using this, by rw [HE.out.2, alEq, HQ.out]; rfl, below_drewN HB.out _⟩⟩
            case measure => simp [intOf]; omega
          | false =>
            rw [hq] at hnq
            have HQ := Lib.hid hq
            clear hq
            go_wp2
            go_quiet (fail)
            go_wp2
            go_ret
            exact ⟨by rw [HE.out.2, alEq, HQ.out]; rfl, below_drewN HB.out _⟩
  · have HL := Lib.hid hl
    have hl2 : ((al.length : Int) != (al'.length : Int)) = true := by simp; omega
    clear hl
    go_enter Tryz.func161, Tryz.ntmps161
    go_wp2
    go_ret
    exact ⟨by rw [alEq_len HL.out]; rfl, Below.refl _ _⟩
def nodeEq (k sp : Int) (n t : ByteArray) (al : List (ByteArray × ByteArray)) (kids : Fo) (k' sp' : Int) (n' t' : ByteArray) (al' : List (ByteArray × ByteArray)) (kids' : Fo) : Bool :=
  (k == k') && (sp == sp') && (n.toList == n'.toList) && (t.toList == t'.toList) && alEq al al' && foEq kids kids'
def EqFOK (F : Fo) : Prop := ∀ (G : Fo) (w : World) (A A' : Option Addr) (c c' b b' o o' lo hi lo' hi' : Nat), RowAt lo hi A F.len b o → RowAt lo' hi' A' G.len b' o' → hi ≤ w.heap.size → hi' ≤ w.heap.size → FoAt w lo hi b o F → FoAt w lo' hi' b' o' G →
    Calls Tryz.prog 101 #[.slice A F.len c, .slice A' G.len c', Value.func (.func 102) #[] #[]] w fun e w' => e = .returned (.bool (foEq F G)) ∧ Below w.heap.size w w'
set_option maxHeartbeats 2000000 in
theorem sameNode_any (k sp : Int) (n t : ByteArray) (al : List (ByteArray × ByteArray)) (kids : Fo) (ih : EqFOK kids) (k' sp' : Int) (n' t' : ByteArray) (al' : List (ByteArray × ByteArray)) (kids' : Fo) (w : World) (A K A' K' : Option Addr) (c kc c' kc' b o kb ko b' o' kb' ko' lo hi lo' hi' : Nat)
    (hA : RowAt lo hi A al.length b o) (hal : AsAt w b o al) (hK : RowAt lo hi K kids.len kb ko) (hk : FoAt w lo hi kb ko kids) (hh : hi ≤ w.heap.size)
    (hA' : RowAt lo' hi' A' al'.length b' o') (hal' : AsAt w b' o' al') (hK' : RowAt lo' hi' K' kids'.len kb' ko') (hk' : FoAt w lo' hi' kb' ko' kids') (hh' : hi' ≤ w.heap.size) :
    Calls Tryz.prog 102 #[.agg #[.int .i64 k, .int .i64 sp, .string n, .string t, .slice A al.length c, .slice K kids.len kc], .agg #[.int .i64 k', .int .i64 sp', .string n', .string t', .slice A' al'.length c', .slice K' kids'.len kc']] w fun e w' =>
      e = .returned (.bool (nodeEq k sp n t al kids k' sp' n' t' al' kids')) ∧ Below w.heap.size w w' := by
  have HA := Lib.hid (And.intro hA hal)
  have HK := Lib.hid (And.intro hK hk)
  have HA' := Lib.hid (And.intro hA' hal')
  have HK' := Lib.hid (And.intro hK' hk')
  have HI := Lib.hid ih
  clear hA hal hK hk hA' hal' hK' hk' ih
  by_cases h1 : k = k'
  · subst h1
    by_cases h2 : sp = sp'
    · subst h2
      cases h3 : n.toList == n'.toList with
      | true =>
        cases h4 : t.toList == t'.toList with
        | true =>
          cases h5 : alEq al al' with
          | true =>
            have H5 := Lib.hid h5
            have HE := Lib.hid (show nodeEq k sp n t al kids k sp n' t' al' kids' = foEq kids kids' by simp [nodeEq, h3, h4, h5])
            clear h5
            go_enter Tryz.func102, Tryz.ntmps102
            go_wp2_with (first | (go_at_call 161; refine (slicesEqual_any al al' _ A A' c c' b b' o o' lo hi lo' hi' HA.out.1 HA'.out.1 ?p1 ?p2 ?p3 ?p4).mono ?p5; (case p1 => (simp; omega)); (case p2 => (simp; omega)); (case p3 => exact HA.out.2.but HA.out.1 (((But.refl No w).alloc _).alloc _) hh (fun _ h => h.elim)); (case p4 => exact HA'.out.2.but HA'.out.1 (((But.refl No w).alloc _).alloc _) hh' (fun _ h => h.elim)); rintro e w1 ⟨rfl, hB1⟩; rw [H5.out]; simp only [World.size_alloc] at hB1; obtain ⟨L1, L2, B3⟩ := two_lay hB1; have r5 := L1.1 5; have r5' := L2.1 5; have KB := Lib.hid B3; simp at r5 r5'; clear L1 L2 B3 hB1) | (go_at_call 101; go_loud (refine (HI.out kids' _ K K' kc kc' kb kb' ko ko' lo hi lo' hi' HK.out.1 HK'.out.1 (Nat.le_trans hh KB.out.size) (Nat.le_trans hh' KB.out.size) (HK.out.2.but HK.out.1 (But.of_below (C := No) KB.out) hh (fun _ h => h.elim)) (HK'.out.2.but HK'.out.1 (But.of_below (C := No) KB.out) hh' (fun _ h => h.elim))).mono ?_; rintro e w2 ⟨rfl, hB2⟩; have KB2 := Lib.hid (KB.out.trans (hB2.mono KB.out.size)); clear hB2)))
            go_ret
            exact ⟨by rw [HE.out]; rfl, KB2.out⟩
          | false =>
            have H5 := Lib.hid h5
            have HE := Lib.hid (show nodeEq k sp n t al kids k sp n' t' al' kids' = false by simp [nodeEq, h5])
            clear h5
            go_enter Tryz.func102, Tryz.ntmps102
            go_wp2_with (go_at_call 161; refine (slicesEqual_any al al' _ A A' c c' b b' o o' lo hi lo' hi' HA.out.1 HA'.out.1 ?r1 ?r2 ?r3 ?r4).mono ?r5; (case r1 => (simp; omega)); (case r2 => (simp; omega)); (case r3 => exact HA.out.2.but HA.out.1 (((But.refl No w).alloc _).alloc _) hh (fun _ h => h.elim)); (case r4 => exact HA'.out.2.but HA'.out.1 (((But.refl No w).alloc _).alloc _) hh' (fun _ h => h.elim)); rintro e w1 ⟨rfl, hB1⟩; rw [H5.out]; simp only [World.size_alloc] at hB1; obtain ⟨L1, L2, B3⟩ := two_lay hB1; have r5 := L1.1 5; have r5' := L2.1 5; have KB := Lib.hid B3; simp at r5 r5'; clear L1 L2 B3 hB1)
            go_ret
            exact ⟨by rw [HE.out]; rfl, KB.out⟩
        | false =>
          have HE := Lib.hid (show nodeEq k sp n t al kids k sp n' t' al' kids' = false by simp [nodeEq, h4])
          go_enter Tryz.func102, Tryz.ntmps102
          go_wp2
          go_ret
          exact ⟨by rw [HE.out]; rfl, by go_grown⟩
      | false =>
        have HE := Lib.hid (show nodeEq k sp n t al kids k sp n' t' al' kids' = false by simp [nodeEq, h3])
        go_enter Tryz.func102, Tryz.ntmps102
        go_wp2
        go_ret
        exact ⟨by rw [HE.out]; rfl, by go_grown⟩
    · have h2' : (sp == sp') = false := by simpa using h2
      have HE := Lib.hid (show nodeEq k sp n t al kids k sp' n' t' al' kids' = false by simp [nodeEq, h2])
      clear h2
      go_enter Tryz.func102, Tryz.ntmps102
      go_wp2
      go_ret
      exact ⟨by rw [HE.out]; rfl, by go_grown⟩
  · have h1' : (k == k') = false := by simpa using h1
    have HE := Lib.hid (show nodeEq k sp n t al kids k' sp' n' t' al' kids' = false by simp [nodeEq, h1])
    clear h1
    go_enter Tryz.func102, Tryz.ntmps102
    go_wp2
    go_ret
    exact ⟨by rw [HE.out]; rfl, by go_grown⟩
set_option maxHeartbeats 2000000 in
theorem equalFunc_lt : ∀ (N : Nat) (F : Fo), F.nodes < N → EqFOK F := by
  intro N
  induction N with
  | zero => intro F hF; omega
  | succ N IH =>
  intro F hF G w A A' c c' b b' o o' lo hi lo' hi' hA hA' hh hh' hFo hFo'
  have hlen := hA.1
  have hlen' := hA'.1
  unfold maxLen at hlen hlen'
  have HA := Lib.hid hA
  have HS := Lib.hid hFo
  have HA' := Lib.hid hA'
  have HS' := Lib.hid hFo'
  have HF := Lib.hid hF
  have HI := Lib.hid IH
  clear hA hFo hF IH hA' hFo'
  by_cases hl : F.len = G.len
  · have HL := Lib.hid hl
    have hl2 : ((F.len : Int) != (G.len : Int)) = false := by simp; omega
    clear hl
    go_enter Tryz.func101, Tryz.ntmps101
    go_wp2
    go_loopw [17] (fun i wr => ∃ (k : Nat) (suf suf' : Fo), i = .int .i64 (k : Int) ∧ k + suf.len = F.len ∧ Hid (FoAt w lo hi b (o + k * 6) suf ∧ FoAt w lo' hi' b' (o' + k * 6) suf' ∧ suf.len = suf'.len ∧ foEq F G = foEq suf suf' ∧ Below w.heap.size w wr ∧ suf.nodes < N + 1)) (fun i wr => F.len - (intOf i).toNat)
    case atStart => exact ⟨0, F, G, rfl, by omega, Lib.hid ⟨by simpa using HS.out, by simpa using HS'.out, HL.out, rfl, Below.refl _ _, HF.out⟩⟩
    case round =>
      obtain ⟨k, suf, suf', rfl, hk, HH⟩ := hrel
      cases suf with
      | nil =>
        cases suf' with
        | cons _ _ _ _ _ _ _ => have := HH.out.2.2.1; simp [Fo.len] at this
        | nil =>
          have hkl : k = F.len := by simpa [Fo.len] using hk
          clear hk
          subst hkl
          go_wp2
          go_ret
          exact ⟨by rw [HH.out.2.2.2.1]; rfl, HH.out.2.2.2.2.1⟩
      | cons xk xs xn xt xa kids r =>
        cases suf' with
        | nil => have := HH.out.2.2.1; simp [Fo.len] at this
        | cons yk ys yn yt ya ykids s =>
          have hkl : k < F.len := by simp [Fo.len] at hk; omega
          have hkl' : k < G.len := by have := HL.out; omega
          obtain ⟨⟨⟨s0, s1, s2, s3, z2, z3⟩, ⟨A4, c4, b4, o4, s4, r4, a4⟩, ⟨A5, c5, b5, o5, s5, r5, a5⟩, sr⟩, ⟨⟨s0', s1', s2', s3', _, _⟩, ⟨A4', c4', b4', o4', s4', r4', a4'⟩, ⟨A5', c5', b5', o5', s5', r5', a5'⟩, sr'⟩, hls, he, hB, hnd⟩ := HH.out
          obtain ⟨rfl, hlo, hhi⟩ := HA.out.2 (by omega)
          obtain ⟨rfl, hlo', hhi'⟩ := HA'.out.2 (by omega)
          have hb : b < w.heap.size := by omega
          have hb' : b' < w.heap.size := by omega
          have hl3 : (k : Int) < (G.len : Int) := by omega
          have t0 := (hB.cell (p := ⟨b, _, none⟩) hb).trans s0
          have t1 := (hB.cell (p := ⟨b, _, none⟩) hb).trans s1
          have t2 := (hB.cell (p := ⟨b, _, none⟩) hb).trans s2
          have t3 := (hB.cell (p := ⟨b, _, none⟩) hb).trans s3
          have t4 := (hB.cell (p := ⟨b, _, none⟩) hb).trans s4
          have t5 := (hB.cell (p := ⟨b, _, none⟩) hb).trans s5
          have t0' := (hB.cell (p := ⟨b', _, none⟩) hb').trans s0'
          have t1' := (hB.cell (p := ⟨b', _, none⟩) hb').trans s1'
          have t2' := (hB.cell (p := ⟨b', _, none⟩) hb').trans s2'
          have t3' := (hB.cell (p := ⟨b', _, none⟩) hb').trans s3'
          have t4' := (hB.cell (p := ⟨b', _, none⟩) hb').trans s4'
          have t5' := (hB.cell (p := ⟨b', _, none⟩) hb').trans s5'
          have HR := Lib.hid (And.intro sr sr')
          have HB := Lib.hid hB
          have H4 := Lib.hid (And.intro a4 a4')
          have H5 := Lib.hid (And.intro a5 a5')
          have R4 := Lib.hid (And.intro r4.2 r4'.2)
          have R5 := Lib.hid (And.intro r5.2 r5'.2)
          have HND := Lib.hid hnd
          have HK := Lib.hid hk
          have HE := Lib.hid (And.intro hls he)
          have hcat : foEq (.cons xk xs xn xt xa kids r) (.cons yk ys yn yt ya ykids s) = (nodeEq xk xs xn xt xa kids yk ys yn yt ya ykids && foEq r s) := rfl
          have HC := Lib.hid hcat
          clear HH s0 s1 s2 s3 s4 s5 sr s0' s1' s2' s3' s4' s5' sr' hB hnd a4 a5 r4 r5 a4' a5' r4' r5' hk hls he hcat
          have HBX := Lib.hid (show But No w ((wr.alloc (.cells #[.int .i64 xk, .int .i64 xs, .string xn, .string xt, .slice A4 xa.length c4, .slice A5 kids.len c5] 71)).alloc (.cells #[.int .i64 yk, .int .i64 ys, .string yn, .string yt, .slice A4' ya.length c4', .slice A5' ykids.len c5'] 71)) from (((But.of_below (C := No) HB.out).alloc _).alloc _))
          have hbw' : b' < wr.heap.size := Nat.lt_of_lt_of_le hb' HB.out.size
          have u0' := (((Below.refl wr.heap.size wr).alloc (Nat.le_refl _) (.cells #[.int .i64 xk, .int .i64 xs, .string xn, .string xt, .slice A4 xa.length c4, .slice A5 kids.len c5] 71)).cell (p := ⟨b', o' + k * 6, none⟩) hbw').trans t0'
          have u1' := (((Below.refl wr.heap.size wr).alloc (Nat.le_refl _) (.cells #[.int .i64 xk, .int .i64 xs, .string xn, .string xt, .slice A4 xa.length c4, .slice A5 kids.len c5] 71)).cell (p := ⟨b', o' + k * 6 + 1, none⟩) hbw').trans t1'
          have u2' := (((Below.refl wr.heap.size wr).alloc (Nat.le_refl _) (.cells #[.int .i64 xk, .int .i64 xs, .string xn, .string xt, .slice A4 xa.length c4, .slice A5 kids.len c5] 71)).cell (p := ⟨b', o' + k * 6 + 2, none⟩) hbw').trans t2'
          have u3' := (((Below.refl wr.heap.size wr).alloc (Nat.le_refl _) (.cells #[.int .i64 xk, .int .i64 xs, .string xn, .string xt, .slice A4 xa.length c4, .slice A5 kids.len c5] 71)).cell (p := ⟨b', o' + k * 6 + 3, none⟩) hbw').trans t3'
          have u4' := (((Below.refl wr.heap.size wr).alloc (Nat.le_refl _) (.cells #[.int .i64 xk, .int .i64 xs, .string xn, .string xt, .slice A4 xa.length c4, .slice A5 kids.len c5] 71)).cell (p := ⟨b', o' + k * 6 + 4, none⟩) hbw').trans t4'
          have u5' := (((Below.refl wr.heap.size wr).alloc (Nat.le_refl _) (.cells #[.int .i64 xk, .int .i64 xs, .string xn, .string xt, .slice A4 xa.length c4, .slice A5 kids.len c5] 71)).cell (p := ⟨b', o' + k * 6 + 5, none⟩) hbw').trans t5'
          cases hq : nodeEq xk xs xn xt xa kids yk ys yn yt ya ykids with
          | true =>
            have HQ := Lib.hid hq
            clear hq
            go_wp2_with (go_at_call 102; refine (sameNode_any xk xs xn xt xa kids (HI.out kids (by have := HND.out; simp [Fo.nodes] at this; omega)) yk ys yn yt ya ykids _ A4 A5 A4' A5' c4 c5 c4' c5' b4 o4 b5 o5 b4' o4' b5' o5' lo hi lo' hi' R4.out.1 (H4.out.1.but R4.out.1 HBX.out hh (fun _ h => h.elim)) R5.out.1 (H5.out.1.but R5.out.1 HBX.out hh (fun _ h => h.elim)) (Nat.le_trans hh HBX.out.size) R4.out.2 (H4.out.2.but R4.out.2 HBX.out hh' (fun _ h => h.elim)) R5.out.2 (H5.out.2.but R5.out.2 HBX.out hh' (fun _ h => h.elim)) (Nat.le_trans hh' HBX.out.size)).mono ?_; rintro e w' ⟨rfl, hB'⟩; rw [HQ.out]; have HB' := Lib.hid hB'; clear hB')
            go_roundw
            case rel => exact ⟨k + 1, r, s, by go_num, by have := HK.out; simp [Fo.len] at this; omega, Lib.hid ⟨by rw [show o + (k + 1) * 6 = o + k * 6 + 6 by omega]; exact HR.out.1, by rw [show o' + (k + 1) * 6 = o' + k * 6 + 6 by omega]; exact HR.out.2, by have := HE.out.1; simpa [Fo.len] using this, by rw [HE.out.2, HC.out, HQ.out]; rfl, (((HB.out.alloc HB.out.size _).alloc (Nat.le_trans HB.out.size (by simp)) _).trans (HB'.out.mono (Nat.le_trans HB.out.size (by simp; omega)))), by have := HND.out; simp [Fo.nodes] at this; omega⟩⟩
            case measure => simp [intOf]; omega
          | false =>
            have HQ := Lib.hid hq
            clear hq
            go_wp2_with (go_at_call 102; refine (sameNode_any xk xs xn xt xa kids (HI.out kids (by have := HND.out; simp [Fo.nodes] at this; omega)) yk ys yn yt ya ykids _ A4 A5 A4' A5' c4 c5 c4' c5' b4 o4 b5 o5 b4' o4' b5' o5' lo hi lo' hi' R4.out.1 (H4.out.1.but R4.out.1 HBX.out hh (fun _ h => h.elim)) R5.out.1 (H5.out.1.but R5.out.1 HBX.out hh (fun _ h => h.elim)) (Nat.le_trans hh HBX.out.size) R4.out.2 (H4.out.2.but R4.out.2 HBX.out hh' (fun _ h => h.elim)) R5.out.2 (H5.out.2.but R5.out.2 HBX.out hh' (fun _ h => h.elim)) (Nat.le_trans hh' HBX.out.size)).mono ?_; rintro e w' ⟨rfl, hB'⟩; rw [HQ.out]; have HB' := Lib.hid hB'; clear hB')
            go_ret
            exact ⟨by rw [HE.out.2, HC.out, HQ.out]; rfl, (((HB.out.alloc HB.out.size _).alloc (Nat.le_trans HB.out.size (by simp)) _).trans (HB'.out.mono (Nat.le_trans HB.out.size (by simp; omega))))⟩
  · have HL := Lib.hid hl
    have hl2 : ((F.len : Int) != (G.len : Int)) = true := by simp; omega
    clear hl
    go_enter Tryz.func101, Tryz.ntmps101
    go_wp2
    go_ret
    exact ⟨by rw [foEq_len HL.out]; rfl, Below.refl _ _⟩
theorem equalFunc_any (F : Fo) : EqFOK F := equalFunc_lt (F.nodes + 1) F (Nat.lt_succ_self _)
end Go.Proofs.YthdkkpbhijlpaaaGreat
