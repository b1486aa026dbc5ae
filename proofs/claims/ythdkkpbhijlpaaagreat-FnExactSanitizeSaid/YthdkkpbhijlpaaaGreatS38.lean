import Derived.Test.YthdkkpbhijlpaaaGreatS37
set_option linter.unusedVariables false
namespace Go.Proofs.YthdkkpbhijlpaaaGreat
open Go.ChangeShapes Go.WideShapes Go.ChangeAt Go.RowKit Go.Deep

theorem layDrew {w : World} {g : Nat} {cs : Array Value} (h : Lay w g cs) : Lay w.drew g cs := ⟨h.1, h.2⟩
set_option maxHeartbeats 4000000 in
set_option maxRecDepth 100000 in
theorem leave_lt (X : Cf) (V : CfV) (ra : rulesB true X.al = true) (rr : rulesB false X.rm = true) (ru : rulesB false X.uw = true) : ∀ (N : Nat) (F : Fo), F.nodes < N → LeaveOK X V F := by
  intro N
  induction N with
  | zero => intro F hF; omega
  | succ N IH =>
  intro F hFN w A c b o lo hi gc gl hsf hnd hLV hA hh hFo
  have hlen := hA.1
  unfold maxLen at hlen
  have hln := Fo.len_le_nodes F
  have HA := Lib.hid hA
  have HS := Lib.hid hFo
  have HFN := Lib.hid (And.intro hFN hnd)
  have HSF := Lib.hid hsf
  have HI := Lib.hid IH
  have HLV := Lib.hid hLV
  clear hA hFo hFN hnd hsf IH hLV
  go_enter Tryz.func83, Tryz.ntmps83
  go_wp2
  go_loopw [5, 11] (fun v i wr => ∃ (k : Nat) (vv : Value) (pre suf : Fo) (bl : List Nat), vv = v ∧ i = .int .i64 (k : Int) ∧ k + suf.len = F.len ∧ Hid (pre.app suf = F ∧ GRow wr w.heap.size vv (pre.san X) bl ∧ Below w.heap.size w wr ∧ FoAt w lo hi b (o + k * 6) suf ∧ SFine suf)) (fun _ i _ => F.len - (intOf i).toNat)
  case atStart => exact ⟨0, _, .nil, F, [], rfl, rfl, by omega, Lib.hid ⟨rfl, GRow.nil _ _, Below.refl _ _, by simpa using HS.out, HSF.out⟩⟩
  case round =>
    obtain ⟨k, vv, pre, suf, bl, hvv, rfl, hk, HH⟩ := hrel
    subst hvv
    obtain ⟨hpre, hG, hB, hsuf, hfine⟩ := HH.out
    clear HH
    have HB := Lib.hid hB
    have HG := Lib.hid hG
    have HPR := Lib.hid hpre
    clear hG hpre
    cases suf with
    | nil =>
      have hkl : k = F.len := by simpa [Fo.len] using hk
      clear hk
      subst hkl
      go_wp2
      go_ret
      exact ⟨_, bl, rfl, HB.out, by have h1 := HPR.out; rw [Fo.app_nil] at h1; rw [← h1]; exact HG.out⟩
    | cons xk xs xn xt xa kids r =>
      obtain ⟨⟨⟨s0, s1, s2, s3, z2, z3⟩, ⟨A4, c4, b4, o4, s4, r4, a4⟩, ⟨A5, c5, b5, o5, s5, r5, a5⟩, sr⟩, hf1⟩ := And.intro hsuf hfine
      obtain ⟨hn1, hk1, hs1, hs2⟩ := hf1
      obtain ⟨rfl, hlo, hhi⟩ := HA.out.2 (by simp [Fo.len] at hk; omega)
      have hkl : k < F.len := by simp [Fo.len] at hk; omega
      have cell : ∀ {p : Addr} {u : Value}, p.block = b → w.cell? p = some u → wr.cell? p = some u := fun hp e => (hB.cell (by rw [hp]; show b < _; omega)).trans e
      have t0 := cell rfl s0
      have t1 := cell rfl s1
      have t2 := cell rfl s2
      have t3 := cell rfl s3
      have t4 := cell rfl s4
      have t5 := cell rfl s5
      have L1 := Lib.hid (HLV.out.next hB)
      have hs1z : (wr.alloc (.cells #[.int .i64 xk, .int .i64 xs, .string xn, .string xt, .slice A4 xa.length c4, .slice A5 kids.len c5] 71)).heap.size = wr.heap.size + 1 := by simp
      have BA : Hid (Below wr.heap.size wr ((wr.alloc (.cells #[.int .i64 xk, .int .i64 xs, .string xn, .string xt, .slice A4 xa.length c4, .slice A5 kids.len c5] 71)).alloc (.cells #[.int .i64 xs, .string xn] 114))) := Lib.hid (((Below.refl wr.heap.size wr).alloc (Nat.le_refl _) _).alloc (by simp) _)
      have LX : Hid (Lay ((wr.alloc (.cells #[.int .i64 xk, .int .i64 xs, .string xn, .string xt, .slice A4 xa.length c4, .slice A5 kids.len c5] 71)).alloc (.cells #[.int .i64 xs, .string xn] 114)) wr.heap.size #[.int .i64 xk, .int .i64 xs, .string xn, .string xt, .slice A4 xa.length c4, .slice A5 kids.len c5]) := Lib.hid ((Lay.new wr #[.int .i64 xk, .int .i64 xs, .string xn, .string xt, .slice A4 xa.length c4, .slice A5 kids.len c5] 71).below ((Below.refl _ _).alloc (Nat.le_refl _) _) (by simp))
      have LE : Hid (Lay ((wr.alloc (.cells #[.int .i64 xk, .int .i64 xs, .string xn, .string xt, .slice A4 xa.length c4, .slice A5 kids.len c5] 71)).alloc (.cells #[.int .i64 xs, .string xn] 114)) (wr.heap.size + 1) #[.int .i64 xs, .string xn]) := Lib.hid (by have := Lay.new (wr.alloc (.cells #[.int .i64 xk, .int .i64 xs, .string xn, .string xt, .slice A4 xa.length c4, .slice A5 kids.len c5] 71)) #[.int .i64 xs, .string xn] 114; rwa [hs1z] at this)
      have L2 := Lib.hid (L1.out.next BA.out)
      obtain ⟨x0, x1, x2, x3, x4, x5⟩ := lay6z LX.out
      obtain ⟨p0, p1, p2, p3, p4, p5, p6, p7, p8⟩ := lay9 L2.out.lay
      have HREL := Lib.hid (And.intro sr hs2)
      have BW := Lib.hid (hB.trans (BA.out.mono hB.size))
      have HCL : Hid ((F.nodes = pre.nodes + (kids.nodes + r.nodes + 1))) := Lib.hid (by
          rw [← HPR.out]
          have hna : ∀ P S : Fo, (P.app S).nodes = P.nodes + S.nodes := by
            intro P
            induction P with
            | nil => intro S; simp [Fo.app, Fo.nodes]
            | cons _ _ _ _ _ _ _ _ ih => intro S; simp only [Fo.app, Fo.nodes, ih S]; omega
          rw [hna]; rfl)
      clear s0 s1 s2 s3 s4 s5 hsuf hfine cell hB hs1z
      rcases hn1 with hn | hn | hn
      · obtain ⟨e3, he1⟩ := hn
        obtain rfl : xk = 1 := e3
        have HEL : Hid (0 ≤ xs ∧ xs ≤ 2 ∧ AlOK xa ∧ xt.size = 0) := Lib.hid ⟨he1.2.1, he1.2.2.1, he1.2.2.2.2, he1.2.2.2.1⟩
        clear he1
        obtain ⟨e0, e1⟩ := lay2z LE.out
        have sf := L2.out.self
        have HKN : Hid (kids.nodes < N ∧ kids.nodes ≤ 60) := Lib.hid (by have h1 := HFN.out; have h2 := HCL.out; omega)
        have HPL : Hid ((pre.san X).len ≤ 1048576) := Lib.hid (by have h1 := Fo.len_le_nodes (pre.san X); have h2 := Fo.san_nodes X pre; have h3 := HCL.out; have h4 := HFN.out.2; omega)
        have HPK : Hid ((kids.san X).len ≤ 1048576) := Lib.hid (by have h1 := Fo.len_le_nodes (kids.san X); have h2 := Fo.san_nodes X kids; have h3 := HKN.out.2; omega)
        have HLT : Hid (∀ q, (vv.ownBlock = some q ∨ q ∈ bl) → q < wr.heap.size) := Lib.hid fun q hq => by
          obtain ⟨_, ho, _, _, hb, _⟩ := HG.out
          rcases hq with hq | hq
          · exact (World.ownsRow.lt ho q hq).2
          · exact (hb q hq).2
        have eg : ∀ args w, (callFunc 83 args).run Tryz.prog w = .ok (.enter 83 args) w := fun args w => by kernel_rfl
        cases hu : unwB X xs xn with
        | true =>
          have HU := Lib.hid hu
          have HS1 : Hid ((Fo.one 1 xs xn xt xa kids).san X = kids.san X) := Lib.hid (by rw [Fo.san_one, if_neg (by decide), if_neg (by decide), if_pos hu])
          clear hu
          go_wp2_with (first | (go_at_call 86; refine (unwraps_any X V xs xn _ HEL.out.1 HEL.out.2.1 z2 L2.out.cf ru).mono ?_; rintro e w3 ⟨rfl, hB⟩; rw [HU.out]; have B3 := Lib.hid (BA.out.trans (hB.mono BA.out.size)); have L3 := Lib.hid (L2.out.next hB); have X3 := Lib.hid (LX.out.below hB (by first | (simp; done) | (simp; omega))); have E3 := Lib.hid (LE.out.below hB (by first | (simp; done) | (simp; omega))); clear x0 x1 x2 x3 x4 x5 p0 p1 p2 p3 p4 p5 p6 p7 p8 e0 e1 sf; obtain ⟨x0, x1, x2, x3, x4, x5⟩ := lay6z X3.out; obtain ⟨p0, p1, p2, p3, p4, p5, p6, p7, p8⟩ := lay9 L3.out.lay; obtain ⟨e0, e1⟩ := lay2z E3.out; have sf := L3.out.self; clear hB) | (go_at_fn 83; refine (HI.out kids HKN.out.1 w3 A5 c5 b5 o5 lo hi gc gl hs1 HKN.out.2 L3.out r5.2 (Nat.le_trans hh (Nat.le_trans HB.out.size B3.out.size)) (FoAt.below r5.2 a5 (HB.out.trans (B3.out.mono HB.out.size)) hh)).mono ?_; rintro e w4 ⟨v4, bl4, rfl, hB4, hG4⟩; have B4 := Lib.hid (B3.out.trans (hB4.mono B3.out.size)); have G4 := Lib.hid hG4; clear hB4 hG4) | (at_builtin; refine wpList_push_row rfl (.tmp 54) (.tmp 58) rfl w.heap.size w3.heap.size _ _ (pre.san X) (kids.san X) bl bl4 rfl rfl (HG.out.next B4.out) G4.out (fun q hq => Nat.lt_of_lt_of_le (HLT.out q hq) B3.out.size) (Nat.le_trans HB.out.size B4.out.size) (Nat.le_trans HB.out.size B3.out.size) HPL.out HPK.out ?_; rintro v5 w5 bl5 hG5 hB5; have G5 := Lib.hid hG5; have B5 := Lib.hid hB5; clear hG5 hB5))
          go_roundw
          case rel => exact ⟨k + 1, _, pre.app (.one 1 xs xn xt xa kids), r, bl5, rfl, by go_num, by simp [Fo.len] at hk; omega, Lib.hid ⟨by rw [← HPR.out, Fo.app_assoc]; rfl, by rw [Fo.san_app, HS1.out]; exact G5.out, (HB.out.trans (B4.out.mono HB.out.size)).trans B5.out, by rw [show o + (k + 1) * 6 = o + k * 6 + 6 by omega]; exact HREL.out.1, HREL.out.2⟩⟩
          case measure => (simp [intOf] <;> omega)
        | false =>
          have HU := Lib.hid hu
          cases he : allB X xs xn with
          | false =>
            have HE := Lib.hid he
            have HS1 : Hid ((Fo.one 1 xs xn xt xa kids).san X = .nil) := Lib.hid (by rw [Fo.san_one, if_neg (by decide), if_neg (by decide), if_neg (by rw [hu]; simp), if_neg (by rw [he]; simp)])
            clear hu he
            go_wp2_with (first | (go_at_call 86; refine (unwraps_any X V xs xn _ HEL.out.1 HEL.out.2.1 z2 L2.out.cf ru).mono ?_; rintro e w3 ⟨rfl, hB⟩; rw [HU.out]; have B3 := Lib.hid (BA.out.trans (hB.mono BA.out.size)); have L3 := Lib.hid (L2.out.next hB); have X3 := Lib.hid (LX.out.below hB (by first | (simp; done) | (simp; omega))); have E3 := Lib.hid (LE.out.below hB (by first | (simp; done) | (simp; omega))); clear x0 x1 x2 x3 x4 x5 p0 p1 p2 p3 p4 p5 p6 p7 p8 e0 e1 sf; obtain ⟨x0, x1, x2, x3, x4, x5⟩ := lay6z X3.out; obtain ⟨p0, p1, p2, p3, p4, p5, p6, p7, p8⟩ := lay9 L3.out.lay; obtain ⟨e0, e1⟩ := lay2z E3.out; have sf := L3.out.self; clear hB) | (go_at_call 87; refine (allowsElement_any X V xs xn _ HEL.out.1 HEL.out.2.1 z2 L3.out.cf ra rr ru).mono ?_; rintro e w4 ⟨rfl, hB⟩; rw [HE.out]; have B4 := Lib.hid (B3.out.trans (hB.mono B3.out.size)); have L4 := Lib.hid (L3.out.next hB); have X4 := Lib.hid (X3.out.below hB (World.block_lt_of_cell? _ ⟨wr.heap.size, 0, none⟩ x0)); have E4 := Lib.hid (E3.out.below hB (World.block_lt_of_cell? _ ⟨wr.heap.size + 1, 0, none⟩ e0)); clear x0 x1 x2 x3 x4 x5 p0 p1 p2 p3 p4 p5 p6 p7 p8 e0 e1 sf; obtain ⟨x0, x1, x2, x3, x4, x5⟩ := lay6z X4.out; obtain ⟨p0, p1, p2, p3, p4, p5, p6, p7, p8⟩ := lay9 L4.out.lay; obtain ⟨e0, e1⟩ := lay2z E4.out; have sf := L4.out.self; clear hB))
            go_roundw
            case rel => exact ⟨k + 1, _, pre.app (.one 1 xs xn xt xa kids), r, bl, rfl, by go_num, by simp [Fo.len] at hk; omega, Lib.hid ⟨by rw [← HPR.out, Fo.app_assoc]; rfl, by rw [Fo.san_app, HS1.out, Fo.app_nil]; exact HG.out.next B4.out, HB.out.trans (B4.out.mono HB.out.size), by rw [show o + (k + 1) * 6 = o + k * 6 + 6 by omega]; exact HREL.out.1, HREL.out.2⟩⟩
            case measure => (simp [intOf] <;> omega)
          | true =>
            have HE := Lib.hid he
            have HRS := Lib.hid (raw_same hk1 hs1)
            cases hr : (rawB ⟨1, xs, xn, xt, xa⟩ && kids.anyT) with
            | true =>
              have HR := Lib.hid hr
              have HS1 : Hid ((Fo.one 1 xs xn xt xa kids).san X = .nil) := Lib.hid (by rw [Fo.san_one, if_neg (by decide), if_neg (by decide), if_neg (by rw [hu]; simp), if_neg (by rw [HRS.out, hr, he]; simp)])
              clear hu he hr
              go_wp2_with (first | (go_at_call 86; refine (unwraps_any X V xs xn _ HEL.out.1 HEL.out.2.1 z2 L2.out.cf ru).mono ?_; rintro e w3 ⟨rfl, hB⟩; rw [HU.out]; have B3 := Lib.hid (BA.out.trans (hB.mono BA.out.size)); have L3 := Lib.hid (L2.out.next hB); have X3 := Lib.hid (LX.out.below hB (by first | (simp; done) | (simp; omega))); have E3 := Lib.hid (LE.out.below hB (by first | (simp; done) | (simp; omega))); clear x0 x1 x2 x3 x4 x5 p0 p1 p2 p3 p4 p5 p6 p7 p8 e0 e1 sf; obtain ⟨x0, x1, x2, x3, x4, x5⟩ := lay6z X3.out; obtain ⟨p0, p1, p2, p3, p4, p5, p6, p7, p8⟩ := lay9 L3.out.lay; obtain ⟨e0, e1⟩ := lay2z E3.out; have sf := L3.out.self; clear hB) | (go_at_call 87; refine (allowsElement_any X V xs xn _ HEL.out.1 HEL.out.2.1 z2 L3.out.cf ra rr ru).mono ?_; rintro e w4 ⟨rfl, hB⟩; rw [HE.out]; have B4 := Lib.hid (B3.out.trans (hB.mono B3.out.size)); have L4 := Lib.hid (L3.out.next hB); have X4 := Lib.hid (X3.out.below hB (World.block_lt_of_cell? _ ⟨wr.heap.size, 0, none⟩ x0)); have E4 := Lib.hid (E3.out.below hB (World.block_lt_of_cell? _ ⟨wr.heap.size + 1, 0, none⟩ e0)); clear x0 x1 x2 x3 x4 x5 p0 p1 p2 p3 p4 p5 p6 p7 p8 e0 e1 sf; obtain ⟨x0, x1, x2, x3, x4, x5⟩ := lay6z X4.out; obtain ⟨p0, p1, p2, p3, p4, p5, p6, p7, p8⟩ := lay9 L4.out.lay; obtain ⟨e0, e1⟩ := lay2z E4.out; have sf := L4.out.self; clear hB) | (go_at_call 88; refine (holdsMarkup_any ⟨1, xs, xn, xt, xa⟩ kids wr.heap.size 0 lo hi b5 o5 c5 lo hi A5 _ ⟨⟨x0, x1, x2, x3, z2, z3⟩, A4, c4, b4, o4, x4, r4, al_below r4.2 a4 (HB.out.trans (B4.out.mono HB.out.size)) hh⟩ x5 r5.2 (Nat.le_trans hh (Nat.le_trans HB.out.size B4.out.size)) (FoAt.below r5.2 a5 (HB.out.trans (B4.out.mono HB.out.size)) hh)).mono ?_; rintro e w5 ⟨rfl, hB⟩; rw [HR.out]; have B5 := Lib.hid (B4.out.trans (hB.mono B4.out.size)); have L5 := Lib.hid (L4.out.next hB); have X5 := Lib.hid (X4.out.below hB (World.block_lt_of_cell? _ ⟨wr.heap.size, 0, none⟩ x0)); have E5 := Lib.hid (E4.out.below hB (World.block_lt_of_cell? _ ⟨wr.heap.size + 1, 0, none⟩ e0)); clear x0 x1 x2 x3 x4 x5 p0 p1 p2 p3 p4 p5 p6 p7 p8 e0 e1 sf; obtain ⟨x0, x1, x2, x3, x4, x5⟩ := lay6z X5.out; obtain ⟨p0, p1, p2, p3, p4, p5, p6, p7, p8⟩ := lay9 L5.out.lay; obtain ⟨e0, e1⟩ := lay2z E5.out; have sf := L5.out.self; clear hB))
              go_roundw
              case rel => exact ⟨k + 1, _, pre.app (.one 1 xs xn xt xa kids), r, bl, rfl, by go_num, by simp [Fo.len] at hk; omega, Lib.hid ⟨by rw [← HPR.out, Fo.app_assoc]; rfl, by rw [Fo.san_app, HS1.out, Fo.app_nil]; exact HG.out.next B5.out, HB.out.trans (B5.out.mono HB.out.size), by rw [show o + (k + 1) * 6 = o + k * 6 + 6 by omega]; exact HREL.out.1, HREL.out.2⟩⟩
              case measure => (simp [intOf] <;> omega)
            | false =>
              have HR := Lib.hid hr
              have HS1 : Hid ((Fo.one 1 xs xn xt xa kids).san X = Fo.one 1 xs xn ⟨#[]⟩ (keepAl X xs xn xa) (kids.san X)) := Lib.hid (by rw [Fo.san_one, if_neg (by decide), if_neg (by decide), if_neg (by rw [hu]; simp), if_pos (by rw [HRS.out, hr, he]; rfl)])
              have HKS : Hid (∀ x ∈ keepAl X xs xn xa, x.1.size ≤ maxLen ∧ x.2.size ≤ maxLen) := Lib.hid fun x hx => by
                have := alOK_sizes HEL.out.2.2.1 x (List.mem_filter.1 hx).1
                unfold maxLen
                omega
              have notnot : ∀ al : List (ByteArray × ByteArray), al.filter (fun a => !(fun a : ByteArray × ByteArray => !attA X xs xn a.1 a.2) a) = keepAl X xs xn al := fun al => by unfold keepAl; congr 1; funext a; simp
              clear hu he hr
              go_wp2_with (first | (go_at_call 86; refine (unwraps_any X V xs xn _ HEL.out.1 HEL.out.2.1 z2 L2.out.cf ru).mono ?_; rintro e w3 ⟨rfl, hB⟩; rw [HU.out]; have B3 := Lib.hid (BA.out.trans (hB.mono BA.out.size)); have L3 := Lib.hid (L2.out.next hB); have X3 := Lib.hid (LX.out.below hB (by first | (simp; done) | (simp; omega))); have E3 := Lib.hid (LE.out.below hB (by first | (simp; done) | (simp; omega))); clear x0 x1 x2 x3 x4 x5 p0 p1 p2 p3 p4 p5 p6 p7 p8 e0 e1 sf; obtain ⟨x0, x1, x2, x3, x4, x5⟩ := lay6z X3.out; obtain ⟨p0, p1, p2, p3, p4, p5, p6, p7, p8⟩ := lay9 L3.out.lay; obtain ⟨e0, e1⟩ := lay2z E3.out; have sf := L3.out.self; clear hB) | (go_at_call 87; refine (allowsElement_any X V xs xn _ HEL.out.1 HEL.out.2.1 z2 L3.out.cf ra rr ru).mono ?_; rintro e w4 ⟨rfl, hB⟩; rw [HE.out]; have B4 := Lib.hid (B3.out.trans (hB.mono B3.out.size)); have L4 := Lib.hid (L3.out.next hB); have X4 := Lib.hid (X3.out.below hB (World.block_lt_of_cell? _ ⟨wr.heap.size, 0, none⟩ x0)); have E4 := Lib.hid (E3.out.below hB (World.block_lt_of_cell? _ ⟨wr.heap.size + 1, 0, none⟩ e0)); clear x0 x1 x2 x3 x4 x5 p0 p1 p2 p3 p4 p5 p6 p7 p8 e0 e1 sf; obtain ⟨x0, x1, x2, x3, x4, x5⟩ := lay6z X4.out; obtain ⟨p0, p1, p2, p3, p4, p5, p6, p7, p8⟩ := lay9 L4.out.lay; obtain ⟨e0, e1⟩ := lay2z E4.out; have sf := L4.out.self; clear hB) | (go_at_call 88; refine (holdsMarkup_any ⟨1, xs, xn, xt, xa⟩ kids wr.heap.size 0 lo hi b5 o5 c5 lo hi A5 _ ⟨⟨x0, x1, x2, x3, z2, z3⟩, A4, c4, b4, o4, x4, r4, al_below r4.2 a4 (HB.out.trans (B4.out.mono HB.out.size)) hh⟩ x5 r5.2 (Nat.le_trans hh (Nat.le_trans HB.out.size B4.out.size)) (FoAt.below r5.2 a5 (HB.out.trans (B4.out.mono HB.out.size)) hh)).mono ?_; rintro e w5 ⟨rfl, hB⟩; rw [HR.out]; have B5 := Lib.hid (B4.out.trans (hB.mono B4.out.size)); have L5 := Lib.hid (L4.out.next hB); have X5 := Lib.hid (X4.out.below hB (World.block_lt_of_cell? _ ⟨wr.heap.size, 0, none⟩ x0)); have E5 := Lib.hid (E4.out.below hB (World.block_lt_of_cell? _ ⟨wr.heap.size + 1, 0, none⟩ e0)); clear x0 x1 x2 x3 x4 x5 p0 p1 p2 p3 p4 p5 p6 p7 p8 e0 e1 sf; obtain ⟨x0, x1, x2, x3, x4, x5⟩ := lay6z X5.out; obtain ⟨p0, p1, p2, p3, p4, p5, p6, p7, p8⟩ := lay9 L5.out.lay; obtain ⟨e0, e1⟩ := lay2z E5.out; have sf := L5.out.self; clear hB))
              have HKM : Hid ((kids.san X).len ≤ maxLen) := Lib.hid (by have := HPK.out; unfold maxLen; omega)
              have HKL : Hid ((keepAl X xs xn xa).length ≤ maxLen) := Lib.hid (by have h1 := HEL.out.2.2.1.1; have h2 : (keepAl X xs xn xa).length ≤ xa.length := List.length_filter_le _ _; unfold maxLen; omega)
              have HXT : Hid (xt = ⟨#[]⟩) := Lib.hid (ByteArray.ext (Array.eq_empty_of_size_eq_zero HEL.out.2.2.2))
              have hgc : wr.heap.size ≠ gc := by have := L1.out.c; omega
              have hge : wr.heap.size ≠ wr.heap.size + 1 := by omega
              have xf := X5.out.2
              have B5 := Lib.hid B5.out.drew
              have X5 := Lib.hid (layDrew X5.out)
              have E5 := Lib.hid (layDrew E5.out)
              have L5 := Lib.hid (L5.out.next (Below.refl _ _).drew)
              refine wp_region_held_drew (S := (fun w' => (w'.cell? ⟨gc, 0, none⟩ = some (.bool X.ha) ∧ w'.cell? ⟨gc, 1, none⟩ = some (.bool X.hb) ∧ w'.cell? ⟨gc, 2, none⟩ = some (.slice V.a1 X.al.length V.c1) ∧ w'.cell? ⟨gc, 3, none⟩ = some (.slice V.a2 X.rm.length V.c2) ∧ w'.cell? ⟨gc, 4, none⟩ = some (.slice V.a3 X.uw.length V.c3) ∧ w'.cell? ⟨gc, 5, none⟩ = some (.slice V.a4 X.at_.length V.c4) ∧ w'.cell? ⟨gc, 6, none⟩ = some (.slice V.a5 X.dp.length V.c5) ∧ w'.cell? ⟨gc, 7, none⟩ = some (.bool X.cm) ∧ w'.cell? ⟨gc, 8, none⟩ = some (.bool X.da)) ∧ w'.cell? ⟨wr.heap.size + 1, 0, none⟩ = some (.int .i64 xs) ∧ w'.cell? ⟨wr.heap.size + 1, 1, none⟩ = some (.string xn))) (by kernel_rfl) ⟨⟨p0, p1, p2, p3, p4, p5, p6, p7, p8⟩, e0, e1⟩ (fun hHeld => ?_)
              refine wpAnyH_take (i := 0) (v := .pointer (some ⟨wr.heap.size, 4, none⟩)) rfl (by kernel_rfl) (by kernel_rfl) (by kernel_rfl) (fun _ _ _ h => h) (Or.inl ⟨by rfl, fun w hSw => by (try dsimp only at hSw); go_simp⟩) (by assumption) ?_; (try simp only [Act.put, List.setIfInBounds_toArray, List.set_cons_zero, List.set_cons_succ, List.getElem_toArray, List.getElem_cons_zero])
              refine wpAnyH_take (i := 2) (v := .agg #[.bool X.ha, .bool X.hb, .slice V.a1 X.al.length V.c1, .slice V.a2 X.rm.length V.c2, .slice V.a3 X.uw.length V.c3, .slice V.a4 X.at_.length V.c4, .slice V.a5 X.dp.length V.c5, .bool X.cm, .bool X.da]) rfl (by kernel_rfl) (by kernel_rfl) (by kernel_rfl) (fun _ _ _ h => h) (Or.inl ⟨by rfl, fun w hSw => by (try dsimp only at hSw); go_simp⟩) (by assumption) ?_; (try simp only [Act.put, List.setIfInBounds_toArray, List.set_cons_zero, List.set_cons_succ, List.getElem_toArray, List.getElem_cons_zero, List.getElem_cons_succ])
              refine wpAnyH_take (i := 3) (v := .agg #[.int .i64 xs, .string xn]) rfl (by kernel_rfl) (by kernel_rfl) (by kernel_rfl) (fun _ _ _ h => h) (Or.inl ⟨by rfl, fun w hSw => by (try dsimp only at hSw); go_simp⟩) (by assumption) ?_; (try simp only [Act.put, List.setIfInBounds_toArray, List.set_cons_zero, List.set_cons_succ, List.getElem_toArray, List.getElem_cons_zero, List.getElem_cons_succ])
              refine wpAnyH_ready (rs := [1, 4]) (by kernel_rfl) (by simp) ?_; refine AllReadyH.cons rfl (fun KK hKK => ?_) (AllReadyH.cons rfl (fun KK hKK => ?_) AllReadyH.nil)
              case' _ =>
                go_simp; refine hKK.out _ _ ⟨⟨p0, p1, p2, p3, p4, p5, p6, p7, p8⟩, e0, e1⟩ (fun hHeld => ?_); clear hKK KK; (try simp only [Act.put, List.setIfInBounds_toArray, List.set_cons_zero, List.set_cons_succ, List.getElem_toArray, List.getElem_cons_zero, List.getElem_cons_succ])
                refine wpAnyH_ready (rs := [4]) (by kernel_rfl) (by simp) ?_; refine AllReadyH.cons rfl (fun KK hKK => ?_) AllReadyH.nil
                go_simp; (go_at_call 90; refine (barsAttrOf_any X V xs xn _).mono ?_; rintro e w6 ⟨rfl, hB, hs6, lc6, le6⟩; have B6 := Lib.hid (B5.out.trans (hB.mono B5.out.size)); have L6 := Lib.hid (L5.out.next hB); have X6 := Lib.hid (X5.out.below hB (World.block_lt_of_cell? _ ⟨wr.heap.size, 0, none⟩ x0)); have E6 := Lib.hid (E5.out.below hB (World.block_lt_of_cell? _ ⟨wr.heap.size + 1, 0, none⟩ e0)); clear x0 x1 x2 x3 x4 x5 p0 p1 p2 p3 p4 p5 p6 p7 p8 e0 e1 sf; obtain ⟨x0, x1, x2, x3, x4, x5⟩ := lay6z X6.out; obtain ⟨p0, p1, p2, p3, p4, p5, p6, p7, p8⟩ := lay9 L6.out.lay; obtain ⟨e0, e1⟩ := lay2z E6.out; have sf := L6.out.self; clear hB; have AF6 := Lib.hid (bars_fn X V xs xn w5.heap.size (w5.heap.size + 1) w6 (Nat.lt_of_succ_lt hs6) hs6 lc6 le6 L6.out.cf HEL.out.1 HEL.out.2.1 z2 ra); clear hs6 lc6 le6; have xf := X6.out.2); (try go_wp2_with fail); refine hKK.out _ _ ⟨⟨p0, p1, p2, p3, p4, p5, p6, p7, p8⟩, e0, e1⟩ (fun hHeld => ?_); clear hKK KK; (try simp only [Act.put, List.setIfInBounds_toArray, List.set_cons_zero, List.set_cons_succ, List.getElem_toArray, List.getElem_cons_zero, List.getElem_cons_succ])
              rotate_left
              case' _ =>
                go_simp; (go_at_call 90; refine (barsAttrOf_any X V xs xn _).mono ?_; rintro e w6 ⟨rfl, hB, hs6, lc6, le6⟩; have B6 := Lib.hid (B5.out.trans (hB.mono B5.out.size)); have L6 := Lib.hid (L5.out.next hB); have X6 := Lib.hid (X5.out.below hB (World.block_lt_of_cell? _ ⟨wr.heap.size, 0, none⟩ x0)); have E6 := Lib.hid (E5.out.below hB (World.block_lt_of_cell? _ ⟨wr.heap.size + 1, 0, none⟩ e0)); clear x0 x1 x2 x3 x4 x5 p0 p1 p2 p3 p4 p5 p6 p7 p8 e0 e1 sf; obtain ⟨x0, x1, x2, x3, x4, x5⟩ := lay6z X6.out; obtain ⟨p0, p1, p2, p3, p4, p5, p6, p7, p8⟩ := lay9 L6.out.lay; obtain ⟨e0, e1⟩ := lay2z E6.out; have sf := L6.out.self; clear hB; have AF6 := Lib.hid (bars_fn X V xs xn w5.heap.size (w5.heap.size + 1) w6 (Nat.lt_of_succ_lt hs6) hs6 lc6 le6 L6.out.cf HEL.out.1 HEL.out.2.1 z2 ra); clear hs6 lc6 le6; have xf := X6.out.2); (try go_wp2_with fail); refine hKK.out _ _ ⟨⟨p0, p1, p2, p3, p4, p5, p6, p7, p8⟩, e0, e1⟩ (fun hHeld => ?_); clear hKK KK; (try simp only [Act.put, List.setIfInBounds_toArray, List.set_cons_zero, List.set_cons_succ, List.getElem_toArray, List.getElem_cons_zero, List.getElem_cons_succ])
                refine wpAnyH_ready (rs := [1]) (by kernel_rfl) (by simp) ?_; refine AllReadyH.cons rfl (fun KK hKK => ?_) AllReadyH.nil
                go_simp; refine hKK.out _ _ ⟨⟨p0, p1, p2, p3, p4, p5, p6, p7, p8⟩, e0, e1⟩ (fun hHeld => ?_); clear hKK KK; (try simp only [Act.put, List.setIfInBounds_toArray, List.set_cons_zero, List.set_cons_succ, List.getElem_toArray, List.getElem_cons_zero, List.getElem_cons_succ])
              rotate_left
              all_goals
                refine wpAnyH_ready (rs := [5]) (by kernel_rfl) (by simp) ?_; refine AllReadyH.cons rfl (fun KK hKK => ?_) AllReadyH.nil
                go_simp; (go_at_call 89; refine (atWithout_any 146 #[] #[.pointer (some ⟨w5.heap.size, 0, none⟩), .pointer (some ⟨w5.heap.size + 1, 0, none⟩)] (fun a => !attA X xs xn a.1 a.2) (fun args w => by kernel_rfl) xa w6 A4 c4 b4 o4 lo hi r4.2 (Nat.le_trans hh (Nat.le_trans HB.out.size B6.out.size)) (al_below r4.2 a4 (HB.out.trans (B6.out.mono HB.out.size)) hh) (by have := HEL.out.2.2.1.1; omega) AF6.out).mono ?_; rintro e w7 ⟨v7, rfl, hO7, hB⟩; rw [notnot] at hO7; obtain ⟨A7, c7, ba7, rfl, k1, k2, k3, k4, _⟩ := arow_form hO7 HKS.out; have B7 := Lib.hid (B6.out.trans (hB.mono B6.out.size)); have L7 := Lib.hid (L6.out.next hB); have X7 := Lib.hid (X6.out.below hB (World.block_lt_of_cell? _ ⟨wr.heap.size, 0, none⟩ x0)); have E7 := Lib.hid (E6.out.below hB (World.block_lt_of_cell? _ ⟨wr.heap.size + 1, 0, none⟩ e0)); clear x0 x1 x2 x3 x4 x5 p0 p1 p2 p3 p4 p5 p6 p7 p8 e0 e1 sf; obtain ⟨x0, x1, x2, x3, x4, x5⟩ := lay6z X7.out; obtain ⟨p0, p1, p2, p3, p4, p5, p6, p7, p8⟩ := lay9 L7.out.lay; obtain ⟨e0, e1⟩ := lay2z E7.out; have sf := L7.out.self; clear hB; have O7 := Lib.hid (And.intro k1 (And.intro k2 (And.intro k3 k4))); clear hO7 k1 k2 k3 k4; have xf := X7.out.2); (try go_wp2_with fail); refine hKK.out _ _ ⟨⟨p0, p1, p2, p3, p4, p5, p6, p7, p8⟩, e0, e1⟩ (fun hHeld => ?_); clear hKK KK; (try simp only [Act.put, List.setIfInBounds_toArray, List.set_cons_zero, List.set_cons_succ, List.getElem_toArray, List.getElem_cons_zero, List.getElem_cons_succ])
                refine wpAnyH_take (i := 6) (v := .pointer (some ⟨wr.heap.size, 4, none⟩)) rfl (by kernel_rfl) (by kernel_rfl) (by kernel_rfl) (fun _ _ _ h => h) (Or.inl ⟨by rfl, fun w hSw => by (try dsimp only at hSw); go_simp⟩) (by assumption) ?_; (try simp only [Act.put, List.setIfInBounds_toArray, List.set_cons_zero, List.set_cons_succ, List.getElem_toArray, List.getElem_cons_zero, List.getElem_cons_succ])
                refine wpAnyH_ready (rs := [7]) (by kernel_rfl) (by simp) ?_; refine AllReadyH.cons rfl (fun KK hKK => ?_) AllReadyH.nil
                go_simp; refine hKK.out _ _ (by simpa [World.cell?_setCell_far, hgc] using ⟨⟨p0, p1, p2, p3, p4, p5, p6, p7, p8⟩, e0, e1⟩) (fun hHeld => ?_); clear hKK KK; (try simp only [Act.put, List.setIfInBounds_toArray, List.set_cons_zero, List.set_cons_succ, List.getElem_toArray, List.getElem_cons_zero, List.getElem_cons_succ])
                refine wpAnyH_done (by kernel_rfl) ?_ _
                have X8 : Hid (Lay (w7.setCell ⟨wr.heap.size, 4, none⟩ (.slice A7 (keepAl X xs xn xa).length c7)) wr.heap.size #[.int .i64 1, .int .i64 xs, .string xn, .string xt, .slice A7 (keepAl X xs xn xa).length c7, .slice A5 kids.len c5]) := Lib.hid (X7.out.set 4 _)
                have B8 := Lib.hid (B7.out.setCell (p := ⟨wr.heap.size, 4, none⟩) (Nat.le_refl _) (.slice A7 (keepAl X xs xn xa).length c7))
                have h36 : wr.heap.size < w6.heap.size := World.block_lt_of_cell? _ ⟨wr.heap.size, 0, none⟩ (lay6z X6.out).1
                have O8 : Hid ((keepAl X xs xn xa).length ≤ c7 ∧ AlRow (w7.setCell ⟨wr.heap.size, 4, none⟩ (.slice A7 (keepAl X xs xn xa).length c7)) A7 (keepAl X xs xn xa) ba7 ∧ ba7.Nodup ∧ ∀ q ∈ ba7, wr.heap.size < q ∧ q < (w7.setCell ⟨wr.heap.size, 4, none⟩ (.slice A7 (keepAl X xs xn xa).length c7)).heap.size) := Lib.hid ⟨O7.out.1, O7.out.2.1.same fun q hq => Below.heap_setCell _ _ _ q (show q ≠ wr.heap.size from Nat.ne_of_gt (Nat.lt_of_lt_of_le h36 (O7.out.2.2.2 q hq).1)), O7.out.2.2.1, fun q hq => ⟨Nat.lt_of_lt_of_le h36 (O7.out.2.2.2 q hq).1, by simpa using (O7.out.2.2.2 q hq).2⟩⟩
                clear x0 x1 x2 x3 x4 x5 p0 p1 p2 p3 p4 p5 p6 p7 p8 e0 e1 sf xf
                have L8 := Lib.hid (L1.out.next B8.out)
                generalize w7.setCell ⟨wr.heap.size, 4, none⟩ (.slice A7 (keepAl X xs xn xa).length c7) = w8 at X8 B8 O8 L8 ⊢
                obtain ⟨x0, x1, x2, x3, x4, x5⟩ := lay6z X8.out
                have xf := X8.out.2
                have sf := L8.out.self
                clear X7 B7 O7 L7 E7 X6 B6 L6 E6 AF6
                have HXL : Hid (wr.heap.size < w8.heap.size) := Lib.hid (World.block_lt_of_cell? _ ⟨wr.heap.size, 0, none⟩ x0)
                go_wp2_with (first | (go_at_fn 83; refine (HI.out kids HKN.out.1 w8 A5 c5 b5 o5 lo hi gc gl hs1 HKN.out.2 L8.out r5.2 (Nat.le_trans hh (Nat.le_trans HB.out.size B8.out.size)) (FoAt.below r5.2 a5 (HB.out.trans (B8.out.mono HB.out.size)) hh)).mono ?_; rintro e w9 ⟨v9, bl9, rfl, hB9, hG9⟩; obtain ⟨K9, c9, bk9, rfl, j1, j2, j3, j4⟩ := GRow.form hG9; have B9 := Lib.hid (B8.out.trans (hB9.mono B8.out.size)); have X9 := Lib.hid (X8.out.below hB9 HXL.out); have O9 : Hid (AlRow (w9.setCell ⟨wr.heap.size, 5, none⟩ (.slice K9 (kids.san X).len c9)) A7 (keepAl X xs xn xa) ba7) := Lib.hid ((O8.out.2.1.same fun q hq => hB9.block q (O8.out.2.2.2 q hq).2).same fun q hq => Below.heap_setCell _ _ _ q (show q ≠ wr.heap.size from Nat.ne_of_gt (O8.out.2.2.2 q hq).1)); have J9 : Hid ((kids.san X).len ≤ c9 ∧ KRow (w9.setCell ⟨wr.heap.size, 5, none⟩ (.slice K9 (kids.san X).len c9)) K9 (kids.san X) bk9 ∧ bk9.Nodup ∧ ∀ q ∈ bk9, w8.heap.size ≤ q ∧ q < w9.heap.size) := Lib.hid ⟨j1, j2.same fun q hq => Below.heap_setCell _ _ _ q (show q ≠ wr.heap.size from Nat.ne_of_gt (Nat.lt_of_lt_of_le HXL.out (j4 q hq).1)), j3, j4⟩; have S9 := Lib.hid hB9.size; have B10 := Lib.hid (B9.out.setCell (p := ⟨wr.heap.size, 5, none⟩) (Nat.le_refl _) (.slice K9 (kids.san X).len c9)); have H9 : Hid ((∀ q ∈ ba7, q < (w9.setCell ⟨wr.heap.size, 5, none⟩ (.slice K9 (kids.san X).len c9)).heap.size) ∧ ∀ q ∈ bk9, q < (w9.setCell ⟨wr.heap.size, 5, none⟩ (.slice K9 (kids.san X).len c9)).heap.size) := Lib.hid ⟨fun q hq => by simpa using Nat.lt_of_lt_of_le (O8.out.2.2.2 q hq).2 hB9.size, fun q hq => by simpa using (j4 q hq).2⟩; clear x0 x1 x2 x3 x4 x5 sf xf hB9 hG9 j1 j2 j3 j4; obtain ⟨x0, x1, x2, x3, x4, x5⟩ := lay6z X9.out; have xf := X9.out.2) | (at_builtin; refine wpList_push_node rfl (.tmp 72) (.tmp 74) rfl w.heap.size w9.heap.size _ (pre.san X) bl rfl HG.out (B10.out.alloc B10.out.size _) HB.out.size HPL.out rfl 1 xs xn xt (keepAl X xs xn xa) (kids.san X) A7 K9 c7 c9 ba7 bk9 (by have h1 := cells_new (w9.setCell ⟨wr.heap.size, 5, none⟩ (.slice K9 (kids.san X).len c9)) [.int .i64 1, .int .i64 xs, .string xn, .string xt, .slice A7 (keepAl X xs xn xa).length c7, .slice K9 (kids.san X).len c9] 71; rwa [show (w9.setCell ⟨wr.heap.size, 5, none⟩ (.slice K9 (kids.san X).len c9)).heap.size = w9.heap.size by simp] at h1) ⟨z2, z3⟩ ⟨O8.out.1, HKL.out, O9.out.same fun q hq => Below.heap_alloc (w9.setCell ⟨wr.heap.size, 5, none⟩ (.slice K9 (kids.san X).len c9)) _ q (H9.out.1 q hq)⟩ ⟨J9.out.1, HKM.out, J9.out.2.1.same fun q hq => Below.heap_alloc (w9.setCell ⟨wr.heap.size, 5, none⟩ (.slice K9 (kids.san X).len c9)) _ q (H9.out.2 q hq)⟩ (List.nodup_append.2 ⟨O8.out.2.2.1, J9.out.2.2.1, fun q1 h1 q2 h2 e => by have h3 := (O8.out.2.2.2 q1 h1).2; have h4 := (J9.out.2.2.2 q2 h2).1; omega⟩) (fun q hq => by have h6 := HXL.out; rcases List.mem_append.1 hq with h1 | h1; (have h3 := H9.out.1 q h1; have h4 := (O8.out.2.2.2 q h1).1; exact ⟨by omega, by simp at h3 ⊢; omega⟩); (have h3 := H9.out.2 q h1; have h4 := (J9.out.2.2.2 q h1).1; exact ⟨by omega, by simp at h3 ⊢; omega⟩)) ?_; rintro v11 w11 bl11 hG11 hB11; have G11 := Lib.hid hG11; have B11 := Lib.hid hB11; clear hG11 hB11))
                go_roundw
                case rel => exact ⟨k + 1, _, pre.app (.one 1 xs xn xt xa kids), r, bl11, rfl, by go_num, by simp [Fo.len] at hk; omega, Lib.hid ⟨by rw [← HPR.out, Fo.app_assoc]; rfl, by have h1 := G11.out; rw [HXT.out] at h1; rw [Fo.san_app, HS1.out]; exact h1, (HB.out.trans (B10.out.alloc B10.out.size _ |>.mono HB.out.size)).trans B11.out, by rw [show o + (k + 1) * 6 = o + k * 6 + 6 by omega]; exact HREL.out.1, HREL.out.2⟩⟩
                case measure => (simp [intOf] <;> omega)
      · have hz1 : xs = 0 := hn.2.2.2.1
        have hz2 : xn = ⟨#[]⟩ := ByteArray.ext (Array.eq_empty_of_size_eq_zero hn.2.2.2.2.1)
        have hz3 : xa = [] := List.length_eq_zero_iff.1 hn.2.2.2.2.2
        have hz4 : kids = .nil := by
          have := hk1.1 (by show xk ≠ 1; have : xk = 2 := hn.1; omega)
          cases kids with
          | nil => rfl
          | cons _ _ _ _ _ _ _ => simp [Fo.len] at this
        obtain ⟨e3, -⟩ := hn
        obtain rfl : xk = 2 := e3
        have HS1 : Hid ((Fo.one 2 xs xn xt xa kids).san X = Fo.one 2 xs xn xt xa kids) := Lib.hid (by rw [Fo.san_one, if_pos rfl, hz1, hz2, hz3, hz4])
        have HCP := Lib.hid (fun W (hW : Below w.heap.size w W) => copyNode_any 2 xs xn xt xa kids (copyTree_any kids) W A4 A5 c4 c5 b4 o4 b5 o5 lo hi (by rw [hz4]; trivial) (by rw [hz4]; simp [Fo.len]) (by rw [hz3]; simp) r4.2 (al_below r4.2 a4 hW hh) r5.2 (FoAt.below r5.2 a5 hW hh) (Nat.le_trans hh hW.size))
        clear hz1 hz2 hz3 hz4
        have HPL : Hid ((pre.san X).len ≤ 1048576) := Lib.hid (by have h1 := Fo.len_le_nodes (pre.san X); have h2 := Fo.san_nodes X pre; have h3 := HCL.out; have h4 := HFN.out.2; omega)
        go_wp2_with (first | (go_at_call 85; refine (HCP.out _ (HB.out.trans (BA.out.mono HB.out.size))).mono ?_; rintro e w4 ⟨A', K', ca', ck', ba, bk, rfl, hB4, k4, k5, k6, k7⟩; have B4 := Lib.hid (BA.out.trans (hB4.mono BA.out.size)); have C4 := Lib.hid (And.intro k4 (And.intro k5 (And.intro k6 k7))); have B34 := Lib.hid hB4; clear hB4 k4 k5 k6 k7) | (at_builtin; refine wpList_push_node rfl (.tmp 49) (.tmp 52) rfl w.heap.size w4.heap.size _ (pre.san X) bl rfl (HG.out.next BA.out) (B34.out.alloc B34.out.size _) (Nat.le_trans HB.out.size BA.out.size) HPL.out rfl 2 xs xn xt xa kids A' K' ca' ck' ba bk (cells_new w4 [.int .i64 2, .int .i64 xs, .string xn, .string xt, .slice A' xa.length ca', .slice K' kids.len ck'] 71) ⟨z2, z3⟩ ⟨C4.out.1.1, C4.out.1.2.1, C4.out.1.2.2.same fun q hq => Below.heap_alloc w4 _ q (C4.out.2.2.2 q (List.mem_append_left _ hq)).2⟩ ⟨C4.out.2.1.1, C4.out.2.1.2.1, C4.out.2.1.2.2.same fun q hq => Below.heap_alloc w4 _ q (C4.out.2.2.2 q (List.mem_append_right _ hq)).2⟩ C4.out.2.2.1 (fun q hq => ⟨(C4.out.2.2.2 q hq).1, Nat.lt_of_lt_of_le (C4.out.2.2.2 q hq).2 (by simp)⟩) ?_; rintro v5 w5 bl5 hG5 hB5; have G5 := Lib.hid hG5; have B5 := Lib.hid hB5; clear hG5 hB5))
        go_roundw
        case rel => exact ⟨k + 1, _, pre.app (.one 2 xs xn xt xa kids), r, bl5, rfl, by go_num, by simp [Fo.len] at hk; omega, Lib.hid ⟨by rw [← HPR.out, Fo.app_assoc]; rfl, by rw [Fo.san_app, HS1.out]; exact G5.out, (HB.out.trans (((B4.out).alloc B4.out.size _).mono HB.out.size)).trans B5.out, by rw [show o + (k + 1) * 6 = o + k * 6 + 6 by omega]; exact HREL.out.1, HREL.out.2⟩⟩
        case measure => (simp [intOf] <;> omega)
      · have hz1 : xs = 0 := hn.2.2.1
        have hz2 : xn = ⟨#[]⟩ := ByteArray.ext (Array.eq_empty_of_size_eq_zero hn.2.2.2.1)
        have hz3 : xa = [] := List.length_eq_zero_iff.1 hn.2.2.2.2
        have hz4 : kids = .nil := by
          have := hk1.1 (by show xk ≠ 1; have : xk = 3 := hn.1; omega)
          cases kids with
          | nil => rfl
          | cons _ _ _ _ _ _ _ => simp [Fo.len] at this
        obtain ⟨e3, ht, -⟩ := hn
        obtain rfl : xk = 3 := e3
        have ht : xt.size ≤ 120 := ht
        have HCM := Lib.hid (fun W (hW : MaxAt W) => implCommentOK_any xt W hW)
        have HCB : Hid (commentB xt = commentIn xt) := Lib.hid (by unfold commentB; rw [show decide (xt.size ≤ 65536) = true by simp; omega]; rfl)
        cases hq : X.cm && commentIn xt with
        | false =>
          clear hz1 hz2 hz3 hz4
          have HS1 : Hid ((Fo.one 3 xs xn xt xa kids).san X = .nil) := Lib.hid (by rw [Fo.san_one, if_neg (by decide), if_pos rfl, hq]; rfl)
          cases hc : X.cm with
          | false =>
            rw [hc] at p7
            clear hq
            go_wp2_with fail
            go_roundw
            case rel => exact ⟨k + 1, _, pre.app (.one 3 xs xn xt xa kids), r, bl, rfl, by go_num, by simp [Fo.len] at hk; omega, Lib.hid ⟨by rw [← HPR.out, Fo.app_assoc]; rfl, by rw [Fo.san_app, HS1.out, Fo.app_nil]; exact HG.out.next BA.out, HB.out.trans (BA.out.mono HB.out.size), by rw [show o + (k + 1) * 6 = o + k * 6 + 6 by omega]; exact HREL.out.1, HREL.out.2⟩⟩
            case measure => (simp [intOf] <;> omega)
          | true =>
            rw [hc] at p7
            have HQ : Hid (commentB xt = false) := Lib.hid (by rw [HCB.out]; rw [hc] at hq; simpa using hq)
            clear hq
            go_wp2_with (go_at_call 84; refine (HCM.out _ L2.out.mx).mono ?_; rintro e w3 ⟨rfl, hB3⟩; rw [HQ.out]; have B3 := Lib.hid (BA.out.trans (hB3.mono BA.out.size)); clear hB3)
            go_roundw
            case rel => exact ⟨k + 1, _, pre.app (.one 3 xs xn xt xa kids), r, bl, rfl, by go_num, by simp [Fo.len] at hk; omega, Lib.hid ⟨by rw [← HPR.out, Fo.app_assoc]; rfl, by rw [Fo.san_app, HS1.out, Fo.app_nil]; exact HG.out.next B3.out, HB.out.trans (B3.out.mono HB.out.size), by rw [show o + (k + 1) * 6 = o + k * 6 + 6 by omega]; exact HREL.out.1, HREL.out.2⟩⟩
            case measure => (simp [intOf] <;> omega)
        | true =>
          have hc : X.cm = true := by cases h : X.cm with | true => rfl | false => rw [h] at hq; simp at hq
          rw [hc] at p7
          have HQ : Hid (commentB xt = true) := Lib.hid (by rw [HCB.out]; rw [hc] at hq; simpa using hq)
          have HS1 : Hid ((Fo.one 3 xs xn xt xa kids).san X = Fo.one 3 xs xn xt xa kids) := Lib.hid (by rw [Fo.san_one, if_neg (by decide), if_pos rfl, hq, if_pos rfl, hz1, hz2, hz3, hz4])
          have HCP := Lib.hid (fun W (hW : Below w.heap.size w W) => copyNode_any 3 xs xn xt xa kids (copyTree_any kids) W A4 A5 c4 c5 b4 o4 b5 o5 lo hi (by rw [hz4]; trivial) (by rw [hz4]; simp [Fo.len]) (by rw [hz3]; simp) r4.2 (al_below r4.2 a4 hW hh) r5.2 (FoAt.below r5.2 a5 hW hh) (Nat.le_trans hh hW.size))
          clear hq hz1 hz2 hz3 hz4
          have HPL : Hid ((pre.san X).len ≤ 1048576) := Lib.hid (by have h1 := Fo.len_le_nodes (pre.san X); have h2 := Fo.san_nodes X pre; have h3 := HCL.out; have h4 := HFN.out.2; omega)
          go_wp2_with (first | (go_at_call 84; refine (HCM.out _ L2.out.mx).mono ?_; rintro e w3 ⟨rfl, hB3⟩; rw [HQ.out]; have B3 := Lib.hid (BA.out.trans (hB3.mono BA.out.size)); have X3 := LX.out.below hB3 (by simp; omega); obtain ⟨y0, y1, y2, y3, y4, y5⟩ := lay6z X3; clear X3 hB3) | (go_at_call 85; refine (HCP.out w3 (HB.out.trans (B3.out.mono HB.out.size))).mono ?_; rintro e w4 ⟨A', K', ca', ck', ba, bk, rfl, hB4, k4, k5, k6, k7⟩; have B4 := Lib.hid (B3.out.trans (hB4.mono B3.out.size)); have C4 := Lib.hid (And.intro k4 (And.intro k5 (And.intro k6 k7))); have B34 := Lib.hid hB4; clear hB4 k4 k5 k6 k7) | (at_builtin; refine wpList_push_node rfl (.tmp 49) (.tmp 52) rfl w.heap.size w4.heap.size _ (pre.san X) bl rfl (HG.out.next B3.out) (B34.out.alloc B34.out.size _) (Nat.le_trans HB.out.size B3.out.size) HPL.out rfl 3 xs xn xt xa kids A' K' ca' ck' ba bk (cells_new w4 [.int .i64 3, .int .i64 xs, .string xn, .string xt, .slice A' xa.length ca', .slice K' kids.len ck'] 71) ⟨z2, z3⟩ ⟨C4.out.1.1, C4.out.1.2.1, C4.out.1.2.2.same fun q hq => Below.heap_alloc w4 _ q (C4.out.2.2.2 q (List.mem_append_left _ hq)).2⟩ ⟨C4.out.2.1.1, C4.out.2.1.2.1, C4.out.2.1.2.2.same fun q hq => Below.heap_alloc w4 _ q (C4.out.2.2.2 q (List.mem_append_right _ hq)).2⟩ C4.out.2.2.1 (fun q hq => ⟨(C4.out.2.2.2 q hq).1, Nat.lt_of_lt_of_le (C4.out.2.2.2 q hq).2 (by simp)⟩) ?_; rintro v5 w5 bl5 hG5 hB5; have G5 := Lib.hid hG5; have B5 := Lib.hid hB5; clear hG5 hB5))
          go_roundw
          case rel => exact ⟨k + 1, _, pre.app (.one 3 xs xn xt xa kids), r, bl5, rfl, by go_num, by simp [Fo.len] at hk; omega, Lib.hid ⟨by rw [← HPR.out, Fo.app_assoc]; rfl, by rw [Fo.san_app, HS1.out]; exact G5.out, (HB.out.trans (((B4.out).alloc B4.out.size _).mono HB.out.size)).trans B5.out, by rw [show o + (k + 1) * 6 = o + k * 6 + 6 by omega]; exact HREL.out.1, HREL.out.2⟩⟩
          case measure => (simp [intOf] <;> omega)
end Go.Proofs.YthdkkpbhijlpaaaGreat
