import Derived.Test.YthdkkpbhijlpaaaGreatQ26
set_option linter.unusedVariables false
namespace Go.Proofs.YthdkkpbhijlpaaaGreat
open Go.ChangeShapes Go.WideShapes Go.ChangeAt Go.RowKit Go.Deep

def Fo.under : Fo → Nat
  | .nil => 0
  | .cons _ _ _ _ _ kids rest => kids.nodes + rest.under
theorem Fo.under_len : ∀ F : Fo, F.nodes = F.len + F.under
  | .nil => rfl
  | .cons _ _ _ _ _ kids rest => by have := Fo.under_len rest; simp [Fo.nodes, Fo.len, Fo.under]; omega
open Classical in
noncomputable def goodAtB (d : Nat) (F : Fo) : Bool := decide (GoodAt d F)
theorem goodAtB_iff (d : Nat) (F : Fo) : goodAtB d F = true ↔ GoodAt d F := by simp [goodAtB]
theorem goodAtB_t {d : Nat} {F : Fo} (h : GoodAt d F) : true = goodAtB d F := ((goodAtB_iff d F).2 h).symm
theorem goodAtB_f {d : Nat} {F : Fo} (h : ¬ GoodAt d F) : false = goodAtB d F := by
  cases e : goodAtB d F with
  | false => rfl
  | true => exact absurd ((goodAtB_iff d F).1 e) h
/-- what is to be asked of those that are left, m being counted -/
def SufOK (d m : Nat) (suf : Fo) : Prop := m + suf.under ≤ 60 ∧ suf.deep ≤ d ∧ SFine suf
theorem suf_start (d : Nat) (F : Fo) : GoodAt d F ↔ SufOK d F.len F := by unfold GoodAt SufOK; rw [Fo.under_len F]
theorem suf_step {d m : Nat} {k sp : Int} {n t : ByteArray} {al : List (ByteArray × ByteArray)} {kids r : Fo} (hd : 1 ≤ d) (hp : PlainIs ⟨k, sp, n, t, al⟩ kids.len) (hh : HoldsIs ⟨k, sp, n, t, al⟩ kids) (hg : GoodAt (d - 1) kids) :
    SufOK d m (.cons k sp n t al kids r) ↔ SufOK d (m + kids.nodes) r := by
  unfold SufOK
  simp only [Fo.under, Fo.deep, SFine]
  obtain ⟨g1, g2, g3⟩ := hg
  constructor
  · rintro ⟨a, b, _, _, _, c⟩; exact ⟨by omega, by omega, c⟩
  · rintro ⟨a, b, c⟩; exact ⟨by omega, by omega, hp.1, ⟨hp.2, hh⟩, g3, c⟩
theorem suf_plain {d m : Nat} {k sp : Int} {n t : ByteArray} {al : List (ByteArray × ByteArray)} {kids r : Fo} (h : SufOK d m (.cons k sp n t al kids r)) : PlainIs ⟨k, sp, n, t, al⟩ kids.len := ⟨h.2.2.1, h.2.2.2.1.1⟩
theorem suf_holds {d m : Nat} {k sp : Int} {n t : ByteArray} {al : List (ByteArray × ByteArray)} {kids r : Fo} (h : SufOK d m (.cons k sp n t al kids r)) : HoldsIs ⟨k, sp, n, t, al⟩ kids := h.2.2.2.1.2
theorem suf_kids {d m : Nat} {k sp : Int} {n t : ByteArray} {al : List (ByteArray × ByteArray)} {kids r : Fo} (h : SufOK d m (.cons k sp n t al kids r)) : GoodAt (d - 1) kids := by
  obtain ⟨a, b, _, _, c, _⟩ := h
  simp only [Fo.under, Fo.deep] at a b
  exact ⟨by omega, by omega, c⟩
def OKRes (F : Fo) (d : Nat) (w : World) (e : Ending) (w' : World) : Prop := ∃ m : Nat, m ≤ F.nodes ∧ e = .returned (.tuple #[.int .i64 (m : Int), .bool (goodAtB d F)]) ∧ (goodAtB d F = true → m = F.nodes) ∧ Below w.heap.size w w'
def OKOK (F : Fo) : Prop := ∀ (d : Nat) (w : World) (A : Option Addr) (c b o lo hi : Nat), d ≤ 10 → F.nodes ≤ 1048576 → hi ≤ w.heap.size → RowAt lo hi A F.len b o → FoAt w lo hi b o F →
    Calls Tryz.prog 93 #[.slice A F.len c, .int .i64 (d : Int)] w (OKRes F d w)
theorem okres_f {F : Fo} {d m : Nat} {w w' : World} (hm : m ≤ F.nodes) (hg : ¬ GoodAt d F) (hB : Below w.heap.size w w') : OKRes F d w (.returned (.tuple #[.int .i64 (m : Int), .bool false])) w' :=
  ⟨m, hm, by rw [← goodAtB_f hg], fun h => absurd ((goodAtB_iff d F).1 h) hg, hB⟩
set_option maxHeartbeats 2000000 in
theorem l03OK_lt : ∀ (N : Nat) (F : Fo), F.nodes < N → OKOK F := by
  intro N
  induction N with
  | zero => intro F hF; omega
  | succ N IH =>
  intro F hF d w A c b o lo hi hd10 hnd hh hA hFo
  have hlen := hA.1
  unfold maxLen at hlen
  have hln := Fo.len_le_nodes F
  have HA := Lib.hid hA
  have HS := Lib.hid hFo
  have HF := Lib.hid hF
  have HI := Lib.hid IH
  clear hA hFo hF IH
  by_cases h60 : F.len ≤ 60
  · by_cases hl0 : F.len = 0
    · cases F with
      | cons _ _ _ _ _ _ _ => simp [Fo.len] at hl0
      | nil =>
        have hgn : GoodAt d Fo.nil := ⟨by simp [Fo.nodes], by simp [Fo.deep], (True.intro : SFine Fo.nil)⟩
        have hres : OKRes .nil d w (.returned (.tuple #[.int .i64 ((0 : Nat) : Int), .bool true])) w := ⟨0, Nat.le_refl _, by rw [← goodAtB_t hgn], fun _ => rfl, Below.refl _ _⟩
        have HR := Lib.hid hres
        have hl : Fo.nil.len = 0 := rfl
        rw [hl]
        clear hl0 hres h60 hln hlen hnd hl hgn
        by_cases hd0 : d = 0
        · subst hd0
          go_enter Tryz.func93, Tryz.ntmps93
          go_wp2
          refine wp_loop_rounds 1 ?_
          rw [rounds_succ]
          go_wp2
          go_ret2
          exact HR.out
        · have hd0' : ((d : Int) == 0) = false := by simp; omega
          go_enter Tryz.func93, Tryz.ntmps93
          go_wp2
          refine wp_loop_rounds 1 ?_
          rw [rounds_succ]
          go_wp2
          go_ret2
          exact HR.out
    · by_cases hd0 : d = 0
      · subst hd0
        go_enter Tryz.func93, Tryz.ntmps93
        go_wp2
        go_ret2
        exact okres_f hln (fun h => by have h1 := h.2.1; cases F with | nil => simp [Fo.len] at hl0 | cons _ _ _ _ _ kids r => simp [Fo.deep] at h1) (Below.refl _ _)
      · have hd0' : ((d : Int) == 0) = false := by simp; omega
        go_enter Tryz.func93, Tryz.ntmps93
        go_wp2
        go_loopw [6, 7] (fun x i wr => ∃ (k m : Nat) (suf : Fo), x = .int .i64 (m : Int) ∧ i = .int .i64 (k : Int) ∧ k + suf.len = F.len ∧ m ≤ 60 ∧ Hid (FoAt w lo hi b (o + k * 6) suf ∧ Below w.heap.size w wr ∧ suf.nodes < N + 1 ∧ suf.nodes ≤ 1048576 ∧ m + suf.under = F.nodes ∧ (GoodAt d F ↔ SufOK d m suf))) (fun x i wr => F.len - (intOf i).toNat)
        case atStart => exact ⟨0, F.len, F, rfl, rfl, by omega, h60, Lib.hid ⟨by simpa using HS.out, Below.refl _ _, HF.out, hnd, by rw [Fo.under_len F], suf_start d F⟩⟩
        case round =>
          obtain ⟨k, m, suf, rfl, rfl, hk, hm, HH⟩ := hrel
          cases suf with
          | nil =>
            have hkl : k = F.len := by simpa [Fo.len] using hk
            clear hk
            subst hkl
            obtain ⟨_, hB, _, _, hmn, hg⟩ := HH.out
            have HX := Lib.hid (show OKRes F d w (.returned (.tuple #[.int .i64 (m : Int), .bool true])) wr from ⟨m, by simp [Fo.under] at hmn; omega, by rw [← goodAtB_t (hg.2 ⟨by simp [Fo.under]; omega, by simp [Fo.deep], trivial⟩)], fun _ => by simpa [Fo.under] using hmn, hB⟩)
            clear hB hmn hg HH
            go_wp2
            go_ret2
            exact HX.out
          | cons xk xs xn xt xa kids r =>
            obtain ⟨⟨⟨s0, s1, s2, s3, z2, z3⟩, ⟨A4, c4, b4, o4, s4, r4, a4⟩, ⟨A5, c5, b5, o5, s5, r5, a5⟩, sr⟩, hB, hT1, hT2, hT3, hT4⟩ := HH.out
            obtain ⟨rfl, hlo, hhi⟩ := HA.out.2 (by omega)
            have hkl : k < F.len := by simp [Fo.len] at hk; omega
            have hb : b < w.heap.size := by omega
            have t0 := (hB.cell (p := ⟨b, _, none⟩) hb).trans s0
            have t1 := (hB.cell (p := ⟨b, _, none⟩) hb).trans s1
            have t2 := (hB.cell (p := ⟨b, _, none⟩) hb).trans s2
            have t3 := (hB.cell (p := ⟨b, _, none⟩) hb).trans s3
            have t4 := (hB.cell (p := ⟨b, _, none⟩) hb).trans s4
            have t5 := (hB.cell (p := ⟨b, _, none⟩) hb).trans s5
            have hbw : b < wr.heap.size := Nat.lt_of_lt_of_le hb hB.size
            have HB := Lib.hid hB
            have HR := Lib.hid sr
            have H4 := Lib.hid a4
            have H5 := Lib.hid a5
            have R4 := Lib.hid r4.2
            have R5 := Lib.hid r5.2
            have HT := Lib.hid (And.intro hT1 (And.intro hT3 (And.intro hT4 (And.intro True.intro hT2))))
            have hmk : m + kids.nodes ≤ F.nodes := by simp [Fo.under] at hT3; omega
            clear HH s0 s1 s2 s3 s4 s5 sr hB hT1 hT2 hT3 hT4 a4 a5 r4 r5
            cases hp : plainB ⟨xk, xs, xn, xt, xa⟩ kids.len with
            | false =>
              have HP := Lib.hid hp
              clear hp
              go_wp2_with (go_at_call 149; refine (l03Plain_any xk xs xn xt xa kids.len _ A4 A5 c4 c5 b4 o4 lo hi z2 z3 R4.out (H4.out.but R4.out (But.of_below (C := No) HB.out) hh (fun _ h => h.elim)) R5.out.1 (Nat.le_trans hh HB.out.size)).mono ?_; rintro e w1 ⟨rfl, hB1⟩; rw [HP.out]; have HL1 := Lib.hid (Nat.lt_of_lt_of_le hbw hB1.size); have u0 := (hB1.cell (p := ⟨b, _, none⟩) hbw).trans t0; have u1 := (hB1.cell (p := ⟨b, _, none⟩) hbw).trans t1; have u2 := (hB1.cell (p := ⟨b, _, none⟩) hbw).trans t2; have u3 := (hB1.cell (p := ⟨b, _, none⟩) hbw).trans t3; have u4 := (hB1.cell (p := ⟨b, _, none⟩) hbw).trans t4; have u5 := (hB1.cell (p := ⟨b, _, none⟩) hbw).trans t5; have KB1 := Lib.hid (HB.out.trans (hB1.mono HB.out.size)); clear hB1)
              go_ret2
              exact okres_f (by omega) (fun h => by have := (plainB_iff _ _).2 (suf_plain (HT.out.2.2.1.1 h)); rw [HP.out] at this; simp at this) KB1.out
            | true =>
              have HP := Lib.hid hp
              clear hp
              cases hq : holdsB ⟨xk, xs, xn, xt, xa⟩ kids with
              | false =>
                have HQ := Lib.hid hq
                clear hq
                go_wp2_with (first | (go_at_call 149; refine (l03Plain_any xk xs xn xt xa kids.len _ A4 A5 c4 c5 b4 o4 lo hi z2 z3 R4.out (H4.out.but R4.out (But.of_below (C := No) HB.out) hh (fun _ h => h.elim)) R5.out.1 (Nat.le_trans hh HB.out.size)).mono ?_; rintro e w1 ⟨rfl, hB1⟩; rw [HP.out]; have HL1 := Lib.hid (Nat.lt_of_lt_of_le hbw hB1.size); have u0 := (hB1.cell (p := ⟨b, _, none⟩) hbw).trans t0; have u1 := (hB1.cell (p := ⟨b, _, none⟩) hbw).trans t1; have u2 := (hB1.cell (p := ⟨b, _, none⟩) hbw).trans t2; have u3 := (hB1.cell (p := ⟨b, _, none⟩) hbw).trans t3; have u4 := (hB1.cell (p := ⟨b, _, none⟩) hbw).trans t4; have u5 := (hB1.cell (p := ⟨b, _, none⟩) hbw).trans t5; have KB1 := Lib.hid (HB.out.trans (hB1.mono HB.out.size)); clear hB1) | (go_at_call 150; refine (l03Holds_any xk xs xn xt xa kids _ A4 A5 c4 c5 b5 o5 lo hi R5.out (H5.out.but R5.out (But.of_below (C := No) KB1.out) hh (fun _ h => h.elim)) (Nat.le_trans hh KB1.out.size)).mono ?_; rintro e w2 ⟨rfl, hB2⟩; rw [HQ.out]; have v5 := (hB2.cell (p := ⟨b, _, none⟩) HL1.out).trans u5; have KB2 := Lib.hid (KB1.out.trans (hB2.mono KB1.out.size)); clear hB2))
                go_ret2
                exact okres_f (by omega) (fun h => by have := (holdsB_iff _ _).2 (suf_holds (HT.out.2.2.1.1 h)); rw [HQ.out] at this; simp at this) KB2.out
              | true =>
                have HQ := Lib.hid hq
                clear hq
                cases hg : goodAtB (d - 1) kids with
                | false =>
                  have HG := Lib.hid hg
                  clear hg
                  go_wp2_with (first | (go_at_call 149; refine (l03Plain_any xk xs xn xt xa kids.len _ A4 A5 c4 c5 b4 o4 lo hi z2 z3 R4.out (H4.out.but R4.out (But.of_below (C := No) HB.out) hh (fun _ h => h.elim)) R5.out.1 (Nat.le_trans hh HB.out.size)).mono ?_; rintro e w1 ⟨rfl, hB1⟩; rw [HP.out]; have HL1 := Lib.hid (Nat.lt_of_lt_of_le hbw hB1.size); have u0 := (hB1.cell (p := ⟨b, _, none⟩) hbw).trans t0; have u1 := (hB1.cell (p := ⟨b, _, none⟩) hbw).trans t1; have u2 := (hB1.cell (p := ⟨b, _, none⟩) hbw).trans t2; have u3 := (hB1.cell (p := ⟨b, _, none⟩) hbw).trans t3; have u4 := (hB1.cell (p := ⟨b, _, none⟩) hbw).trans t4; have u5 := (hB1.cell (p := ⟨b, _, none⟩) hbw).trans t5; have KB1 := Lib.hid (HB.out.trans (hB1.mono HB.out.size)); clear hB1) | (go_at_call 150; refine (l03Holds_any xk xs xn xt xa kids _ A4 A5 c4 c5 b5 o5 lo hi R5.out (H5.out.but R5.out (But.of_below (C := No) KB1.out) hh (fun _ h => h.elim)) (Nat.le_trans hh KB1.out.size)).mono ?_; rintro e w2 ⟨rfl, hB2⟩; rw [HQ.out]; have v5 := (hB2.cell (p := ⟨b, _, none⟩) HL1.out).trans u5; have KB2 := Lib.hid (KB1.out.trans (hB2.mono KB1.out.size)); clear hB2) | (go_at_call 93; rw [show ((d : Int) - 1) = ((d - 1 : Nat) : Int) by omega]; refine (HI.out kids (by have := HT.out.1; simp [Fo.nodes] at this; omega) (d - 1) _ A5 c5 b5 o5 lo hi (by omega) (by have := HT.out.2.2.2.2; simp [Fo.nodes] at this; omega) (Nat.le_trans hh KB2.out.size) R5.out (H5.out.but R5.out (But.of_below (C := No) KB2.out) hh (fun _ h => h.elim))).mono ?_; rintro e w3 ⟨km, hkm, rfl, hkg, hB3⟩; rw [HG.out]; have KB3 := Lib.hid (KB2.out.trans (hB3.mono KB2.out.size)); have HKM := Lib.hid hkg; clear hB3 hkg))
                  go_ret2
                  exact okres_f (m := m + km) (by omega) (fun h => by have := (goodAtB_iff _ _).2 (suf_kids (HT.out.2.2.1.1 h)); rw [HG.out] at this; simp at this) KB3.out
                | true =>
                  have HG := Lib.hid hg
                  clear hg
                  by_cases h6 : m + kids.nodes ≤ 60
                  · go_wp2_with (first | (go_at_call 149; refine (l03Plain_any xk xs xn xt xa kids.len _ A4 A5 c4 c5 b4 o4 lo hi z2 z3 R4.out (H4.out.but R4.out (But.of_below (C := No) HB.out) hh (fun _ h => h.elim)) R5.out.1 (Nat.le_trans hh HB.out.size)).mono ?_; rintro e w1 ⟨rfl, hB1⟩; rw [HP.out]; have HL1 := Lib.hid (Nat.lt_of_lt_of_le hbw hB1.size); have u0 := (hB1.cell (p := ⟨b, _, none⟩) hbw).trans t0; have u1 := (hB1.cell (p := ⟨b, _, none⟩) hbw).trans t1; have u2 := (hB1.cell (p := ⟨b, _, none⟩) hbw).trans t2; have u3 := (hB1.cell (p := ⟨b, _, none⟩) hbw).trans t3; have u4 := (hB1.cell (p := ⟨b, _, none⟩) hbw).trans t4; have u5 := (hB1.cell (p := ⟨b, _, none⟩) hbw).trans t5; have KB1 := Lib.hid (HB.out.trans (hB1.mono HB.out.size)); clear hB1) | (go_at_call 150; refine (l03Holds_any xk xs xn xt xa kids _ A4 A5 c4 c5 b5 o5 lo hi R5.out (H5.out.but R5.out (But.of_below (C := No) KB1.out) hh (fun _ h => h.elim)) (Nat.le_trans hh KB1.out.size)).mono ?_; rintro e w2 ⟨rfl, hB2⟩; rw [HQ.out]; have v5 := (hB2.cell (p := ⟨b, _, none⟩) HL1.out).trans u5; have KB2 := Lib.hid (KB1.out.trans (hB2.mono KB1.out.size)); clear hB2) | (go_at_call 93; rw [show ((d : Int) - 1) = ((d - 1 : Nat) : Int) by omega]; refine (HI.out kids (by have := HT.out.1; simp [Fo.nodes] at this; omega) (d - 1) _ A5 c5 b5 o5 lo hi (by omega) (by have := HT.out.2.2.2.2; simp [Fo.nodes] at this; omega) (Nat.le_trans hh KB2.out.size) R5.out (H5.out.but R5.out (But.of_below (C := No) KB2.out) hh (fun _ h => h.elim))).mono ?_; rintro e w3 ⟨km, hkm, rfl, hkg, hB3⟩; rw [HG.out]; have KB3 := Lib.hid (KB2.out.trans (hB3.mono KB2.out.size)); have hke := hkg HG.out; subst hke; clear hB3 hkg hkm))
                    go_roundw
                    case rel => exact ⟨k + 1, m + kids.nodes, r, by go_num, by go_num, by simp [Fo.len] at hk; omega, h6, Lib.hid ⟨by rw [show o + (k + 1) * 6 = o + k * 6 + 6 by omega]; exact HR.out, KB3.out, by have := HT.out.1; simp [Fo.nodes] at this; omega, by have := HT.out.2.2.2.2; simp [Fo.nodes] at this; omega, by have := HT.out.2.1; simp [Fo.under] at this; omega, HT.out.2.2.1.trans (suf_step (by omega) ((plainB_iff _ _).1 HP.out) ((holdsB_iff _ _).1 HQ.out) ((goodAtB_iff _ _).1 HG.out))⟩⟩
                    case measure => simp [intOf]; omega
                  · have h6' : (m : Int) + (kids.nodes : Int) > 60 := by omega
                    go_wp2_with (first | (go_at_call 149; refine (l03Plain_any xk xs xn xt xa kids.len _ A4 A5 c4 c5 b4 o4 lo hi z2 z3 R4.out (H4.out.but R4.out (But.of_below (C := No) HB.out) hh (fun _ h => h.elim)) R5.out.1 (Nat.le_trans hh HB.out.size)).mono ?_; rintro e w1 ⟨rfl, hB1⟩; rw [HP.out]; have HL1 := Lib.hid (Nat.lt_of_lt_of_le hbw hB1.size); have u0 := (hB1.cell (p := ⟨b, _, none⟩) hbw).trans t0; have u1 := (hB1.cell (p := ⟨b, _, none⟩) hbw).trans t1; have u2 := (hB1.cell (p := ⟨b, _, none⟩) hbw).trans t2; have u3 := (hB1.cell (p := ⟨b, _, none⟩) hbw).trans t3; have u4 := (hB1.cell (p := ⟨b, _, none⟩) hbw).trans t4; have u5 := (hB1.cell (p := ⟨b, _, none⟩) hbw).trans t5; have KB1 := Lib.hid (HB.out.trans (hB1.mono HB.out.size)); clear hB1) | (go_at_call 150; refine (l03Holds_any xk xs xn xt xa kids _ A4 A5 c4 c5 b5 o5 lo hi R5.out (H5.out.but R5.out (But.of_below (C := No) KB1.out) hh (fun _ h => h.elim)) (Nat.le_trans hh KB1.out.size)).mono ?_; rintro e w2 ⟨rfl, hB2⟩; rw [HQ.out]; have v5 := (hB2.cell (p := ⟨b, _, none⟩) HL1.out).trans u5; have KB2 := Lib.hid (KB1.out.trans (hB2.mono KB1.out.size)); clear hB2) | (go_at_call 93; rw [show ((d : Int) - 1) = ((d - 1 : Nat) : Int) by omega]; refine (HI.out kids (by have := HT.out.1; simp [Fo.nodes] at this; omega) (d - 1) _ A5 c5 b5 o5 lo hi (by omega) (by have := HT.out.2.2.2.2; simp [Fo.nodes] at this; omega) (Nat.le_trans hh KB2.out.size) R5.out (H5.out.but R5.out (But.of_below (C := No) KB2.out) hh (fun _ h => h.elim))).mono ?_; rintro e w3 ⟨km, hkm, rfl, hkg, hB3⟩; rw [HG.out]; have KB3 := Lib.hid (KB2.out.trans (hB3.mono KB2.out.size)); have hke := hkg HG.out; subst hke; clear hB3 hkg hkm))
                    go_ret2
                    exact okres_f (m := m + kids.nodes) hmk (fun h => h6 (by have := ((suf_step (by omega) ((plainB_iff _ _).1 HP.out) ((holdsB_iff _ _).1 HQ.out) ((goodAtB_iff _ _).1 HG.out)).1 (HT.out.2.2.1.1 h)).1; omega)) KB3.out
  · have h60' : (F.len : Int) > 60 := by omega
    go_enter Tryz.func93, Tryz.ntmps93
    go_wp2
    go_ret2
    exact okres_f hln (fun h => h60 (Nat.le_trans hln h.1)) (Below.refl _ _)
theorem l03OK_any (F : Fo) : OKOK F := l03OK_lt (F.nodes + 1) F (Nat.lt_succ_self _)
theorem goodB_at (F : Fo) : goodAtB 10 F = goodB F := by
  rw [Bool.eq_iff_iff, goodAtB_iff, ← good_at]; simp [goodB]
theorem l03Tree_any (F : Fo) (w : World) (A : Option Addr) (c b o lo hi : Nat) (hd : F.nodes ≤ 1048576) (hh : hi ≤ w.heap.size) (hA : RowAt lo hi A F.len b o) (hF : FoAt w lo hi b o F) :
    Calls Tryz.prog 49 #[.slice A F.len c] w fun e w' => e = .returned (.bool (goodB F)) ∧ Below w.heap.size w w' := by
  have HA := Lib.hid hA
  have HF := Lib.hid hF
  clear hA hF
  go_enter Tryz.func49, Tryz.ntmps49
  go_wp2_with (go_at_call 93; refine (l03OK_any F 10 _ A c b o lo hi (by omega) hd hh HA.out HF.out).mono ?_; rintro e w1 ⟨m, hm, rfl, hg, hB⟩; have KB := Lib.hid hB; clear hg hB)
  go_ret
  exact ⟨by rw [← goodB_at]; rfl, KB.out⟩
end Go.Proofs.YthdkkpbhijlpaaaGreat
namespace Go.Proofs.YthdkkpbhijlpaaaGreat
open Go.ChangeShapes Go.WideShapes Go.ChangeAt Go.RowKit Go.Deep
variable {σ : Type}

/-- the whole walk, for a visitor that never stops -/
def travU (st : σ → List Nd → σ) : Fo → List Nd → σ → σ
  | .nil, _, s => s
  | .cons k sp n t al kids rest, ch, s => travU st rest ch (travU st kids (⟨k, sp, n, t, al⟩ :: ch) (st s (⟨k, sp, n, t, al⟩ :: ch)))
def yes (st : σ → List Nd → σ) : σ → List Nd → σ × Bool := fun s ch => (st s ch, true)
theorem trav_yes (st : σ → List Nd → σ) : ∀ (F : Fo) (ch : List Nd) (s : σ), trav (yes st) F ch s = (travU st F ch s, true)
  | .nil, _, _ => rfl
  | .cons k sp n t al kids rest, ch, s => by
    have h2 := trav_yes st kids (⟨k, sp, n, t, al⟩ :: ch) (st s (⟨k, sp, n, t, al⟩ :: ch))
    rw [trav_on (st := yes st) rfl (by show (trav (yes st) kids _ (st s _)).2 = true; rw [h2])]
    show trav (yes st) rest ch (trav (yes st) kids _ (st s _)).1 = _
    rw [h2, trav_yes st rest, travU]
def travPU (ok : σ → List Nd → Prop) (st : σ → List Nd → σ) : Fo → List Nd → σ → Prop
  | .nil, _, _ => True
  | .cons k sp n t al kids rest, ch, s => ok s (⟨k, sp, n, t, al⟩ :: ch) ∧ travPU ok st kids (⟨k, sp, n, t, al⟩ :: ch) (st s (⟨k, sp, n, t, al⟩ :: ch)) ∧ travPU ok st rest ch (travU st kids (⟨k, sp, n, t, al⟩ :: ch) (st s (⟨k, sp, n, t, al⟩ :: ch)))
theorem travP_yes (ok : σ → List Nd → Prop) (st : σ → List Nd → σ) : ∀ (F : Fo) (ch : List Nd) (s : σ), travP ok (yes st) F ch s ↔ travPU ok st F ch s
  | .nil, _, _ => Iff.rfl
  | .cons k sp n t al kids rest, ch, s => by
    rw [travP, travPU]
    have h2 := trav_yes st kids (⟨k, sp, n, t, al⟩ :: ch) (st s (⟨k, sp, n, t, al⟩ :: ch))
    show (ok s _ ∧ (true = true → travP ok (yes st) kids _ (st s _) ∧ ((trav (yes st) kids _ (st s _)).2 = true → travP ok (yes st) rest ch (trav (yes st) kids _ (st s _)).1))) ↔ _
    rw [h2, travP_yes ok st kids, travP_yes ok st rest]
    exact ⟨fun ⟨a, b⟩ => ⟨a, (b rfl).1, (b rfl).2 rfl⟩, fun ⟨a, b, c⟩ => ⟨a, fun _ => ⟨b, fun _ => c⟩⟩⟩
theorem travPU_always (st : σ → List Nd → σ) : ∀ (F : Fo) (ch : List Nd) (s : σ), travPU always st F ch s
  | .nil, _, _ => trivial
  | .cons _ _ _ _ _ kids rest, _, _ => ⟨trivial, travPU_always st kids _ _, travPU_always st rest _ _⟩
def SeenU (st : σ → List Nd → σ) (Inv : σ → (Nat → Prop) → World → Prop) (s : σ) (C : Nat → Prop) (ch : List Nd) (w : World) (e : Ending) (w' : World) : Prop :=
  ∃ D : Nat → Prop, e = .returned (.tuple #[]) ∧ Inv (st s ch) D w' ∧ But C w w' ∧ ∀ k, D k → C k ∨ w.heap.size ≤ k
structure VisU (P : Program) (g : Nat) (cap : Array Value) (lo hi : Nat) (ok : σ → List Nd → Prop) (st : σ → List Nd → σ) (Inv : σ → (Nat → Prop) → World → Prop) : Prop where
  own : ∀ s C w, Inv s C w → ∀ k, C k → hi ≤ k ∧ k < w.heap.size
  keep : ∀ s C w w', Inv s C w → Kin w w' → Inv s C w'
  call : ∀ s C w q ch, ch ≠ [] → ch.length ≤ 1048576 → ok s ch → Inv s C w → SpotAt w C lo hi q ch → hi ≤ w.heap.size → Calls P g (#[.pointer q] ++ cap) w (SeenU st Inv s C ch w)
def GoneU (st : σ → List Nd → σ) (Inv : σ → (Nat → Prop) → World → Prop) (s : σ) (C : Nat → Prop) (F : Fo) (w : World) (e : Ending) (w' : World) : Prop :=
  ∃ D : Nat → Prop, e = .returned (.tuple #[]) ∧ Inv (travU st F [] s) D w' ∧ But C w w' ∧ ∀ k, D k → C k ∨ w.heap.size ≤ k
def BoxAt (w : World) (C : Nat → Prop) (hi pv g : Nat) (cap : Array Value) : Prop := hi ≤ pv ∧ pv < w.heap.size ∧ ¬ C pv ∧ w.cell? ⟨pv, 0, none⟩ = some (.func (.func g) #[] cap)
theorem BoxAt.but {C D : Nat → Prop} {w w' : World} {hi pv g : Nat} {cap : Array Value} (h : BoxAt w C hi pv g cap) (hB : But C w w') (hD : ∀ k, D k → C k ∨ w.heap.size ≤ k) : BoxAt w' D hi pv g cap := by
  obtain ⟨a1, a2, a3, a4⟩ := h
  exact ⟨a1, Nat.lt_of_lt_of_le a2 hB.size, fun d => (hD pv d).elim a3 fun x => by omega, (hB.cell (p := ⟨pv, 0, none⟩) a2 a3).trans a4⟩
theorem all1_any (g : Nat) (cap : Array Value) (lo hi : Nat) (ok : σ → List Nd → Prop) (st : σ → List Nd → σ) (Inv : σ → (Nat → Prop) → World → Prop) (V : VisU Tryz.prog g cap lo hi ok st Inv) (eg : ∀ args w, (callFunc g args).run Tryz.prog w = .ok (.enter g args) w) (pv : Nat)
    (s : σ) (C : Nat → Prop) (w : World) (q : Option Addr) (ch : List Nd) (hne : ch ≠ []) (hl : ch.length ≤ 1048576) (ho : ok s ch) (hI : Inv s C w) (hb : BoxAt w C hi pv g cap) (hS : SpotAt w C lo hi q ch) (hh : hi ≤ w.heap.size) :
    Calls Tryz.prog 162 #[.pointer q, .pointer (some ⟨pv, 0, none⟩)] w (Seen (yes st) (fun s C w => Inv s C w ∧ BoxAt w C hi pv g cap) s C ch w) := by
  have hc := V.call s C w q ch hne hl ho hI hS hh
  have HB := Lib.hid hb
  have hcell := hb.2.2.2
  clear hI hS hb hne V ho
  go_enter Tryz.func162, Tryz.ntmps162
  go_wp2_with (go_at_fn g; refine hc.mono ?_; rintro e w1 ⟨D, rfl, i1, b1, d1⟩; have K := Lib.hid (And.intro i1 (And.intro b1 d1)); clear i1 b1 d1 hc)
  go_ret
  exact ⟨D, rfl, ⟨K.out.1, HB.out.but K.out.2.1 K.out.2.2⟩, K.out.2.1, K.out.2.2⟩
theorem visAll (g : Nat) (cap : Array Value) (lo hi : Nat) (ok : σ → List Nd → Prop) (st : σ → List Nd → σ) (Inv : σ → (Nat → Prop) → World → Prop) (V : VisU Tryz.prog g cap lo hi ok st Inv) (eg : ∀ args w, (callFunc g args).run Tryz.prog w = .ok (.enter g args) w) (pv : Nat) :
    Vis Tryz.prog 162 #[.pointer (some ⟨pv, 0, none⟩)] lo hi ok (yes st) (fun s C w => Inv s C w ∧ BoxAt w C hi pv g cap) where
  own := fun _ _ _ h k hk => V.own _ _ _ h.1 k hk
  keep := fun _ _ _ _ h hB => ⟨V.keep _ _ _ _ h.1 hB, h.2.but hB.but.none fun _ h => Or.inl h⟩
  call := fun s C w q ch hne hl ho hI hS hh => all1_any g cap lo hi ok st Inv V eg pv s C w q ch hne hl ho hI.1 hI.2 hS hh
theorem walkAll_any (g : Nat) (cap : Array Value) (lo hi : Nat) (ok : σ → List Nd → Prop) (st : σ → List Nd → σ) (Inv : σ → (Nat → Prop) → World → Prop) (V : VisU Tryz.prog g cap lo hi ok st Inv) (eg : ∀ args w, (callFunc g args).run Tryz.prog w = .ok (.enter g args) w) (F : Fo)
    (s : σ) (C : Nat → Prop) (w : World) (A : Option Addr) (c b o : Nat) (hd : F.nodes ≤ 1048576) (hp : travPU ok st F [] s) (hI : Inv s C w) (hh : hi ≤ w.heap.size) (hA : RowAt lo hi A F.len b o) (hF : FoAt w lo hi b o F) :
    Calls Tryz.prog 103 #[.slice A F.len c, .func (.func g) #[] cap] w (GoneU st Inv s C F w) := by
  have hmf : ∀ (fn : Fn) (first cap : Array Value) (w : World), (Instr.makeFunc fn first cap).run Tryz.prog w = .ok (.func fn first cap) w := fun _ _ _ _ => rfl
  have HA := Lib.hid hA
  have HF := Lib.hid hF
  have HI := Lib.hid hI
  have HV := Lib.hid V
  have HP := Lib.hid ((travP_yes ok st F [] s).2 hp)
  clear hA hF hI V hp
  go_enter Tryz.func103, Tryz.ntmps103
  go_wp2_with (go_at_call 98; refine (walk_any 162 #[.pointer (some ⟨w.heap.size, 0, none⟩)] lo hi ok (yes st) (fun s C w' => Inv s C w' ∧ BoxAt w' C hi w.heap.size g cap) (visAll g cap lo hi ok st Inv HV.out eg w.heap.size) (enters_of Tryz.func162 (by kernel_rfl) rfl) F s C _ A c b o hd HP.out ?i1 ?i2 HA.out ?i3).mono ?i4)
  case i1 => exact ⟨HV.out.keep _ _ _ _ HI.out ((Kin.refl _).alloc _ _ (by decide)), hh, by simp, fun d => absurd ((HV.out.own _ _ _ HI.out _ d).2) (Nat.lt_irrefl _), new_cell rfl⟩
  case i2 => simp; omega
  case i3 => exact HF.out.but HA.out ((But.refl No w).alloc _) hh (fun _ h => h.elim)
  case i4 =>
    rintro e w' ⟨D, rfl, i1, b1, d1⟩
    rw [trav_yes] at i1
    have K := Lib.hid (And.intro i1.1 (And.intro b1 d1))
    clear i1 b1 d1
    go_wp2
    go_end0
    exact ⟨D, rfl, K.out.1, ((But.refl C w).alloc _).trans K.out.2.1 (fun _ h => Or.inl h), fun k hk => (K.out.2.2 k hk).imp id fun h => by simp at h; omega⟩
/-- the code of a tree that a call is given -/
noncomputable def faultOf (F : Fo) : Int := if F.len ≤ 4096 then (if goodB F = true then 0 else 1) else 2
theorem fault_long {F : Fo} (h : ¬ F.len ≤ 4096) : faultOf F = 2 := if_neg h
theorem fault_bad {F : Fo} (h : F.len ≤ 4096) (hg : goodB F = false) : faultOf F = 1 := by rw [faultOf, if_pos h, hg]; rfl
theorem fault_ok {F : Fo} (h : F.len ≤ 4096) (hg : goodB F = true) : faultOf F = 0 := by rw [faultOf, if_pos h, hg]; rfl
theorem good_len {F : Fo} (hg : goodB F = true) : F.len ≤ 4096 := by
  have : Good F := by simpa [goodB] using hg
  have h1 := this.1
  have := Fo.len_le_nodes F
  omega
theorem treeFault_any (F : Fo) (w : World) (A : Option Addr) (c b o lo hi : Nat) (hd : F.nodes ≤ 1048576) (hh : hi ≤ w.heap.size) (hA : RowAt lo hi A F.len b o) (hF : FoAt w lo hi b o F) :
    Calls Tryz.prog 38 #[.slice A F.len c] w fun e w' => e = .returned (.int .i64 (faultOf F)) ∧ Below w.heap.size w w' := by
  have hln := Fo.len_le_nodes F
  have HA := Lib.hid hA
  have HF := Lib.hid hF
  clear hA hF
  by_cases hl : F.len ≤ 4096
  · cases hg : goodB F with
    | true =>
      have HG := Lib.hid hg
      have HE := Lib.hid (fault_ok hl hg)
      clear hg
      go_enter Tryz.func38, Tryz.ntmps38
      go_wp2_with (go_at_call 75; refine (implTreeOK_any F _ A c b o lo hi hd hh HA.out HF.out).mono ?_; rintro e w1 ⟨rfl, hB⟩; rw [HG.out]; have KB := Lib.hid hB; clear hB)
      go_ret
      exact ⟨by rw [HE.out]; rfl, KB.out⟩
    | false =>
      have HG := Lib.hid hg
      have HE := Lib.hid (fault_bad hl hg)
      clear hg
      go_enter Tryz.func38, Tryz.ntmps38
      go_wp2_with (go_at_call 75; refine (implTreeOK_any F _ A c b o lo hi hd hh HA.out HF.out).mono ?_; rintro e w1 ⟨rfl, hB⟩; rw [HG.out]; have KB := Lib.hid hB; clear hB)
      go_ret
      exact ⟨by rw [HE.out]; rfl, KB.out⟩
  · have hl' : (F.len : Int) > 4096 := by omega
    have HE := Lib.hid (fault_long hl)
    go_enter Tryz.func38, Tryz.ntmps38
    go_wp2
    go_ret
    exact ⟨by rw [HE.out]; rfl, Below.refl _ _⟩
theorem l03Ask_any (F : Fo) (w : World) (A : Option Addr) (c b o lo hi : Nat) (hd : F.nodes ≤ 1048576) (hh : hi ≤ w.heap.size) (hA : RowAt lo hi A F.len b o) (hF : FoAt w lo hi b o F) :
    Calls Tryz.prog 70 #[.slice A F.len c] w fun e w' => e = .returned (.int .i64 (faultOf F)) ∧ Below w.heap.size w w' := by
  have hln := Fo.len_le_nodes F
  have HA := Lib.hid hA
  have HF := Lib.hid hF
  clear hA hF
  by_cases hl : F.len ≤ 4096
  · cases hg : goodB F with
    | true =>
      have HG := Lib.hid hg
      have HE := Lib.hid (fault_ok hl hg)
      clear hg
      go_enter Tryz.func70, Tryz.ntmps70
      go_wp2_with (go_at_call 49; refine (l03Tree_any F _ A c b o lo hi hd hh HA.out HF.out).mono ?_; rintro e w1 ⟨rfl, hB⟩; rw [HG.out]; have KB := Lib.hid hB; clear hB)
      go_ret
      exact ⟨by rw [HE.out]; rfl, KB.out⟩
    | false =>
      have HG := Lib.hid hg
      have HE := Lib.hid (fault_bad hl hg)
      clear hg
      go_enter Tryz.func70, Tryz.ntmps70
      go_wp2_with (go_at_call 49; refine (l03Tree_any F _ A c b o lo hi hd hh HA.out HF.out).mono ?_; rintro e w1 ⟨rfl, hB⟩; rw [HG.out]; have KB := Lib.hid hB; clear hB)
      go_ret
      exact ⟨by rw [HE.out]; rfl, KB.out⟩
  · have hl' : (F.len : Int) > 4096 := by omega
    have HE := Lib.hid (fault_long hl)
    go_enter Tryz.func70, Tryz.ntmps70
    go_wp2
    go_ret
    exact ⟨by rw [HE.out]; rfl, Below.refl _ _⟩
end Go.Proofs.YthdkkpbhijlpaaaGreat
