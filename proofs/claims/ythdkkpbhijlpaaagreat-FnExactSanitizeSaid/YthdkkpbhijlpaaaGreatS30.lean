import Derived.Laws.OwnMore
import Derived.OneCell
import Derived.Deep.QuietTactic
import Derived.BigQuiet
import Derived.Test.YthdkkpbhijlpaaaGreatS29
import Derived.Test.YthdkkpbhijlpaaaGreatS22
set_option linter.unusedVariables false
namespace Go.Proofs.YthdkkpbhijlpaaaGreat
open Go.ChangeShapes Go.WideShapes Go.ChangeAt Go.RowKit Go.Deep

def Fo.under : Fo → Nat
  | .nil => 0
  | .cons _ _ _ _ _ kids rest => kids.nodes + rest.under
theorem Fo.under_len : ∀ F : Fo, F.nodes = F.len + F.under
  | .nil => rfl
  | .cons _ _ _ _ _ kids rest => by have := Fo.under_len rest; simp [Fo.nodes, Fo.len, Fo.under]; omega
open Classical in
noncomputable def goodAtB (d : Nat) (F : Fo) : Bool := decide (GoodAt d F)
theorem goodAtB_iff (d : Nat) (F : Fo) : goodAtB d F = true ↔ GoodAt d F := by simp [goodAtB]
theorem goodAtB_t {d : Nat} {F : Fo} (h : GoodAt d F) : true = goodAtB d F := ((goodAtB_iff d F).2 h).symm
theorem goodAtB_f {d : Nat} {F : Fo} (h : ¬ GoodAt d F) : false = goodAtB d F := by
  cases e : goodAtB d F with
  | false => rfl
  | true => exact absurd ((goodAtB_iff d F).1 e) h
/-- what is to be asked of those that are left, m being counted -/
def SufOK (d m : Nat) (suf : Fo) : Prop := m + suf.under ≤ 60 ∧ suf.deep ≤ d ∧ SFine suf
theorem suf_start (d : Nat) (F : Fo) : GoodAt d F ↔ SufOK d F.len F := by unfold GoodAt SufOK; rw [Fo.under_len F]
theorem suf_step {d m : Nat} {k sp : Int} {n t : ByteArray} {al : List (ByteArray × ByteArray)} {kids r : Fo} (hd : 1 ≤ d) (hp : PlainIs ⟨k, sp, n, t, al⟩ kids.len) (hh : HoldsIs ⟨k, sp, n, t, al⟩ kids) (hg : GoodAt (d - 1) kids) :
    SufOK d m (.cons k sp n t al kids r) ↔ SufOK d (m + kids.nodes) r := by
  unfold SufOK
  simp only [Fo.under, Fo.deep, SFine]
  obtain ⟨g1, g2, g3⟩ := hg
  constructor
  · rintro ⟨a, b, _, _, _, c⟩; exact ⟨by omega, by omega, c⟩
  · rintro ⟨a, b, c⟩; exact ⟨by omega, by omega, hp.1, ⟨hp.2, hh⟩, g3, c⟩
theorem suf_plain {d m : Nat} {k sp : Int} {n t : ByteArray} {al : List (ByteArray × ByteArray)} {kids r : Fo} (h : SufOK d m (.cons k sp n t al kids r)) : PlainIs ⟨k, sp, n, t, al⟩ kids.len := ⟨h.2.2.1, h.2.2.2.1.1⟩
theorem suf_holds {d m : Nat} {k sp : Int} {n t : ByteArray} {al : List (ByteArray × ByteArray)} {kids r : Fo} (h : SufOK d m (.cons k sp n t al kids r)) : HoldsIs ⟨k, sp, n, t, al⟩ kids := h.2.2.2.1.2
theorem suf_kids {d m : Nat} {k sp : Int} {n t : ByteArray} {al : List (ByteArray × ByteArray)} {kids r : Fo} (h : SufOK d m (.cons k sp n t al kids r)) : GoodAt (d - 1) kids := by
  obtain ⟨a, b, _, _, c, _⟩ := h
  simp only [Fo.under, Fo.deep] at a b
  exact ⟨by omega, by omega, c⟩
def OKRes (F : Fo) (d : Nat) (w : World) (e : Ending) (w' : World) : Prop := ∃ m : Nat, m ≤ F.nodes ∧ e = .returned (.tuple #[.int .i64 (m : Int), .bool (goodAtB d F)]) ∧ (goodAtB d F = true → m = F.nodes) ∧ Below w.heap.size w w'
def OKOK (F : Fo) : Prop := ∀ (d : Nat) (w : World) (A : Option Addr) (c b o lo hi : Nat), d ≤ 10 → F.nodes ≤ 1048576 → hi ≤ w.heap.size → RowAt lo hi A F.len b o → FoAt w lo hi b o F →
    Calls Tryz.prog 93 #[.slice A F.len c, .int .i64 (d : Int)] w (OKRes F d w)
theorem okres_f {F : Fo} {d m : Nat} {w w' : World} (hm : m ≤ F.nodes) (hg : ¬ GoodAt d F) (hB : Below w.heap.size w w') : OKRes F d w (.returned (.tuple #[.int .i64 (m : Int), .bool false])) w' :=
  ⟨m, hm, by rw [← goodAtB_f hg], fun h => absurd ((goodAtB_iff d F).1 h) hg, hB⟩
set_option maxHeartbeats 2000000 in
theorem l03OK_lt : ∀ (N : Nat) (F : Fo), F.nodes < N → OKOK F := by
  intro N
  induction N with
  | zero => intro F hF; omega
  | succ N IH =>
  intro F hF d w A c b o lo hi hd10 hnd hh hA hFo
  have hlen := hA.1
  unfold maxLen at hlen
  have hln := Fo.len_le_nodes F
  have HA := Lib.hid hA
  have HS := Lib.hid hFo
  have HF := Lib.hid hF
  have HI := Lib.hid IH
  clear hA hFo hF IH
  by_cases h60 : F.len ≤ 60
  · by_cases hl0 : F.len = 0
    · cases F with
      | cons _ _ _ _ _ _ _ => simp [Fo.len] at hl0
      | nil =>
        have hgn : GoodAt d Fo.nil := ⟨by simp [Fo.nodes], by simp [Fo.deep], (True.intro : SFine Fo.nil)⟩
        have hres : OKRes .nil d w (.returned (.tuple #[.int .i64 ((0 : Nat) : Int), .bool true])) w := ⟨0, Nat.le_refl _, by rw [← goodAtB_t hgn], fun _ => rfl, Below.refl _ _⟩
        have HR := Lib.hid hres
        have hl : Fo.nil.len = 0 := rfl
        rw [hl]
        clear hl0 hres h60 hln hlen hnd hl hgn
        by_cases hd0 : d = 0
        · subst hd0
          go_enter Tryz.func93, Tryz.ntmps93
          go_wp2
          refine wp_loop_rounds 1 ?_
          rw [rounds_succ]
          go_wp2
          go_ret2
          exact HR.out
        · have hd0' : ((d : Int) == 0) = false := by simp; omega
          go_enter Tryz.func93, Tryz.ntmps93
          go_wp2
          refine wp_loop_rounds 1 ?_
          rw [rounds_succ]
          go_wp2
          go_ret2
          exact HR.out
    · by_cases hd0 : d = 0
      · subst hd0
        go_enter Tryz.func93, Tryz.ntmps93
        go_wp2
        go_ret2
        exact okres_f hln (fun h => by have h1 := h.2.1; cases F with | nil => simp [Fo.len] at hl0 | cons _ _ _ _ _ kids r => simp [Fo.deep] at h1) (Below.refl _ _)
      · have hd0' : ((d : Int) == 0) = false := by simp; omega
        go_enter Tryz.func93, Tryz.ntmps93
        go_wp2
        go_loopw [6, 7] (fun x i wr => ∃ (k m : Nat) (suf : Fo), x = .int .i64 (m : Int) ∧ i = .int .i64 (k : Int) ∧ k + suf.len = F.len ∧ m ≤ 60 ∧ Hid (FoAt w lo hi b (o + k * 6) suf ∧ Below w.heap.size w wr ∧ suf.nodes < N + 1 ∧ suf.nodes ≤ 1048576 ∧ m + suf.under = F.nodes ∧ (GoodAt d F ↔ SufOK d m suf))) (fun x i wr => F.len - (intOf i).toNat)
        case atStart => exact ⟨0, F.len, F, rfl, rfl, by omega, h60, Lib.hid ⟨by simpa using HS.out, Below.refl _ _, HF.out, hnd, by rw [Fo.under_len F], suf_start d F⟩⟩
        case round =>
          obtain ⟨k, m, suf, rfl, rfl, hk, hm, HH⟩ := hrel
          cases suf with
          | nil =>
            have hkl : k = F.len := by simpa [Fo.len] using hk
            clear hk
            subst hkl
            obtain ⟨_, hB, _, _, hmn, hg⟩ := HH.out
            have HX := Lib.hid (show OKRes F d w (.returned (.tuple #[.int .i64 (m : Int), .bool true])) wr from ⟨m, by simp [Fo.under] at hmn; omega, by rw [← goodAtB_t (hg.2 ⟨by simp [Fo.under]; omega, by simp [Fo.deep], trivial⟩)], fun _ => by simpa [Fo.under] using hmn, hB⟩)
            clear hB hmn hg HH
            go_wp2
            go_ret2
            exact HX.out
          | cons xk xs xn xt xa kids r =>
            obtain ⟨⟨⟨s0, s1, s2, s3, z2, z3⟩, ⟨A4, c4, b4, o4, s4, r4, a4⟩, ⟨A5, c5, b5, o5, s5, r5, a5⟩, sr⟩, hB, hT1, hT2, hT3, hT4⟩ := HH.out
            obtain ⟨rfl, hlo, hhi⟩ := HA.out.2 (by omega)
            have hkl : k < F.len := by simp [Fo.len] at hk; omega
            have hb : b < w.heap.size := by omega
            have t0 := (hB.cell (p := ⟨b, _, none⟩) hb).trans s0
            have t1 := (hB.cell (p := ⟨b, _, none⟩) hb).trans s1
            have t2 := (hB.cell (p := ⟨b, _, none⟩) hb).trans s2
            have t3 := (hB.cell (p := ⟨b, _, none⟩) hb).trans s3
            have t4 := (hB.cell (p := ⟨b, _, none⟩) hb).trans s4
            have t5 := (hB.cell (p := ⟨b, _, none⟩) hb).trans s5
            have hbw : b < wr.heap.size := Nat.lt_of_lt_of_le hb hB.size
            have HB := Lib.hid hB
            have HR := Lib.hid sr
            have H4 := Lib.hid a4
            have H5 := Lib.hid a5
            have R4 := Lib.hid r4.2
            have R5 := Lib.hid r5.2
            have HT := Lib.hid (And.intro hT1 (And.intro hT3 (And.intro hT4 (And.intro True.intro hT2))))
            have hmk : m + kids.nodes ≤ F.nodes := by simp [Fo.under] at hT3; omega
            clear HH s0 s1 s2 s3 s4 s5 sr hB hT1 hT2 hT3 hT4 a4 a5 r4 r5
            cases hp : plainB ⟨xk, xs, xn, xt, xa⟩ kids.len with
            | false =>
              have HP := Lib.hid hp
              clear hp
              go_wp2_with (go_at_call 149; refine (l03Plain_any xk xs xn xt xa kids.len _ A4 A5 c4 c5 b4 o4 lo hi z2 z3 R4.out (H4.out.but R4.out (But.of_below (C := No) HB.out) hh (fun _ h => h.elim)) R5.out.1 (Nat.le_trans hh HB.out.size)).mono ?_; rintro e w1 ⟨rfl, hB1⟩; rw [HP.out]; have HL1 := Lib.hid (Nat.lt_of_lt_of_le hbw hB1.size); have u0 := (hB1.cell (p := ⟨b, _, none⟩) hbw).trans t0; have u1 := (hB1.cell (p := ⟨b, _, none⟩) hbw).trans t1; have u2 := (hB1.cell (p := ⟨b, _, none⟩) hbw).trans t2; have u3 := (hB1.cell (p := ⟨b, _, none⟩) hbw).trans t3; have u4 := (hB1.cell (p := ⟨b, _, none⟩) hbw).trans t4; have u5 := (hB1.cell (p := ⟨b, _, none⟩) hbw).trans t5; have KB1 := Lib.hid (HB.out.trans (hB1.mono HB.out.size)); clear hB1)
              go_ret2
              exact okres_f (by omega) (fun h => by have := (plainB_iff _ _).2 (suf_plain (HT.out.2.2.1.1 h)); rw [HP.out] at this; simp at this) KB1.out
            | true =>
              have HP := Lib.hid hp
              clear hp
              cases hq : holdsB ⟨xk, xs, xn, xt, xa⟩ kids with
              | false =>
                have HQ := Lib.hid hq
                clear hq
                go_wp2_with (first | (go_at_call 149; refine (l03Plain_any xk xs xn xt xa kids.len _ A4 A5 c4 c5 b4 o4 lo hi z2 z3 R4.out (H4.out.but R4.out (But.of_below (C := No) HB.out) hh (fun _ h => h.elim)) R5.out.1 (Nat.le_trans hh HB.out.size)).mono ?_; rintro e w1 ⟨rfl, hB1⟩; rw [HP.out]; have HL1 := Lib.hid (Nat.lt_of_lt_of_le hbw hB1.size); have u0 := (hB1.cell (p := ⟨b, _, none⟩) hbw).trans t0; have u1 := (hB1.cell (p := ⟨b, _, none⟩) hbw).trans t1; have u2 := (hB1.cell (p := ⟨b, _, none⟩) hbw).trans t2; have u3 := (hB1.cell (p := ⟨b, _, none⟩) hbw).trans t3; have u4 := (hB1.cell (p := ⟨b, _, none⟩) hbw).trans t4; have u5 := (hB1.cell (p := ⟨b, _, none⟩) hbw).trans t5; have KB1 := Lib.hid (HB.out.trans (hB1.mono HB.out.size)); clear hB1) | (go_at_call 150; refine (l03Holds_any xk xs xn xt xa kids _ A4 A5 c4 c5 b5 o5 lo hi R5.out (H5.out.but R5.out (But.of_below (C := No) KB1.out) hh (fun _ h => h.elim)) (Nat.le_trans hh KB1.out.size)).mono ?_; rintro e w2 ⟨rfl, hB2⟩; rw [HQ.out]; have v5 := (hB2.cell (p := ⟨b, _, none⟩) HL1.out).trans u5; have KB2 := Lib.hid (KB1.out.trans (hB2.mono KB1.out.size)); clear hB2))
                go_ret2
                exact okres_f (by omega) (fun h => by have := (holdsB_iff _ _).2 (suf_holds (HT.out.2.2.1.1 h)); rw [HQ.out] at this; simp at this) KB2.out
              | true =>
                have HQ := Lib.hid hq
                clear hq
                cases hg : goodAtB (d - 1) kids with
                | false =>
                  have HG := Lib.hid hg
                  clear hg
                  go_wp2_with (first | (go_at_call 149; refine (l03Plain_any xk xs xn xt xa kids.len _ A4 A5 c4 c5 b4 o4 lo hi z2 z3 R4.out (H4.out.but R4.out (But.of_below (C := No) HB.out) hh (fun _ h => h.elim)) R5.out.1 (Nat.le_trans hh HB.out.size)).mono ?_; rintro e w1 ⟨rfl, hB1⟩; rw [HP.out]; have HL1 := Lib.hid (Nat.lt_of_lt_of_le hbw hB1.size); have u0 := (hB1.cell (p := ⟨b, _, none⟩) hbw).trans t0; have u1 := (hB1.cell (p := ⟨b, _, none⟩) hbw).trans t1; have u2 := (hB1.cell (p := ⟨b, _, none⟩) hbw).trans t2; have u3 := (hB1.cell (p := ⟨b, _, none⟩) hbw).trans t3; have u4 := (hB1.cell (p := ⟨b, _, none⟩) hbw).trans t4; have u5 := (hB1.cell (p := ⟨b, _, none⟩) hbw).trans t5; have KB1 := Lib.hid (HB.out.trans (hB1.mono HB.out.size)); clear hB1) | (go_at_call 150; refine (l03Holds_any xk xs xn xt xa kids _ A4 A5 c4 c5 b5 o5 lo hi R5.out (H5.out.but R5.out (But.of_below (C := No) KB1.out) hh (fun _ h => h.elim)) (Nat.le_trans hh KB1.out.size)).mono ?_; rintro e w2 ⟨rfl, hB2⟩; rw [HQ.out]; have v5 := (hB2.cell (p := ⟨b, _, none⟩) HL1.out).trans u5; have KB2 := Lib.hid (KB1.out.trans (hB2.mono KB1.out.size)); clear hB2) | (go_at_call 93; rw [show ((d : Int) - 1) = ((d - 1 : Nat) : Int) by omega]; refine (HI.out kids (by have := HT.out.1; simp [Fo.nodes] at this; omega) (d - 1) _ A5 c5 b5 o5 lo hi (by omega) (by have := HT.out.2.2.2.2; simp [Fo.nodes] at this; omega) (Nat.le_trans hh KB2.out.size) R5.out (H5.out.but R5.out (But.of_below (C := No) KB2.out) hh (fun _ h => h.elim))).mono ?_; rintro e w3 ⟨km, hkm, rfl, hkg, hB3⟩; rw [HG.out]; have KB3 := Lib.hid (KB2.out.trans (hB3.mono KB2.out.size)); have HKM := Lib.hid hkg; clear hB3 hkg))
                  go_ret2
                  exact okres_f (m := m + km) (by omega) (fun h => by have := (goodAtB_iff _ _).2 (suf_kids (HT.out.2.2.1.1 h)); rw [HG.out] at this; simp at this) KB3.out
                | true =>
                  have HG := Lib.hid hg
                  clear hg
                  by_cases h6 : m + kids.nodes ≤ 60
                  · go_wp2_with (first | (go_at_call 149; refine (l03Plain_any xk xs xn xt xa kids.len _ A4 A5 c4 c5 b4 o4 lo hi z2 z3 R4.out (H4.out.but R4.out (But.of_below (C := No) HB.out) hh (fun _ h => h.elim)) R5.out.1 (Nat.le_trans hh HB.out.size)).mono ?_; rintro e w1 ⟨rfl, hB1⟩; rw [HP.out]; have HL1 := Lib.hid (Nat.lt_of_lt_of_le hbw hB1.size); have u0 := (hB1.cell (p := ⟨b, _, none⟩) hbw).trans t0; have u1 := (hB1.cell (p := ⟨b, _, none⟩) hbw).trans t1; have u2 := (hB1.cell (p := ⟨b, _, none⟩) hbw).trans t2; have u3 := (hB1.cell (p := ⟨b, _, none⟩) hbw).trans t3; have u4 := (hB1.cell (p := ⟨b, _, none⟩) hbw).trans t4; have u5 := (hB1.cell (p := ⟨b, _, none⟩) hbw).trans t5; have KB1 := Lib.hid (HB.out.trans (hB1.mono HB.out.size)); clear hB1) | (go_at_call 150; refine (l03Holds_any xk xs xn xt xa kids _ A4 A5 c4 c5 b5 o5 lo hi R5.out (H5.out.but R5.out (But.of_below (C := No) KB1.out) hh (fun _ h => h.elim)) (Nat.le_trans hh KB1.out.size)).mono ?_; rintro e w2 ⟨rfl, hB2⟩; rw [HQ.out]; have v5 := (hB2.cell (p := ⟨b, _, none⟩) HL1.out).trans u5; have KB2 := Lib.hid (KB1.out.trans (hB2.mono KB1.out.size)); clear hB2) | (go_at_call 93; rw [show ((d : Int) - 1) = ((d - 1 : Nat) : Int) by omega]; refine (HI.out kids (by have := HT.out.1; simp [Fo.nodes] at this; omega) (d - 1) _ A5 c5 b5 o5 lo hi (by omega) (by have := HT.out.2.2.2.2; simp [Fo.nodes] at this; omega) (Nat.le_trans hh KB2.out.size) R5.out (H5.out.but R5.out (But.of_below (C := No) KB2.out) hh (fun _ h => h.elim))).mono ?_; rintro e w3 ⟨km, hkm, rfl, hkg, hB3⟩; rw [HG.out]; have KB3 := Lib.hid (KB2.out.trans (hB3.mono KB2.out.size)); have hke := hkg HG.out; subst hke; clear hB3 hkg hkm))
                    go_roundw
                    case rel => exact ⟨k + 1, m + kids.nodes, r, by go_num, by go_num, by simp [Fo.len] at hk; omega, h6, Lib.hid ⟨by rw [show o + (k + 1) * 6 = o + k * 6 + 6 by omega]; exact HR.out, KB3.out, by have := HT.out.1; simp [Fo.nodes] at this; omega, by have := HT.out.2.2.2.2; simp [Fo.nodes] at this; omega, by have := HT.out.2.1; simp [Fo.under] at this; omega, HT.out.2.2.1.trans (suf_step (by omega) ((plainB_iff _ _).1 HP.out) ((holdsB_iff _ _).1 HQ.out) ((goodAtB_iff _ _).1 HG.out))⟩⟩
                    case measure => simp [intOf]; omega
                  · have h6' : (m : Int) + (kids.nodes : Int) > 60 := by omega
                    go_wp2_with (first | (go_at_call 149; refine (l03Plain_any xk xs xn xt xa kids.len _ A4 A5 c4 c5 b4 o4 lo hi z2 z3 R4.out (H4.out.but R4.out (But.of_below (C := No) HB.out) hh (fun _ h => h.elim)) R5.out.1 (Nat.le_trans hh HB.out.size)).mono ?_; rintro e w1 ⟨rfl, hB1⟩; rw [HP.out]; have HL1 := Lib.hid (Nat.lt_of_lt_of_le hbw hB1.size); have u0 := (hB1.cell (p := ⟨b, _, none⟩) hbw).trans t0; have u1 := (hB1.cell (p := ⟨b, _, none⟩) hbw).trans t1; have u2 := (hB1.cell (p := ⟨b, _, none⟩) hbw).trans t2; have u3 := (hB1.cell (p := ⟨b, _, none⟩) hbw).trans t3; have u4 := (hB1.cell (p := ⟨b, _, none⟩) hbw).trans t4; have u5 := (hB1.cell (p := ⟨b, _, none⟩) hbw).trans t5; have KB1 := Lib.hid (HB.out.trans (hB1.mono HB.out.size)); clear hB1) | (go_at_call 150; refine (l03Holds_any xk xs xn xt xa kids _ A4 A5 c4 c5 b5 o5 lo hi R5.out (H5.out.but R5.out (But.of_below (C := No) KB1.out) hh (fun _ h => h.elim)) (Nat.le_trans hh KB1.out.size)).mono ?_; rintro e w2 ⟨rfl, hB2⟩; rw [HQ.out]; have v5 := (hB2.cell (p := ⟨b, _, none⟩) HL1.out).trans u5; have KB2 := Lib.hid (KB1.out.trans (hB2.mono KB1.out.size)); clear hB2) | (go_at_call 93; rw [show ((d : Int) - 1) = ((d - 1 : Nat) : Int) by omega]; refine (HI.out kids (by have := HT.out.1; simp [Fo.nodes] at this; omega) (d - 1) _ A5 c5 b5 o5 lo hi (by omega) (by have := HT.out.2.2.2.2; simp [Fo.nodes] at this; omega) (Nat.le_trans hh KB2.out.size) R5.out (H5.out.but R5.out (But.of_below (C := No) KB2.out) hh (fun _ h => h.elim))).mono ?_; rintro e w3 ⟨km, hkm, rfl, hkg, hB3⟩; rw [HG.out]; have KB3 := Lib.hid (KB2.out.trans (hB3.mono KB2.out.size)); have hke := hkg HG.out; subst hke; clear hB3 hkg hkm))
                    go_ret2
                    exact okres_f (m := m + kids.nodes) hmk (fun h => h6 (by have := ((suf_step (by omega) ((plainB_iff _ _).1 HP.out) ((holdsB_iff _ _).1 HQ.out) ((goodAtB_iff _ _).1 HG.out)).1 (HT.out.2.2.1.1 h)).1; omega)) KB3.out
  · have h60' : (F.len : Int) > 60 := by omega
    go_enter Tryz.func93, Tryz.ntmps93
    go_wp2
    go_ret2
    exact okres_f hln (fun h => h60 (Nat.le_trans hln h.1)) (Below.refl _ _)
theorem l03OK_any (F : Fo) : OKOK F := l03OK_lt (F.nodes + 1) F (Nat.lt_succ_self _)
theorem goodB_at (F : Fo) : goodAtB 10 F = goodB F := by
  rw [Bool.eq_iff_iff, goodAtB_iff, ← good_at]; simp [goodB]
theorem l03Tree_any (F : Fo) (w : World) (A : Option Addr) (c b o lo hi : Nat) (hd : F.nodes ≤ 1048576) (hh : hi ≤ w.heap.size) (hA : RowAt lo hi A F.len b o) (hF : FoAt w lo hi b o F) :
    Calls Tryz.prog 49 #[.slice A F.len c] w fun e w' => e = .returned (.bool (goodB F)) ∧ Below w.heap.size w w' := by
  have HA := Lib.hid hA
  have HF := Lib.hid hF
  clear hA hF
  go_enter Tryz.func49, Tryz.ntmps49
  go_wp2_with (go_at_call 93; refine (l03OK_any F 10 _ A c b o lo hi (by omega) hd hh HA.out HF.out).mono ?_; rintro e w1 ⟨m, hm, rfl, hg, hB⟩; have KB := Lib.hid hB; clear hg hB)
  go_ret
  exact ⟨by rw [← goodB_at]; rfl, KB.out⟩
end Go.Proofs.YthdkkpbhijlpaaaGreat
namespace Go.Proofs.YthdkkpbhijlpaaaGreat
open Go.ChangeShapes Go.WideShapes Go.ChangeAt Go.RowKit Go.Deep
variable {σ : Type}

/-- the code of a tree that a call is given -/
noncomputable def faultOf (F : Fo) : Int := if F.len ≤ 4096 then (if goodB F = true then 0 else 1) else 2
theorem fault_long {F : Fo} (h : ¬ F.len ≤ 4096) : faultOf F = 2 := if_neg h
theorem fault_bad {F : Fo} (h : F.len ≤ 4096) (hg : goodB F = false) : faultOf F = 1 := by rw [faultOf, if_pos h, hg]; rfl
theorem fault_ok {F : Fo} (h : F.len ≤ 4096) (hg : goodB F = true) : faultOf F = 0 := by rw [faultOf, if_pos h, hg]; rfl
theorem treeFault_any (F : Fo) (w : World) (A : Option Addr) (c b o lo hi : Nat) (hd : F.nodes ≤ 1048576) (hh : hi ≤ w.heap.size) (hA : RowAt lo hi A F.len b o) (hF : FoAt w lo hi b o F) :
    Calls Tryz.prog 38 #[.slice A F.len c] w fun e w' => e = .returned (.int .i64 (faultOf F)) ∧ Below w.heap.size w w' := by
  have hln := Fo.len_le_nodes F
  have HA := Lib.hid hA
  have HF := Lib.hid hF
  clear hA hF
  by_cases hl : F.len ≤ 4096
  · cases hg : goodB F with
    | true =>
      have HG := Lib.hid hg
      have HE := Lib.hid (fault_ok hl hg)
      clear hg
      go_enter Tryz.func38, Tryz.ntmps38
      go_wp2_with (go_at_call 75; refine (implTreeOK_any F _ A c b o lo hi hd hh HA.out HF.out).mono ?_; rintro e w1 ⟨rfl, hB⟩; rw [HG.out]; have KB := Lib.hid hB; clear hB)
      go_ret
      exact ⟨by rw [HE.out]; rfl, KB.out⟩
    | false =>
      have HG := Lib.hid hg
      have HE := Lib.hid (fault_bad hl hg)
      clear hg
      go_enter Tryz.func38, Tryz.ntmps38
      go_wp2_with (go_at_call 75; refine (implTreeOK_any F _ A c b o lo hi hd hh HA.out HF.out).mono ?_; rintro e w1 ⟨rfl, hB⟩; rw [HG.out]; have KB := Lib.hid hB; clear hB)
      go_ret
      exact ⟨by rw [HE.out]; rfl, KB.out⟩
  · have hl' : (F.len : Int) > 4096 := by omega
    have HE := Lib.hid (fault_long hl)
    go_enter Tryz.func38, Tryz.ntmps38
    go_wp2
    go_ret
    exact ⟨by rw [HE.out]; rfl, Below.refl _ _⟩
theorem l03Ask_any (F : Fo) (w : World) (A : Option Addr) (c b o lo hi : Nat) (hd : F.nodes ≤ 1048576) (hh : hi ≤ w.heap.size) (hA : RowAt lo hi A F.len b o) (hF : FoAt w lo hi b o F) :
    Calls Tryz.prog 70 #[.slice A F.len c] w fun e w' => e = .returned (.int .i64 (faultOf F)) ∧ Below w.heap.size w w' := by
  have hln := Fo.len_le_nodes F
  have HA := Lib.hid hA
  have HF := Lib.hid hF
  clear hA hF
  by_cases hl : F.len ≤ 4096
  · cases hg : goodB F with
    | true =>
      have HG := Lib.hid hg
      have HE := Lib.hid (fault_ok hl hg)
      clear hg
      go_enter Tryz.func70, Tryz.ntmps70
      go_wp2_with (go_at_call 49; refine (l03Tree_any F _ A c b o lo hi hd hh HA.out HF.out).mono ?_; rintro e w1 ⟨rfl, hB⟩; rw [HG.out]; have KB := Lib.hid hB; clear hB)
      go_ret
      exact ⟨by rw [HE.out]; rfl, KB.out⟩
    | false =>
      have HG := Lib.hid hg
      have HE := Lib.hid (fault_bad hl hg)
      clear hg
      go_enter Tryz.func70, Tryz.ntmps70
      go_wp2_with (go_at_call 49; refine (l03Tree_any F _ A c b o lo hi hd hh HA.out HF.out).mono ?_; rintro e w1 ⟨rfl, hB⟩; rw [HG.out]; have KB := Lib.hid hB; clear hB)
      go_ret
      exact ⟨by rw [HE.out]; rfl, KB.out⟩
  · have hl' : (F.len : Int) > 4096 := by omega
    have HE := Lib.hid (fault_long hl)
    go_enter Tryz.func70, Tryz.ntmps70
    go_wp2
    go_ret
    exact ⟨by rw [HE.out]; rfl, Below.refl _ _⟩
end Go.Proofs.YthdkkpbhijlpaaaGreat
namespace Go.Proofs.YthdkkpbhijlpaaaGreat
open Go.ChangeShapes Go.WideShapes Go.ChangeAt Go.RowKit Go.Deep

theorem infoNode : (Tryz.prog.info? 71).map (fun i => (i.zero, i.size, i.bytes)) = some (some (.agg #[.int .i64 0, .int .i64 0, .string ⟨#[]⟩, .string ⟨#[]⟩, .slice none 0 0, .slice none 0 0]), 6, 96) := by kernel_rfl
theorem infoAttr : (Tryz.prog.info? 121).map (fun i => (i.zero, i.size, i.bytes)) = some (some (.agg #[.string ⟨#[]⟩, .string ⟨#[]⟩]), 2, 32) := by kernel_rfl
theorem info_of {x : Option TypeInfo} {z : Value} {s b : Nat} (h : x.map (fun i => (i.zero, i.size, i.bytes)) = some (some z, s, b)) : ∃ i, x = some i ∧ i.zero = some z ∧ i.size = s ∧ i.bytes = b := by
  obtain ⟨i, hi, hz⟩ := Option.map_eq_some_iff.1 h
  simp only [Prod.mk.injEq] at hz
  exact ⟨i, hi, hz.1, hz.2.1, hz.2.2⟩
/-- with nothing in it: a literal -/
theorem GRow.lit {w : World} {base : Nat} (hb : base ≤ w.heap.size) : GRow (w.alloc (.cells #[] 71)) base (.slice (some ⟨w.heap.size, 0, none⟩) 0 0) .nil [] :=
  ⟨[], World.ownsRow_lit w #[] 0 hb (Nat.zero_le _) rfl, ⟨rfl, rfl⟩, List.nodup_nil, by simp, by simp⟩
theorem GRow.low {w : World} {base base' : Nat} {v : Value} {F : Fo} {bl : List Nat} (h : GRow w base v F bl) (hb : base' ≤ base) : GRow w base' v F bl := by
  obtain ⟨xs, ⟨h1, h2⟩, hv, hn, hbl, hg⟩ := h
  exact ⟨xs, ⟨h1, h2.imp id fun ⟨g, cap, cur, e1, e2, e3⟩ => ⟨g, cap, cur, e1, Nat.le_trans hb e2, e3⟩⟩, hv, hn, fun k hk => ⟨Nat.le_trans hb (hbl k hk).1, (hbl k hk).2⟩, hg⟩
/-- all of it, and its row -/
theorem GRow.next {w w' : World} {base : Nat} {v : Value} {F : Fo} {bl : List Nat} (h : GRow w base v F bl) (hB : Below w.heap.size w w') : GRow w' base v F bl := by
  obtain ⟨xs, ho, hv, hn, hbl, hg⟩ := h
  have hk : ∀ k ∈ bl, w'.heap[k]? = w.heap[k]? := fun k hk => hB.block k (hbl k hk).2
  refine ⟨xs, ho.kept (row := none) ⟨hB.os, hB.tape, hB.output, hB.size, fun k hk _ => hB.block k hk⟩ ?_, hv.same hk, hn, fun k hk => ⟨(hbl k hk).1, Nat.lt_of_lt_of_le (hbl k hk).2 hB.size⟩, hg⟩
  cases hv : v.ownBlock with
  | none => exact Or.inl rfl
  | some k => exact Or.inr (by simp)
end Go.Proofs.YthdkkpbhijlpaaaGreat
