import Derived.Test.YtocpmkpffhmlaaaSer2
import Derived.Test.YtocpmkpffhmlaaaAll
import Derived.Deep.RegionHeld3
namespace Go.Proofs.Ytocpmkpffhmlaaa
open Go.ChangeShapes Go.WideShapes Go.ChangeAt Go.RowKit Go.Deep

/-- texts and attributes that are small enough to be escaped -/
def Fo.sm : Fo → Prop
  | .nil => True
  | .cons _ _ _ t al kids rest => t.size ≤ 65536 ∧ AlSm al ∧ kids.sm ∧ rest.sm
theorem alSm_of {al : List (ByteArray × ByteArray)} (h : AlOK al) : AlSm al := by
  intro x hx
  obtain ⟨i, hi, e⟩ := List.getElem_of_mem hx
  obtain ⟨⟨h1, h2⟩, _⟩ := h.2 i hi hi
  rw [e] at h1 h2
  obtain ⟨_, hn, _⟩ : Named small tagB x.1 := by simpa [namedB] using h1
  omega
theorem Fo.sm_of : ∀ (F : Fo), SFine F → F.sm
  | .nil, _ => trivial
  | .cons k sp n t al kids rest, ⟨h1, _, h3, h4⟩ => by
    refine ⟨?_, ?_, Fo.sm_of kids h3, Fo.sm_of rest h4⟩
    · rcases h1 with ⟨_, h⟩ | ⟨_, _, h⟩ | ⟨_, h⟩
      · have := h.2.2.2.1; simp only at this; omega
      · have := h.1; simp only at this; omega
      · have := h.1; simp only at this; omega
    · rcases h1 with ⟨_, h⟩ | ⟨_, _, h⟩ | ⟨_, h⟩
      · exact alSm_of h.2.2.2.2
      · have e := List.length_eq_zero_iff.1 h.2.2.2; simp only at e; subst e; intro x hx; simp at hx
      · have e := List.length_eq_zero_iff.1 h.2.2.2; simp only at e; subst e; intro x hx; simp at hx
theorem Fo.sm_good {F : Fo} (h : faultOf F = 0) : F.sm := by
  have hg : goodB F = true := by
    cases e : goodB F with
    | true => rfl
    | false =>
      by_cases hl : F.len ≤ 4096
      · rw [fault_bad hl e] at h; exact absurd h (by decide)
      · rw [fault_long hl] at h; exact absurd h (by decide)
  have : Good F := by simpa [goodB] using hg
  exact Fo.sm_of F ((good_at F).1 this).2.2

/-- a node's text -/
def nodeText (raw : Bool) (k sp : Int) (n t : ByteArray) (al : List (ByteArray × ByteArray)) (kids : Fo) : List UInt8 :=
  if k = 2 then wordsText raw t else if k = 3 then noteText t else tagText n al ++ (if hasEnd sp n = true then kids.ser (asIs sp n) ++ endText n else [])
theorem ser_cons (raw : Bool) (k sp : Int) (n t : ByteArray) (al : List (ByteArray × ByteArray)) (kids rest : Fo) : (Fo.cons k sp n t al kids rest).ser raw = nodeText raw k sp n t al kids ++ rest.ser raw := rfl
def SerOK (F : Fo) : Prop := ∀ (raw : Bool) (w : World) (A : Option Addr) (c b o lo hi : Nat), F.nodes ≤ 1048576 → F.len + F.size ≤ 1048576 * 64 → F.sm → hi ≤ w.heap.size → RowAt lo hi A F.len b o → FoAt w lo hi b o F →
    Calls Try.prog 11 #[.slice A F.len c, .bool raw] w fun e w' => e = .returned (.string ⟨(F.ser raw).toArray⟩) ∧ Below w.heap.size w w'

set_option maxHeartbeats 4000000 in
theorem l06Tree_lt : ∀ (N : Nat) (F : Fo), F.nodes < N → SerOK F := by
  intro N
  induction N with
  | zero => intro F hF; omega
  | succ N IH =>
  intro F hF raw w A c b o lo hi hnd hsz hsm hh hA hFo
  have hlen := hA.1
  unfold maxLen at hlen
  have hln := Fo.len_le_nodes F
  have HA := Lib.hid hA
  have HS := Lib.hid hFo
  have HF := Lib.hid hF
  have HI := Lib.hid IH
  have HM := Lib.hid hsm
  clear hA hFo hF IH hsm
  go_enter Try.func11, Try.ntmps11
  go_wp2
  go_loopw [5, 6] (fun x i wr => ∃ (k : Nat) (m : List UInt8) (suf : Fo), x = .string ⟨m.toArray⟩ ∧ i = .int .i64 (k : Int) ∧ k + suf.len = F.len ∧ Hid (FoAt w lo hi b (o + k * 6) suf ∧ Below w.heap.size w wr ∧ suf.nodes < N + 1 ∧ suf.nodes ≤ 1048576 ∧ suf.sm ∧ m.length + 8 * (suf.len + suf.size) ≤ 1048576 * 512 ∧ m ++ suf.ser raw = F.ser raw)) (fun x i wr => F.len - (intOf i).toNat)
  case atStart => exact ⟨0, [], F, rfl, rfl, by omega, Lib.hid ⟨by simpa using HS.out, Below.refl _ _, HF.out, hnd, HM.out, by simp; omega, rfl⟩⟩
  case round =>
    obtain ⟨k, m, suf, rfl, rfl, hk, HH⟩ := hrel
    cases suf with
    | nil =>
      have hkl : k = F.len := by simpa [Fo.len] using hk
      clear hk
      subst hkl
      go_wp2
      go_ret
      exact ⟨by rw [show F.ser raw = m by have := HH.out.2.2.2.2.2.2; simpa [Fo.ser] using this.symm]; rfl, HH.out.2.1⟩
    | cons xk xs xn xt xa kids r =>
      obtain ⟨⟨⟨s0, s1, s2, s3, z2, z3⟩, ⟨A4, c4, b4, o4, s4, r4, a4⟩, ⟨A5, c5, b5, o5, s5, r5, a5⟩, sr⟩, hB, hT1, hT2, hT3, hT4, hT5⟩ := HH.out
      obtain ⟨rfl, hlo, hhi⟩ := HA.out.2 (by simp [Fo.len] at hk; omega)
      have hkl : k < F.len := by simp [Fo.len] at hk; omega
      have hb : b < w.heap.size := by omega
      have t0 := (hB.cell (p := ⟨b, _, none⟩) hb).trans s0
      have t1 := (hB.cell (p := ⟨b, _, none⟩) hb).trans s1
      have t2 := (hB.cell (p := ⟨b, _, none⟩) hb).trans s2
      have t3 := (hB.cell (p := ⟨b, _, none⟩) hb).trans s3
      have t4 := (hB.cell (p := ⟨b, _, none⟩) hb).trans s4
      have t5 := (hB.cell (p := ⟨b, _, none⟩) hb).trans s5
      have HB := Lib.hid hB
      have HR := Lib.hid sr
      have H4 := Lib.hid (And.intro r4.2 a4)
      have H5 := Lib.hid (And.intro r5.2 a5)
      rw [ser_cons] at hT5
      have HT5 := Lib.hid hT5
      have HT := Lib.hid (And.intro hT1 (And.intro hT2 hT3))
      have hkn : kids.nodes ≤ 1048576 ∧ r.nodes ≤ 1048576 ∧ kids.nodes < N ∧ r.nodes < N + 1 := by simp [Fo.nodes] at hT2 hT1; omega
      have hsm4 : xt.size ≤ 65536 ∧ kids.sm ∧ r.sm := ⟨hT3.1, hT3.2.2.1, hT3.2.2.2⟩
      have HSA := Lib.hid hT3.2.1
      simp only [Fo.len, Fo.size] at hT4
      have hkl1 : k + 1 + r.len = F.len := by simp [Fo.len] at hk; omega
      clear HH s0 s1 s2 s3 s4 s5 sr hB hT1 hT2 hT3 r4 a4 a5 r5 hT5 hk z2 z3
      have L0 := Lib.hid (Lay.new wr #[.int .i64 xk, .int .i64 xs, .string xn, .string xt, .slice A4 xa.length c4, .slice A5 kids.len c5] 38)
      have B0 : Hid (Below w.heap.size w (wr.alloc (.cells #[.int .i64 xk, .int .i64 xs, .string xn, .string xt, .slice A4 xa.length c4, .slice A5 kids.len c5] 38))) := Lib.hid (HB.out.alloc HB.out.size _)
      have hwl : wr.heap.size < (wr.alloc (.cells #[.int .i64 xk, .int .i64 xs, .string xn, .string xt, .slice A4 xa.length c4, .slice A5 kids.len c5] 38)).heap.size := by simp
      have hbt := baLen xt
      by_cases h2 : xk = 2
      · subst h2
        cases raw with
        | true =>
          obtain ⟨L, ⟨e1, g1⟩, a1⟩ := add_lx m xt (by omega)
          have HL : Hid (L ++ r.ser true = m ++ (nodeText true 2 xs xn xt xa kids ++ r.ser true) ∧ L.length + 8 * (r.len + r.size) ≤ 1048576 * 512) := Lib.hid ⟨by rw [e1, show nodeText true 2 xs xn xt xa kids = xt.data.toList from rfl]; simp, by omega⟩
          clear e1 g1
          go_wp2
          go_roundw
          case rel => exact ⟨k + 1, L, r, rfl, by go_num, hkl1, Lib.hid ⟨by rw [show o + (k + 1) * 6 = o + k * 6 + 6 by omega]; exact HR.out, B0.out, hkn.2.2.2, hkn.2.1, hsm4.2.2, HL.out.2, by rw [HL.out.1]; exact HT5.out⟩⟩
          case measure => simp [intOf]; omega
        | false =>
          have hz := escT_le xt
          obtain ⟨L, ⟨e1, g1⟩, a1⟩ := add_lx m ⟨(escL escT xt.data.toList).toArray⟩ (by rw [sizeL]; omega)
          rw [sizeL] at g1
          have HL : Hid (L ++ r.ser false = m ++ (nodeText false 2 xs xn xt xa kids ++ r.ser false) ∧ L.length + 8 * (r.len + r.size) ≤ 1048576 * 512) := Lib.hid ⟨by rw [e1, show nodeText false 2 xs xn xt xa kids = escL escT xt.data.toList from rfl]; simp, by omega⟩
          have HV : Hid (∀ (W : World), Calls Try.prog 18 #[.string xt] W fun e w' => e = .returned (.string ⟨(escL escT xt.data.toList).toArray⟩) ∧ W = w') := Lib.hid fun W => (l02Text_any xt W hsm4.1).mono fun e w' h => ⟨by rw [h.1, escS_all], h.2⟩
          clear hbt e1 g1 hz
          go_wp2_with (go_at_call 18; refine (HV.out _).mono ?_; rintro e w' ⟨rfl, rfl⟩)
          go_roundw
          case rel => exact ⟨k + 1, L, r, rfl, by go_num, hkl1, Lib.hid ⟨by rw [show o + (k + 1) * 6 = o + k * 6 + 6 by omega]; exact HR.out, B0.out, hkn.2.2.2, hkn.2.1, hsm4.2.2, HL.out.2, by rw [HL.out.1]; exact HT5.out⟩⟩
          case measure => simp [intOf]; omega
      · have h2' : (xk == 2) = false := by simpa using h2
        by_cases h3 : xk = 3
        · subst h3
          obtain ⟨L1, ⟨e1, g1⟩, a1⟩ := add_lx [60, 33, 45, 45] xt (by simp; omega)
          obtain ⟨L2, ⟨e2, g2⟩, a2⟩ := add_lx L1 ⟨#[45, 45, 62]⟩ (by simp at g1; show _ + 3 ≤ _; omega)
          change _ = _ + 3 at g2
          simp at g1
          obtain ⟨L, ⟨e3, g3⟩, a3⟩ := add_lx m ⟨L2.toArray⟩ (by rw [sizeL]; omega)
          rw [sizeL] at g3
          have HL : Hid (L ++ r.ser raw = m ++ (nodeText raw 3 xs xn xt xa kids ++ r.ser raw) ∧ L.length + 8 * (r.len + r.size) ≤ 1048576 * 512) := Lib.hid ⟨by rw [e3, e2, e1, show nodeText raw 3 xs xn xt xa kids = noteText xt from rfl, noteText]; simp, by omega⟩
          clear h2 e1 e2 e3 g1 g2 g3
          go_wp2
          go_roundw
          case rel => exact ⟨k + 1, L, r, rfl, by go_num, hkl1, Lib.hid ⟨by rw [show o + (k + 1) * 6 = o + k * 6 + 6 by omega]; exact HR.out, B0.out, hkn.2.2.2, hkn.2.1, hsm4.2.2, HL.out.2, by rw [HL.out.1]; exact HT5.out⟩⟩
          case measure => simp [intOf]; omega
        · have h3' : (xk == 3) = false := by simpa using h3
          have HK := Lib.hid (And.intro h2 h3)
          have hz3 := tagText_len xn xa
          obtain ⟨L1, ⟨e1, g1⟩, a1⟩ := add_lx m ⟨(tagText xn xa).toArray⟩ (by rw [sizeL]; omega)
          rw [sizeL] at g1
          clear h2 h3
          by_cases hs0 : xs = 0
          · subst hs0
            cases hv : inL voidL xn with
            | true =>
              have HL : Hid (L1 ++ r.ser raw = m ++ (nodeText raw xk 0 xn xt xa kids ++ r.ser raw) ∧ L1.length + 8 * (r.len + r.size) ≤ 1048576 * 512) := Lib.hid ⟨by rw [e1, nodeText, if_neg HK.out.1, if_neg HK.out.2, show hasEnd 0 xn = false by simp [hasEnd, hv]]; simp, by omega⟩
              have HV := Lib.hid hv
              clear e1 g1 hz3 hv
              go_wp2_with (first | (go_at_call 19; refine (l06Start_any xk 0 xn xt xa _ A4 A5 c4 kids.len c5 b4 o4 lo hi HSA.out (by omega) H4.out.1 (AsAt.but H4.out.1 H4.out.2 (But.of_below (C := No) B0.out) hh (fun _ h => False.elim h)) (Nat.le_trans hh B0.out.size)).mono ?_; rintro e w1 ⟨rfl, hB1⟩; have B1 := Lib.hid (B0.out.trans (hB1.mono B0.out.size)); have L1b := Lib.hid (L0.out.below hB1 (by simp)); have hw1 : wr.heap.size < w1.heap.size := Nat.lt_of_lt_of_le hwl hB1.size; clear hB1; have p1 : w1.cell? ⟨wr.heap.size, 1, none⟩ = some (.int .i64 0) := L1b.out.1 1; have p2 : w1.cell? ⟨wr.heap.size, 2, none⟩ = some (.string xn) := L1b.out.1 2; have p5 : w1.cell? ⟨wr.heap.size, 5, none⟩ = some (.slice A5 kids.len c5) := L1b.out.1 5) | (go_at_call 20; refine (l01Void_any xn _).mono ?_; rintro e w2 ⟨rfl, hB2⟩; rw [HV.out]; have B2 := Lib.hid (B1.out.trans (hB2.mono B1.out.size)); have L2b := Lib.hid (L1b.out.below hB2 hw1); have hw2 : wr.heap.size < w2.heap.size := Nat.lt_of_lt_of_le hw1 hB2.size; clear hB2; have q1 : w2.cell? ⟨wr.heap.size, 1, none⟩ = some (.int .i64 0) := L2b.out.1 1; have q2 : w2.cell? ⟨wr.heap.size, 2, none⟩ = some (.string xn) := L2b.out.1 2; have q5 : w2.cell? ⟨wr.heap.size, 5, none⟩ = some (.slice A5 kids.len c5) := L2b.out.1 5))
              go_roundw
              case rel => exact ⟨k + 1, L1, r, rfl, by go_num, hkl1, Lib.hid ⟨by rw [show o + (k + 1) * 6 = o + k * 6 + 6 by omega]; exact HR.out, B2.out, hkn.2.2.2, hkn.2.1, hsm4.2.2, HL.out.2, by rw [HL.out.1]; exact HT5.out⟩⟩
              case measure => simp [intOf]; omega
            | false =>
              have hzk := ser_len (asIs 0 xn) kids
              have hzn := baLen xn
              obtain ⟨L2, ⟨e2, g2⟩, a2⟩ := add_lx (kids.ser (inL rawL xn)) ⟨#[60, 47]⟩ (by show _ + 2 ≤ _; change (kids.ser (inL rawL xn)).length ≤ _ at hzk; omega)
              change _ = _ + 2 at g2
              change (kids.ser (inL rawL xn)).length ≤ _ at hzk
              obtain ⟨L3, ⟨e3, g3⟩, a3⟩ := add_lx L2 xn (by omega)
              obtain ⟨L4, ⟨e4, g4⟩, a4⟩ := add_lx L3 ⟨#[62]⟩ (by show _ + 1 ≤ _; omega)
              change _ = _ + 1 at g4
              obtain ⟨L5, ⟨e5, g5⟩, a5⟩ := add_lx L1 ⟨L4.toArray⟩ (by rw [sizeL]; omega)
              rw [sizeL] at g5
              have HL : Hid (L5 ++ r.ser raw = m ++ (nodeText raw xk 0 xn xt xa kids ++ r.ser raw) ∧ L5.length + 8 * (r.len + r.size) ≤ 1048576 * 512) := Lib.hid ⟨by rw [e5, e4, e3, e2, e1, nodeText, if_neg HK.out.1, if_neg HK.out.2, show hasEnd 0 xn = true by simp [hasEnd, hv], show asIs 0 xn = inL rawL xn by simp [asIs]]; simp [endText], by omega⟩
              have HV := Lib.hid hv
              have hg5 : kids.len + kids.size ≤ 1048576 * 64 := by omega
              clear e1 g1 hz3 hv e2 e3 e4 e5 g2 g3 g4 g5 hzk hzn
              generalize hraw : inL rawL xn = rb at *
              have HW := Lib.hid hraw
              clear hraw
              go_wp2_with (first | (go_at_call 19; refine (l06Start_any xk 0 xn xt xa _ A4 A5 c4 kids.len c5 b4 o4 lo hi HSA.out (by omega) H4.out.1 (AsAt.but H4.out.1 H4.out.2 (But.of_below (C := No) B0.out) hh (fun _ h => False.elim h)) (Nat.le_trans hh B0.out.size)).mono ?_; rintro e w1 ⟨rfl, hB1⟩; have B1 := Lib.hid (B0.out.trans (hB1.mono B0.out.size)); have L1b := Lib.hid (L0.out.below hB1 (by simp)); have hw1 : wr.heap.size < w1.heap.size := Nat.lt_of_lt_of_le hwl hB1.size; clear hB1; have p1 : w1.cell? ⟨wr.heap.size, 1, none⟩ = some (.int .i64 0) := L1b.out.1 1; have p2 : w1.cell? ⟨wr.heap.size, 2, none⟩ = some (.string xn) := L1b.out.1 2; have p5 : w1.cell? ⟨wr.heap.size, 5, none⟩ = some (.slice A5 kids.len c5) := L1b.out.1 5) | (go_at_call 20; refine (l01Void_any xn _).mono ?_; rintro e w2 ⟨rfl, hB2⟩; rw [HV.out]; have B2 := Lib.hid (B1.out.trans (hB2.mono B1.out.size)); have L2b := Lib.hid (L1b.out.below hB2 hw1); have hw2 : wr.heap.size < w2.heap.size := Nat.lt_of_lt_of_le hw1 hB2.size; clear hB2; have q1 : w2.cell? ⟨wr.heap.size, 1, none⟩ = some (.int .i64 0) := L2b.out.1 1; have q2 : w2.cell? ⟨wr.heap.size, 2, none⟩ = some (.string xn) := L2b.out.1 2; have q5 : w2.cell? ⟨wr.heap.size, 5, none⟩ = some (.slice A5 kids.len c5) := L2b.out.1 5))
              clear p1 p2 p5
              go_region_held3 (fun w' => w'.cell? ⟨wr.heap.size, 1, none⟩ = some (.int .i64 0) ∧ w'.cell? ⟨wr.heap.size, 2, none⟩ = some (.string xn) ∧ w'.cell? ⟨wr.heap.size, 5, none⟩ = some (.slice A5 kids.len c5)) (first | exact And.intro u1 (And.intro u2 u5) | exact And.intro v1 (And.intro v2 v5) | go_keep) (first | (go_at_call 21; refine (l01Raw_any xn _).mono ?_; rintro e w3 ⟨rfl, hB3⟩; rw [HW.out]; have B3 := Lib.hid (B2.out.drew.trans (hB3.mono B2.out.size)); have L3b := Lib.hid (Lay.below (w := w2.drew) L2b.out hB3 hw2); have hw3 : wr.heap.size < w3.heap.size := Nat.lt_of_lt_of_le hw2 hB3.size; clear hB3; have v1 : w3.cell? ⟨wr.heap.size, 1, none⟩ = some (.int .i64 0) := L3b.out.1 1; have v2 : w3.cell? ⟨wr.heap.size, 2, none⟩ = some (.string xn) := L3b.out.1 2; have v5 : w3.cell? ⟨wr.heap.size, 5, none⟩ = some (.slice A5 kids.len c5) := L3b.out.1 5) | (go_at_call 11; refine (HI.out kids hkn.2.2.1 rb _ A5 c5 b5 o5 lo hi hkn.1 hg5 hsm4.2.1 (Nat.le_trans hh B3.out.size) H5.out.1 (H5.out.2.but H5.out.1 (But.of_below (C := No) B3.out) hh (fun _ h => h.elim))).mono ?_; rintro e w4 ⟨rfl, hB4⟩; have B4 := Lib.hid (B3.out.trans (hB4.mono B3.out.size)); have L4b := Lib.hid (L3b.out.below hB4 hw3); clear hB4; have u1 : w4.cell? ⟨wr.heap.size, 1, none⟩ = some (.int .i64 0) := L4b.out.1 1; have u2 : w4.cell? ⟨wr.heap.size, 2, none⟩ = some (.string xn) := L4b.out.1 2; have u5 : w4.cell? ⟨wr.heap.size, 5, none⟩ = some (.slice A5 kids.len c5) := L4b.out.1 5))
              go_wp2
              go_roundw
              case rel => exact ⟨k + 1, L5, r, rfl, by go_num, hkl1, Lib.hid ⟨by rw [show o + (k + 1) * 6 = o + k * 6 + 6 by omega]; exact HR.out, B4.out, hkn.2.2.2, hkn.2.1, hsm4.2.2, HL.out.2, by rw [HL.out.1]; exact HT5.out⟩⟩
              case measure => simp [intOf]; omega
          · have hzk := ser_len false kids
            have hzn := baLen xn
            obtain ⟨L2, ⟨e2, g2⟩, a2⟩ := add_lx (kids.ser false) ⟨#[60, 47]⟩ (by show _ + 2 ≤ _; omega)
            change _ = _ + 2 at g2
            obtain ⟨L3, ⟨e3, g3⟩, a3⟩ := add_lx L2 xn (by omega)
            obtain ⟨L4, ⟨e4, g4⟩, a4⟩ := add_lx L3 ⟨#[62]⟩ (by show _ + 1 ≤ _; omega)
            change _ = _ + 1 at g4
            obtain ⟨L5, ⟨e5, g5⟩, a5⟩ := add_lx L1 ⟨L4.toArray⟩ (by rw [sizeL]; omega)
            rw [sizeL] at g5
            have HL : Hid (L5 ++ r.ser raw = m ++ (nodeText raw xk xs xn xt xa kids ++ r.ser raw) ∧ L5.length + 8 * (r.len + r.size) ≤ 1048576 * 512) := Lib.hid ⟨by rw [e5, e4, e3, e2, e1, nodeText, if_neg HK.out.1, if_neg HK.out.2, show hasEnd xs xn = true by simp [hasEnd, hs0], show asIs xs xn = false by simp [asIs, hs0]]; simp [endText], by omega⟩
            have hs0' : (xs == 0) = false := by simpa using hs0
            have hg5 : kids.len + kids.size ≤ 1048576 * 64 := by omega
            clear e1 g1 hz3 e2 e3 e4 e5 g2 g3 g4 g5 hzk hzn hs0
            go_wp2_with (go_at_call 19; refine (l06Start_any xk xs xn xt xa _ A4 A5 c4 kids.len c5 b4 o4 lo hi HSA.out (by omega) H4.out.1 (AsAt.but H4.out.1 H4.out.2 (But.of_below (C := No) B0.out) hh (fun _ h => False.elim h)) (Nat.le_trans hh B0.out.size)).mono ?_; rintro e w1 ⟨rfl, hB1⟩; have B1 := Lib.hid (B0.out.trans (hB1.mono B0.out.size)); have L1b := Lib.hid (L0.out.below hB1 (by simp)); have hw1 : wr.heap.size < w1.heap.size := Nat.lt_of_lt_of_le hwl hB1.size; clear hB1; have p1 : w1.cell? ⟨wr.heap.size, 1, none⟩ = some (.int .i64 xs) := L1b.out.1 1; have p2 : w1.cell? ⟨wr.heap.size, 2, none⟩ = some (.string xn) := L1b.out.1 2; have p5 : w1.cell? ⟨wr.heap.size, 5, none⟩ = some (.slice A5 kids.len c5) := L1b.out.1 5)
            refine wp_region_held_drew (S := fun w' => w'.cell? ⟨wr.heap.size, 1, none⟩ = some (.int .i64 xs) ∧ w'.cell? ⟨wr.heap.size, 2, none⟩ = some (.string xn) ∧ w'.cell? ⟨wr.heap.size, 5, none⟩ = some (.slice A5 kids.len c5)) (by kernel_rfl) ⟨p1, p2, p5⟩ (fun hHeld => ?_)
            refine wpAnyH_take (i := 0) (v := .string ⟨L1.toArray⟩) rfl (by kernel_rfl) (by kernel_rfl) (by kernel_rfl) (fun _ _ _ h => h) (Or.inl ⟨by rfl, fun w hSw => by (try dsimp only at hSw); go_simp⟩) (by assumption) ?_; (try simp only [Act.put, List.setIfInBounds_toArray, List.set_cons_zero, List.set_cons_succ, List.getElem_toArray, List.getElem_cons_zero, List.getElem_cons_succ])
            refine wpAnyH_take (i := 1) (v := .pointer (some ⟨wr.heap.size, 5, none⟩)) rfl (by kernel_rfl) (by kernel_rfl) (by kernel_rfl) (fun _ _ _ h => h) (Or.inl ⟨by rfl, fun w hSw => by (try dsimp only at hSw); go_simp⟩) (by assumption) ?_; (try simp only [Act.put, List.setIfInBounds_toArray, List.set_cons_zero, List.set_cons_succ, List.getElem_toArray, List.getElem_cons_zero, List.getElem_cons_succ])
            refine wpAnyH_take (i := 2) (v := .slice A5 kids.len c5) rfl (by kernel_rfl) (by kernel_rfl) (by kernel_rfl) (fun _ _ _ h => h) (Or.inl ⟨by rfl, fun w hSw => by (try dsimp only at hSw); go_simp⟩) (by assumption) ?_; (try simp only [Act.put, List.setIfInBounds_toArray, List.set_cons_zero, List.set_cons_succ, List.getElem_toArray, List.getElem_cons_zero, List.getElem_cons_succ])
            refine wpAnyH_take (i := 3) (v := .pointer (some ⟨wr.heap.size, 1, none⟩)) rfl (by kernel_rfl) (by kernel_rfl) (by kernel_rfl) (fun _ _ _ h => h) (Or.inl ⟨by rfl, fun w hSw => by (try dsimp only at hSw); go_simp⟩) (by assumption) ?_; (try simp only [Act.put, List.setIfInBounds_toArray, List.set_cons_zero, List.set_cons_succ, List.getElem_toArray, List.getElem_cons_zero, List.getElem_cons_succ])
            refine wpAnyH_take (i := 4) (v := .int .i64 xs) rfl (by kernel_rfl) (by kernel_rfl) (by kernel_rfl) (fun _ _ _ h => h) (Or.inl ⟨by rfl, fun w hSw => by (try dsimp only at hSw); go_simp⟩) (by assumption) ?_; (try simp only [Act.put, List.setIfInBounds_toArray, List.set_cons_zero, List.set_cons_succ, List.getElem_toArray, List.getElem_cons_zero, List.getElem_cons_succ])
            refine wpAnyH_take (i := 5) (v := .bool false) rfl (by kernel_rfl) (by kernel_rfl) (by kernel_rfl) (fun _ _ _ h => h) (Or.inl ⟨by rfl, fun w hSw => by (try dsimp only at hSw); go_simp⟩) (by assumption) ?_; (try simp only [Act.put, List.setIfInBounds_toArray, List.set_cons_zero, List.set_cons_succ, List.getElem_toArray, List.getElem_cons_zero, List.getElem_cons_succ])
            refine wpAnyH_take (i := 6) (v := .bool false) rfl (by kernel_rfl) (by kernel_rfl) (by kernel_rfl) (fun _ _ _ h => h) (Or.inl ⟨by rfl, fun w hSw => by (try dsimp only at hSw); go_simp⟩) (by assumption) ?_; (try simp only [Act.put, List.setIfInBounds_toArray, List.set_cons_zero, List.set_cons_succ, List.getElem_toArray, List.getElem_cons_zero, List.getElem_cons_succ])
            refine wpAnyH_take (i := 7) (v := undef) rfl (by kernel_rfl) (by kernel_rfl) (by kernel_rfl) (fun _ _ _ h => h) (Or.inr ⟨by rfl, rfl⟩) (by assumption) ?_; (try simp only [Act.put, List.setIfInBounds_toArray, List.set_cons_zero, List.set_cons_succ, List.getElem_toArray, List.getElem_cons_zero, List.getElem_cons_succ])
            refine wpAnyH_take (i := 8) (v := undef) rfl (by kernel_rfl) (by kernel_rfl) (by kernel_rfl) (fun _ _ _ h => h) (Or.inr ⟨by rfl, rfl⟩) (by assumption) ?_; (try simp only [Act.put, List.setIfInBounds_toArray, List.set_cons_zero, List.set_cons_succ, List.getElem_toArray, List.getElem_cons_zero, List.getElem_cons_succ])
            refine wpAnyH_take (i := 9) (v := undef) rfl (by kernel_rfl) (by kernel_rfl) (by kernel_rfl) (fun _ _ _ h => h) (Or.inr ⟨by rfl, rfl⟩) (by assumption) ?_; (try simp only [Act.put, List.setIfInBounds_toArray, List.set_cons_zero, List.set_cons_succ, List.getElem_toArray, List.getElem_cons_zero, List.getElem_cons_succ])
            refine wpAnyH_take (i := 10) (v := .bool false) rfl (by kernel_rfl) (by kernel_rfl) (by kernel_rfl) (fun _ _ _ h => h) (Or.inl ⟨by rfl, fun w hSw => by (try dsimp only at hSw); go_simp⟩) (by assumption) ?_; (try simp only [Act.put, List.setIfInBounds_toArray, List.set_cons_zero, List.set_cons_succ, List.getElem_toArray, List.getElem_cons_zero, List.getElem_cons_succ])
            refine wpAnyH_take (i := 13) (v := .pointer (some ⟨wr.heap.size, 2, none⟩)) rfl (by kernel_rfl) (by kernel_rfl) (by kernel_rfl) (fun _ _ _ h => h) (Or.inl ⟨by rfl, fun w hSw => by (try dsimp only at hSw); go_simp⟩) (by assumption) ?_; (try simp only [Act.put, List.setIfInBounds_toArray, List.set_cons_zero, List.set_cons_succ, List.getElem_toArray, List.getElem_cons_zero, List.getElem_cons_succ])
            refine wpAnyH_take (i := 14) (v := .string xn) rfl (by kernel_rfl) (by kernel_rfl) (by kernel_rfl) (fun _ _ _ h => h) (Or.inl ⟨by rfl, fun w hSw => by (try dsimp only at hSw); go_simp⟩) (by assumption) ?_; (try simp only [Act.put, List.setIfInBounds_toArray, List.set_cons_zero, List.set_cons_succ, List.getElem_toArray, List.getElem_cons_zero, List.getElem_cons_succ])
            refine wpAnyH_ready (rs := [11]) (by kernel_rfl) (by simp) ?_; refine AllReadyH.cons rfl (fun K hK => ?_) AllReadyH.nil; go_simp; (go_at_call 11; refine (HI.out kids hkn.2.2.1 false _ A5 c5 b5 o5 lo hi hkn.1 hg5 hsm4.2.1 (Nat.le_trans hh B1.out.drew.size) H5.out.1 (H5.out.2.but H5.out.1 (But.of_below (C := No) B1.out.drew) hh (fun _ h => h.elim))).mono ?_; rintro e w4 ⟨rfl, hB4⟩; have B4 := Lib.hid (B1.out.drew.trans (hB4.mono B1.out.drew.size)); have L4b := Lib.hid ((Lay.below (w := w1.drew) L1b.out hB4 hw1)); clear hB4; have u1 : w4.cell? ⟨wr.heap.size, 1, none⟩ = some (.int .i64 xs) := L4b.out.1 1; have u2 : w4.cell? ⟨wr.heap.size, 2, none⟩ = some (.string xn) := L4b.out.1 2; have u5 : w4.cell? ⟨wr.heap.size, 5, none⟩ = some (.slice A5 kids.len c5) := L4b.out.1 5); (try go_wp2_with fail); refine hK.out _ _ ⟨u1, u2, u5⟩ (fun hHeld => ?_); clear hK K; (try simp only [Act.put, List.setIfInBounds_toArray, List.set_cons_zero, List.set_cons_succ, List.getElem_toArray, List.getElem_cons_zero, List.getElem_cons_succ])
            refine wpAnyH_take (i := 12) (v := .string ⟨L2.toArray⟩) rfl (by kernel_rfl) (by kernel_rfl) (by kernel_rfl) (fun _ _ _ h => h) (Or.inl ⟨by rfl, fun w hSw => by (try dsimp only at hSw); go_simp⟩) (by assumption) ?_; (try simp only [Act.put, List.setIfInBounds_toArray, List.set_cons_zero, List.set_cons_succ, List.getElem_toArray, List.getElem_cons_zero, List.getElem_cons_succ])
            refine wpAnyH_take (i := 15) (v := .string ⟨L3.toArray⟩) rfl (by kernel_rfl) (by kernel_rfl) (by kernel_rfl) (fun _ _ _ h => h) (Or.inl ⟨by rfl, fun w hSw => by (try dsimp only at hSw); go_simp⟩) (by assumption) ?_; (try simp only [Act.put, List.setIfInBounds_toArray, List.set_cons_zero, List.set_cons_succ, List.getElem_toArray, List.getElem_cons_zero, List.getElem_cons_succ])
            refine wpAnyH_take (i := 16) (v := .string ⟨L4.toArray⟩) rfl (by kernel_rfl) (by kernel_rfl) (by kernel_rfl) (fun _ _ _ h => h) (Or.inl ⟨by rfl, fun w hSw => by (try dsimp only at hSw); go_simp⟩) (by assumption) ?_; (try simp only [Act.put, List.setIfInBounds_toArray, List.set_cons_zero, List.set_cons_succ, List.getElem_toArray, List.getElem_cons_zero, List.getElem_cons_succ])
            refine wpAnyH_take (i := 17) (v := .string ⟨L5.toArray⟩) rfl (by kernel_rfl) (by kernel_rfl) (by kernel_rfl) (fun _ _ _ h => h) (Or.inl ⟨by rfl, fun w hSw => by (try dsimp only at hSw); go_simp⟩) (by assumption) ?_; (try simp only [Act.put, List.setIfInBounds_toArray, List.set_cons_zero, List.set_cons_succ, List.getElem_toArray, List.getElem_cons_zero, List.getElem_cons_succ])
            refine wpAnyH_take (i := 18) (v := .string ⟨L5.toArray⟩) rfl (by kernel_rfl) (by kernel_rfl) (by kernel_rfl) (fun _ _ _ h => h) (Or.inl ⟨by rfl, fun w hSw => by (try dsimp only at hSw); go_simp⟩) (by assumption) ?_; (try simp only [Act.put, List.setIfInBounds_toArray, List.set_cons_zero, List.set_cons_succ, List.getElem_toArray, List.getElem_cons_zero, List.getElem_cons_succ])
            refine wpAnyH_done (by kernel_rfl) ?_ _
            go_wp2
            go_roundw
            case rel => exact ⟨k + 1, L5, r, rfl, by go_num, hkl1, Lib.hid ⟨by rw [show o + (k + 1) * 6 = o + k * 6 + 6 by omega]; exact HR.out, B4.out, hkn.2.2.2, hkn.2.1, hsm4.2.2, HL.out.2, by rw [HL.out.1]; exact HT5.out⟩⟩
            case measure => simp [intOf]; omega
theorem l06Tree_any (F : Fo) : SerOK F := l06Tree_lt (F.nodes + 1) F (Nat.lt_succ_self _)
end Go.Proofs.Ytocpmkpffhmlaaa
