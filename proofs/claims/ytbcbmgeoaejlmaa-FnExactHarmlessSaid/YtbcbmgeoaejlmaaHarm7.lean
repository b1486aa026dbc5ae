
import Derived.Test.YtbcbmgeoaejlmaaHarm6
namespace Go.Proofs.Ytbcbmgeoaejlmaa
open Go.ChangeShapes Go.WideShapes Go.ChangeAt Go.RowKit Go.Deep

def anyF (p : Nd → Fo → Bool) : Fo → Bool
  | .nil => false
  | .cons k sp n t al kids rest => p ⟨k, sp, n, t, al⟩ kids || anyF p kids || anyF p rest
theorem firstF_any (p : Nd → Fo → Bool) : ∀ (F : Fo) (ch : List NP) (j : Nat), (firstF p F ch j).isSome = anyF p F
  | .nil, _, _ => rfl
  | .cons k sp n t al kids rest, ch, j => by
    rw [firstF, anyF]
    by_cases hp : p ⟨k, sp, n, t, al⟩ kids = true
    · simp [hp]
    · have h1 := firstF_any p kids ((⟨k, sp, n, t, al⟩, j, kids) :: ch) 0
      have h2 := firstF_any p rest ch (j + 1)
      have hp' : p ⟨k, sp, n, t, al⟩ kids = false := by simpa using hp
      rw [if_neg hp, hp', ← h1, ← h2]
      cases firstF p kids ((⟨k, sp, n, t, al⟩, j, kids) :: ch) 0 with
      | some c => simp
      | none => simp
theorem good_fine {F : Fo} (h : goodB F = true) : SFine F := by
  have : Good F := by simpa [goodB] using h
  exact ((good_at F).1 this).2.2

def HarmOK (F : Fo) : Prop := ∀ (w : World) (A : Option Addr) (c b o lo hi : Nat), F.nodes ≤ 1048576 → SFine F → hi ≤ w.heap.size → RowAt lo hi A F.len b o → FoAt w lo hi b o F →
    Calls Try.prog 82 #[.slice A F.len c] w fun e w' => e = .returned (.bool (!anyF (fun x _ => harmNd x) F)) ∧ Below w.heap.size w w'
set_option maxHeartbeats 1000000 in
theorem l08Harmless_lt : ∀ (N : Nat) (F : Fo), F.nodes < N → HarmOK F := by
  intro N
  induction N with
  | zero => intro F hF; omega
  | succ N IH =>
  intro F hF w A c b o lo hi hnd hfi hh hA hFo
  have hlen := hA.1
  unfold maxLen at hlen
  have hln := Fo.len_le_nodes F
  have HA := Lib.hid hA
  have HS := Lib.hid (And.intro hFo hfi)
  have HF := Lib.hid hF
  have HI := Lib.hid IH
  clear hA hFo hF IH hfi
  go_enter Try.func82, Try.ntmps82
  go_wp2
  go_loopw [3] (fun i wr => ∃ (k : Nat) (suf : Fo), i = .int .i64 (k : Int) ∧ k + suf.len = F.len ∧ Hid (FoAt w lo hi b (o + k * 6) suf ∧ Below w.heap.size w wr ∧ suf.nodes < N + 1 ∧ suf.nodes ≤ 1048576 ∧ anyF (fun x _ => harmNd x) F = anyF (fun x _ => harmNd x) suf ∧ SFine suf)) (fun i wr => F.len - (intOf i).toNat)
  case atStart => exact ⟨0, F, rfl, by omega, Lib.hid ⟨by simpa using HS.out.1, Below.refl _ _, HF.out, hnd, rfl, HS.out.2⟩⟩
  case round =>
    obtain ⟨k, suf, rfl, hk, HH⟩ := hrel
    cases suf with
    | nil =>
      have hkl : k = F.len := by simpa [Fo.len] using hk
      clear hk
      subst hkl
      go_wp2
      go_ret
      exact ⟨by rw [HH.out.2.2.2.2.1]; rfl, HH.out.2.1⟩
    | cons xk xs xn xt xa kids r =>
      obtain ⟨⟨⟨s0, s1, s2, s3, z2, z3⟩, ⟨A4, c4, b4, o4, s4, r4, a4⟩, ⟨A5, c5, b5, o5, s5, r5, a5⟩, sr⟩, hB, hT1, hT2, hT3, f1, _, f3, f4⟩ := HH.out
      obtain ⟨rfl, hlo, hhi⟩ := HA.out.2 (by simp [Fo.len] at hk; omega)
      have hkl : k < F.len := by simp [Fo.len] at hk; omega
      have hb : b < w.heap.size := by omega
      have t0 := (hB.cell (p := ⟨b, _, none⟩) hb).trans s0
      have t1 := (hB.cell (p := ⟨b, _, none⟩) hb).trans s1
      have t2 := (hB.cell (p := ⟨b, _, none⟩) hb).trans s2
      have t3 := (hB.cell (p := ⟨b, _, none⟩) hb).trans s3
      have t4 := (hB.cell (p := ⟨b, _, none⟩) hb).trans s4
      have t5 := (hB.cell (p := ⟨b, _, none⟩) hb).trans s5
      have HB := Lib.hid hB
      have HR := Lib.hid (And.intro sr f4)
      have H4 := Lib.hid a4
      have R4 := Lib.hid r4.2
      have H5 := Lib.hid (And.intro a5 f3)
      have R5 := Lib.hid r5.2
      have HN := Lib.hid (And.intro f1 z2)
      have HT := Lib.hid (And.intro hT1 (And.intro hT2 hT3))
      have hkn : kids.nodes ≤ 1048576 ∧ r.nodes ≤ 1048576 := by simp [Fo.nodes] at hT2; omega
      clear HH s0 s1 s2 s3 s4 s5 sr hB hT1 hT2 hT3 a4 r4 a5 r5 f1 f3 f4 z2 z3
      cases hq : harmNd ⟨xk, xs, xn, xt, xa⟩ with
      | true =>
        have HQ := Lib.hid hq
        clear hq
        go_wp2_with fail
        refine (l08Harm_any ⟨xk, xs, xn, xt, xa⟩ HN.out.1 _ A4 A5 c4 kids.len c5 b4 o4 lo hi R4.out (Nat.le_trans hh HB.out.size) (H4.out.but R4.out (But.of_below (C := No) HB.out) hh (fun _ h => h.elim)) HN.out.2).mono ?_
        rintro e w1 ⟨rfl, hB⟩
        rw [HQ.out]
        have HB := Lib.hid (HB.out.trans (hB.mono HB.out.size))
        clear hB t0 t1 t2 t3 t4 t5
        go_wp2
        go_ret
        exact ⟨by rw [HT.out.2.2, anyF, HQ.out]; rfl, HB.out⟩
      | false =>
        have HQ := Lib.hid hq
        clear hq
        cases hz : anyF (fun x _ => harmNd x) kids with
        | true =>
          have HZ := Lib.hid hz
          clear hz
          go_wp2_with fail
          refine (l08Harm_any ⟨xk, xs, xn, xt, xa⟩ HN.out.1 _ A4 A5 c4 kids.len c5 b4 o4 lo hi R4.out (Nat.le_trans hh HB.out.size) (H4.out.but R4.out (But.of_below (C := No) HB.out) hh (fun _ h => h.elim)) HN.out.2).mono ?_
          rintro e w1 ⟨rfl, hB⟩
          rw [HQ.out]
          have u5 := (hB.cell (p := ⟨b, o + k * 6 + 5, none⟩) (Nat.lt_of_lt_of_le hb HB.out.size)).trans t5
          have HB := Lib.hid (HB.out.trans (hB.mono HB.out.size))
          clear hB t0 t1 t2 t3 t4 t5
          go_wp2_with fail
          refine (HI.out kids (by have := HT.out.1; simp [Fo.nodes] at this; omega) _ A5 c5 b5 o5 lo hi hkn.1 H5.out.2 (Nat.le_trans hh HB.out.size) R5.out (H5.out.1.but R5.out (But.of_below (C := No) HB.out) hh (fun _ h => h.elim))).mono ?_
          rintro e w2 ⟨rfl, hB⟩
          rw [HZ.out]
          have HB := Lib.hid (HB.out.trans (hB.mono HB.out.size))
          clear hB u5
          go_wp2
          go_ret
          exact ⟨by rw [HT.out.2.2, anyF, HQ.out, HZ.out]; rfl, HB.out⟩
        | false =>
          have HZ := Lib.hid hz
          clear hz
          go_wp2_with fail
          refine (l08Harm_any ⟨xk, xs, xn, xt, xa⟩ HN.out.1 _ A4 A5 c4 kids.len c5 b4 o4 lo hi R4.out (Nat.le_trans hh HB.out.size) (H4.out.but R4.out (But.of_below (C := No) HB.out) hh (fun _ h => h.elim)) HN.out.2).mono ?_
          rintro e w1 ⟨rfl, hB⟩
          rw [HQ.out]
          have u5 := (hB.cell (p := ⟨b, o + k * 6 + 5, none⟩) (Nat.lt_of_lt_of_le hb HB.out.size)).trans t5
          have HB := Lib.hid (HB.out.trans (hB.mono HB.out.size))
          clear hB t0 t1 t2 t3 t4 t5
          go_wp2_with fail
          refine (HI.out kids (by have := HT.out.1; simp [Fo.nodes] at this; omega) _ A5 c5 b5 o5 lo hi hkn.1 H5.out.2 (Nat.le_trans hh HB.out.size) R5.out (H5.out.1.but R5.out (But.of_below (C := No) HB.out) hh (fun _ h => h.elim))).mono ?_
          rintro e w2 ⟨rfl, hB⟩
          rw [HZ.out]
          have HB := Lib.hid (HB.out.trans (hB.mono HB.out.size))
          clear hB u5
          go_wp2
          go_roundw
          case rel => exact ⟨k + 1, r, by go_num, by simp [Fo.len] at hk; omega, Lib.hid ⟨by rw [show o + (k + 1) * 6 = o + k * 6 + 6 by omega]; exact HR.out.1, HB.out, by have := HT.out.1; simp [Fo.nodes] at this; omega, hkn.2, by rw [HT.out.2.2, anyF, HQ.out, HZ.out]; rfl, HR.out.2⟩⟩
          case measure => simp [intOf]; omega
theorem l08Harmless_any (F : Fo) : HarmOK F := l08Harmless_lt (F.nodes + 1) F (Nat.lt_succ_self _)

theorem harmless_is (F : Fo) : harmlessB F = (goodB F && !anyF (fun x _ => harmNd x) F) := by
  unfold harmlessB hcode
  rw [firstF_any]
  cases hg : goodB F with
  | true =>
    rw [if_pos (fault_ok (good_len hg) hg)]
    cases anyF (fun x _ => harmNd x) F <;> rfl
  | false =>
    by_cases hl : F.len ≤ 4096
    · rw [fault_bad hl hg]; rfl
    · rw [fault_long hl]; rfl
theorem specHarmless_any (F : Fo) (w : World) (A : Option Addr) (c b o lo hi : Nat) (hd : F.nodes ≤ 1048576) (hh : hi ≤ w.heap.size) (hA : RowAt lo hi A F.len b o) (hF : FoAt w lo hi b o F) :
    Calls Try.prog 29 #[.slice A F.len c] w fun e w' => e = .returned (.bool (harmlessB F)) ∧ Below w.heap.size w w' := by
  have hln := Fo.len_le_nodes F
  have HA := Lib.hid hA
  have HF := Lib.hid hF
  have HM := Lib.hid (harmless_is F)
  clear hA hF
  by_cases hl : F.len ≤ 4096
  · cases hg : goodB F with
    | true =>
      have HG := Lib.hid hg
      clear hg
      go_enter Try.func29, Try.ntmps29
      go_wp2_with (first
        | (go_at_call 81; refine (l03Tree_any F _ A c b o lo hi hd hh HA.out HF.out).mono ?_; rintro e w1 ⟨rfl, hB⟩; rw [HG.out]; have B1 := Lib.hid hB; clear hB)
        | (go_at_call 82; refine (l08Harmless_any F _ A c b o lo hi hd (good_fine HG.out) (Nat.le_trans hh B1.out.size) HA.out (HF.out.but HA.out (But.of_below (C := No) B1.out) hh (fun _ h => h.elim))).mono ?_; rintro e w2 ⟨rfl, hB⟩; have B2 := Lib.hid (B1.out.trans (hB.mono B1.out.size)); clear hB))
      go_ret
      exact ⟨ret_bool (by rw [HM.out, HG.out]; rfl), B2.out⟩
    | false =>
      have HG := Lib.hid hg
      clear hg
      go_enter Try.func29, Try.ntmps29
      go_wp2_with (go_at_call 81; refine (l03Tree_any F _ A c b o lo hi hd hh HA.out HF.out).mono ?_; rintro e w1 ⟨rfl, hB⟩; rw [HG.out]; have B1 := Lib.hid hB; clear hB)
      go_ret
      exact ⟨ret_bool (by rw [HM.out, HG.out]; rfl), B1.out⟩
  · have hl' : (F.len : Int) > 4096 := by omega
    have HG : Hid (goodB F = false) := Lib.hid (by cases h : goodB F with | false => rfl | true => exact absurd (good_len h) hl)
    go_enter Try.func29, Try.ntmps29
    go_wp2
    go_ret
    exact ⟨ret_bool (by rw [HM.out, HG.out]; rfl), Below.refl _ _⟩
end Go.Proofs.Ytbcbmgeoaejlmaa
