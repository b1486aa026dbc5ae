
import Derived.Test.YtgkkmoliobhpiaaHeld
namespace Go.Proofs.Ytgkkmoliobhpiaa
open Go.ChangeShapes Go.WideShapes Go.ChangeAt Go.RowKit Go.Deep

def HeldOK (F : Fo) : Prop := ∀ (m : Nat) (w : World) (A : Option Addr) (c b o lo hi : Nat), 1 ≤ m → m + F.cnt ≤ 1073741824 → RowAt lo hi A F.len b o → hi ≤ w.heap.size → FoAt w lo hi b o (markFo F m) →
    Calls Try.prog 25 #[.slice A F.len c, .int .i64 (m : Int)] w fun e w' => e = .returned (.int .i64 ((m + F.cnt : Nat) : Int)) ∧ Below w.heap.size w w'
theorem heldAttrS_at (i : Int) (al : List (ByteArray × ByteArray)) (m : Nat) (hi' : i = (m : Int)) (w : World) (A : Option Addr) (c b o lo hi : Nat) (h1 : 1 ≤ m) (h2 : m + 2 * al.length ≤ 1073741824) (hA : RowAt lo hi A al.length b o) (hh : hi ≤ w.heap.size) (hal : AsAt w b o (markAl al m)) :
    Calls Try.prog 41 #[.slice A al.length c, .int .i64 i] w fun e w' => e = .returned (.int .i64 ((m + 2 * al.length : Nat) : Int)) ∧ Below w.heap.size w w' := by
  subst hi'
  exact heldAttrS_any al m w A c b o lo hi h1 h2 hA hh hal
theorem HeldOK.at {F : Fo} (h : HeldOK F) (i : Int) (m : Nat) (hi' : i = (m : Int)) (w : World) (A : Option Addr) (c b o lo hi : Nat) (h1 : 1 ≤ m) (h2 : m + F.cnt ≤ 1073741824) (hA : RowAt lo hi A F.len b o) (hh : hi ≤ w.heap.size) (hF : FoAt w lo hi b o (markFo F m)) :
    Calls Try.prog 25 #[.slice A F.len c, .int .i64 i] w fun e w' => e = .returned (.int .i64 ((m + F.cnt : Nat) : Int)) ∧ Below w.heap.size w w' := by
  subst hi'
  exact h m w A c b o lo hi h1 h2 hA hh hF
set_option maxHeartbeats 4000000 in
theorem heldNodeS_lt : ∀ (N : Nat) (F : Fo), F.nodes < N → HeldOK F := by
  intro N
  induction N with
  | zero => intro F hF; omega
  | succ N IH =>
  intro F hF m w A c b o lo hi h1 h2 hA hh hFo
  have hlen := hA.1
  unfold maxLen at hlen
  have HA := Lib.hid hA
  have HS := Lib.hid hFo
  have HF := Lib.hid hF
  have HI := Lib.hid IH
  clear hA hFo hF IH
  go_enter Try.func25, Try.ntmps25
  go_wp2
  go_loopw [1, 5] (fun x i wr => ∃ (k mm : Nat) (suf : Fo), x = .int .i64 (mm : Int) ∧ i = .int .i64 (k : Int) ∧ k + suf.len = F.len ∧ mm + suf.cnt = m + F.cnt ∧ 1 ≤ mm ∧ Hid (FoAt w lo hi b (o + k * 6) (markFo suf mm) ∧ Below w.heap.size w wr ∧ suf.nodes < N + 1)) (fun x i wr => F.len - (intOf i).toNat)
  case atStart => exact ⟨0, m, F, rfl, rfl, by omega, rfl, h1, Lib.hid ⟨by simpa using HS.out, Below.refl _ _, HF.out⟩⟩
  case round =>
    obtain ⟨k, mm, suf, rfl, rfl, hk, hmm, hm1, HH⟩ := hrel
    cases suf with
    | nil =>
      have hkl : k = F.len := by simpa [Fo.len] using hk
      have hml : mm = m + F.cnt := by simpa [Fo.cnt] using hmm
      clear hk hmm
      subst hkl
      subst hml
      go_wp2
      go_ret
      exact ⟨rfl, HH.out.2.1⟩
    | cons xk xs xn xt xa kids r =>
      obtain ⟨⟨⟨s0, s1, s2, s3, _, _⟩, ⟨A4, c4, b4, o4, s4, r4, a4⟩, ⟨A5, c5, b5, o5, s5, r5, a5⟩, sr⟩, hB, hT⟩ := HH.out
      rw [markAl_len] at s4 r4
      rw [markFo_len] at s5 r5
      simp only [Fo.len] at hk
      simp only [Fo.cnt] at hmm
      obtain ⟨rfl, hlo, hhi⟩ := HA.out.2 (by omega)
      have hkl : k < F.len := by omega
      have hb : b < w.heap.size := by omega
      have t0 := (hB.cell (p := ⟨b, o + k * 6, none⟩) hb).trans s0
      have t1 := (hB.cell (p := ⟨b, o + k * 6 + 1, none⟩) hb).trans s1
      have t2 := (hB.cell (p := ⟨b, o + k * 6 + 2, none⟩) hb).trans s2
      have e1 : (((mm + 1 : Nat) : Int) != (mm : Int) + 1) = false := by simp
      have HC := Lib.hid (And.intro s2 (And.intro s3 (And.intro s4 s5)))
      have H4 := Lib.hid (And.intro r4 a4)
      have H5 := Lib.hid (And.intro r5 a5)
      have HR := Lib.hid sr
      have HB := Lib.hid hB
      have HT : Hid (kids.nodes < N ∧ r.nodes < N + 1) := Lib.hid (by simp [Fo.nodes] at hT; omega)
      clear HH s0 s1 s2 s3 s4 s5 sr hB hT r4 a4 r5 a5
      go_wp2_with fail
      have hbr : b < wr.heap.size := Nat.lt_of_lt_of_le hb HB.out.size
      go_region_held3 (fun w' => w'.cell? ⟨b, o + k * 6 + 2, none⟩ = some (.string (markT (mm + 2)))) (first | exact u2 | go_keep) (first | (go_at_call 39; refine (markText_at (mm + 2) _ (by omega) (by omega) (by omega) _).mono ?_; rintro e w1 ⟨rfl, hB1⟩; have u2 := (hB1.cell (p := ⟨b, o + k * 6 + 2, none⟩) hbr).trans t2; have B1 := Lib.hid (HB.out.drew.trans (hB1.mono HB.out.size)); clear hB1))
      have hb1 : b < w1.heap.size := Nat.lt_of_lt_of_le hb B1.out.size
      have v3 := (B1.out.cell (p := ⟨b, o + k * 6 + 3, none⟩) hb).trans HC.out.2.1
      go_wp2_with fail
      go_region_held3 (fun w' => w'.cell? ⟨b, o + k * 6 + 3, none⟩ = some (.string (markT (mm + 3)))) (first | exact u3 | go_keep) (first | (go_at_call 39; refine (markText_at (mm + 3) _ (by omega) (by omega) (by omega) _).mono ?_; rintro e w2 ⟨rfl, hB2⟩; have u3 := (hB2.cell (p := ⟨b, o + k * 6 + 3, none⟩) hb1).trans v3; have B2 := Lib.hid (B1.out.drew.trans (hB2.mono B1.out.size)); clear hB2))
      have v4 := (B2.out.cell (p := ⟨b, o + k * 6 + 4, none⟩) hb).trans HC.out.2.2.1
      clear t0 t1 t2 v3 u2 u3 e1
      go_wp2_with fail
      refine (heldAttrS_at _ xa (mm + 4) (by omega) _ A4 c4 b4 o4 lo hi (by omega) (by omega) H4.out.1.2 (Nat.le_trans hh B2.out.size) (AsAt.but (al := markAl xa (mm + 4)) (by rw [markAl_len]; exact H4.out.1.2) H4.out.2 (But.of_below (C := No) B2.out) hh (fun _ h => False.elim h))).mono ?_
      rintro e w3 ⟨rfl, hB3⟩
      have B3 := Lib.hid (B2.out.trans (hB3.mono B2.out.size))
      have v5 := (B3.out.cell (p := ⟨b, o + k * 6 + 5, none⟩) hb).trans HC.out.2.2.2
      clear hB3 v4
      go_wp2_with fail
      refine ((HI.out kids HT.out.1).at _ (mm + 4 + 2 * xa.length) (by omega) _ A5 c5 b5 o5 lo hi (by omega) (by omega) H5.out.1.2 (Nat.le_trans hh B3.out.size) (FoAt.but (F := markFo kids (mm + 4 + 2 * xa.length)) (by rw [markFo_len]; exact H5.out.1.2) H5.out.2 (But.of_below (C := No) B3.out) hh (fun _ h => False.elim h))).mono ?_
      rintro e w4 ⟨rfl, hB4⟩
      have B4 := Lib.hid (B3.out.trans (hB4.mono B3.out.size))
      clear hB4 v5
      go_wp2_with fail
      go_roundw
      case rel => exact ⟨k + 1, mm + 4 + 2 * xa.length + kids.cnt, r, by go_num, by go_num, by omega, by omega, by omega, Lib.hid ⟨by rw [show o + (k + 1) * 6 = o + k * 6 + 6 by omega]; exact HR.out, B4.out, HT.out.2⟩⟩
      case measure => simp [intOf]; omega
theorem heldNodeS_any (F : Fo) : HeldOK F := heldNodeS_lt (F.nodes + 1) F (Nat.lt_succ_self _)
end Go.Proofs.Ytgkkmoliobhpiaa
