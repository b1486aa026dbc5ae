import Derived.Deep.RegionHeld3
import Derived.Test.YtpennadfomnenaaGreatDoorQ11
import Derived.Test.YtpennadfomnenaaGreatDoorQ09
import Derived.Test.YtpennadfomnenaaGreatDoorQ40
import Derived.Test.YtpennadfomnenaaGreatDoorQ13
set_option linter.unusedVariables false
namespace Go.Proofs.YtpennadfomnenaaGreatDoor
open Go.ChangeShapes Go.WideShapes Go.ChangeAt Go.RowKit Go.Deep

/-- a number's text, the number said as the walk has it -/
theorem markText_at (n : Nat) (i : Int) (hi : i = (n : Int)) (h1 : 1 ≤ n) (h2 : n ≤ 1073741824) (w : World) :
    Calls Tryz.prog 107 #[.int .i64 i] w fun e w' => e = .returned (.string (markT n)) ∧ Below w.heap.size w w' := by
  subst hi
  exact markText_any n h1 h2 w
theorem heldAttrS_any (al : List (ByteArray × ByteArray)) (m : Nat) (w : World) (A : Option Addr) (c b o lo hi : Nat) (h1 : 1 ≤ m) (h2 : m + 2 * al.length ≤ 1073741824) (hA : RowAt lo hi A al.length b o) (hh : hi ≤ w.heap.size) (hal : AsAt w b o (markAl al m)) :
    Calls Tryz.prog 109 #[.slice A al.length c, .int .i64 (m : Int)] w fun e w' => e = .returned (.int .i64 ((m + 2 * al.length : Nat) : Int)) ∧ Below w.heap.size w w' := by
  have hlen := hA.1
  unfold maxLen at hlen
  have HA := Lib.hid hA
  have HS := Lib.hid hal
  clear hA hal
  go_enter Tryz.func109, Tryz.ntmps109
  go_wp2
  go_loopw [1, 5] (fun x i wr => ∃ (k mm : Nat) (suf : List (ByteArray × ByteArray)), x = .int .i64 (mm : Int) ∧ i = .int .i64 (k : Int) ∧ k + suf.length = al.length ∧ mm + 2 * suf.length = m + 2 * al.length ∧ 1 ≤ mm ∧ Hid (AsAt w b (o + k * 2) (markAl suf mm) ∧ Below w.heap.size w wr)) (fun x i wr => al.length - (intOf i).toNat)
  case atStart => exact ⟨0, m, al, rfl, rfl, by omega, rfl, h1, Lib.hid ⟨by simpa using HS.out, Below.refl _ _⟩⟩
  case round =>
    obtain ⟨k, mm, suf, rfl, rfl, hk, hmm, hm1, HH⟩ := hrel
    cases suf with
    | nil =>
      have hkl : k = al.length := by simpa using hk
      have hml : mm = m + 2 * al.length := by simpa using hmm
      clear hk hmm
      subst hkl
      subst hml
      go_wp2
      go_ret
      exact ⟨rfl, HH.out.2⟩
    | cons x r =>
      obtain ⟨⟨s1, s2, _, _, s5⟩, hB⟩ := HH.out
      simp only [List.length_cons] at hk hmm
      obtain ⟨rfl, hlo, hhi⟩ := HA.out.2 (by omega)
      have hkl : k < al.length := by omega
      have hb : b < w.heap.size := by omega
      have t1 := (hB.cell (p := ⟨b, o + k * 2, none⟩) hb).trans s1
      have t2 := (hB.cell (p := ⟨b, o + k * 2 + 1, none⟩) hb).trans s2
      have hbr : b < wr.heap.size := Nat.lt_of_lt_of_le hb hB.size
      have H5 := Lib.hid s5
      have HB := Lib.hid hB
      clear HH s1 s2 s5 hB
      go_wp2
      go_region_held3 (fun w' => w'.cell? ⟨b, o + k * 2, none⟩ = some (.string (markT mm)) ∧ w'.cell? ⟨b, o + k * 2 + 1, none⟩ = some (.string (markT (mm + 1)))) (first | exact And.intro u1 u2 | go_keep) (first | (go_at_call 107; refine (markText_any mm hm1 (by omega) _).mono ?_; rintro e w1 ⟨rfl, hB1⟩; have u1 := (hB1.cell (p := ⟨b, o + k * 2, none⟩) hbr).trans t1; have u2 := (hB1.cell (p := ⟨b, o + k * 2 + 1, none⟩) hbr).trans t2; have B1 := Lib.hid (HB.out.drew.trans (hB1.mono HB.out.size)); clear hB1))
      have hb1 : b < w1.heap.size := Nat.lt_of_lt_of_le hb B1.out.size
      go_wp2
      go_region_held3 (fun w' => w'.cell? ⟨b, o + k * 2 + 1, none⟩ = some (.string (markT (mm + 1)))) (first | exact u3 | go_keep) (first | (go_at_call 107; refine (markText_at (mm + 1) _ (by omega) (by omega) (by omega) _).mono ?_; rintro e w2 ⟨rfl, hB2⟩; have u3 := (hB2.cell (p := ⟨b, o + k * 2 + 1, none⟩) hb1).trans u2; have B2 := Lib.hid (B1.out.drew.trans (hB2.mono B1.out.size)); clear hB2))
      go_wp2
      go_roundw
      case rel => exact ⟨k + 1, mm + 2, r, by go_num, by go_num, by omega, by omega, by omega, Lib.hid ⟨by rw [show o + (k + 1) * 2 = o + k * 2 + 2 by omega]; exact H5.out, B2.out⟩⟩
      case measure => simp [intOf]; omega
end Go.Proofs.YtpennadfomnenaaGreatDoor
namespace Go.Proofs.YtpennadfomnenaaGreatDoor
open Go.ChangeShapes Go.WideShapes Go.ChangeAt Go.RowKit Go.Deep

def HeldOK (F : Fo) : Prop := ∀ (m : Nat) (w : World) (A : Option Addr) (c b o lo hi : Nat), 1 ≤ m → m + F.cnt ≤ 1073741824 → RowAt lo hi A F.len b o → hi ≤ w.heap.size → FoAt w lo hi b o (markFo F m) →
    Calls Tryz.prog 46 #[.slice A F.len c, .int .i64 (m : Int)] w fun e w' => e = .returned (.int .i64 ((m + F.cnt : Nat) : Int)) ∧ Below w.heap.size w w'
theorem heldAttrS_at (i : Int) (al : List (ByteArray × ByteArray)) (m : Nat) (hi' : i = (m : Int)) (w : World) (A : Option Addr) (c b o lo hi : Nat) (h1 : 1 ≤ m) (h2 : m + 2 * al.length ≤ 1073741824) (hA : RowAt lo hi A al.length b o) (hh : hi ≤ w.heap.size) (hal : AsAt w b o (markAl al m)) :
    Calls Tryz.prog 109 #[.slice A al.length c, .int .i64 i] w fun e w' => e = .returned (.int .i64 ((m + 2 * al.length : Nat) : Int)) ∧ Below w.heap.size w w' := by
  subst hi'
  exact heldAttrS_any al m w A c b o lo hi h1 h2 hA hh hal
theorem HeldOK.at {F : Fo} (h : HeldOK F) (i : Int) (m : Nat) (hi' : i = (m : Int)) (w : World) (A : Option Addr) (c b o lo hi : Nat) (h1 : 1 ≤ m) (h2 : m + F.cnt ≤ 1073741824) (hA : RowAt lo hi A F.len b o) (hh : hi ≤ w.heap.size) (hF : FoAt w lo hi b o (markFo F m)) :
    Calls Tryz.prog 46 #[.slice A F.len c, .int .i64 i] w fun e w' => e = .returned (.int .i64 ((m + F.cnt : Nat) : Int)) ∧ Below w.heap.size w w' := by
  subst hi'
  exact h m w A c b o lo hi h1 h2 hA hh hF
set_option maxHeartbeats 4000000 in
theorem heldNodeS_lt : ∀ (N : Nat) (F : Fo), F.nodes < N → HeldOK F := by
  intro N
  induction N with
  | zero => intro F hF; omega
  | succ N IH =>
  intro F hF m w A c b o lo hi h1 h2 hA hh hFo
  have hlen := hA.1
  unfold maxLen at hlen
  have HA := Lib.hid hA
  have HS := Lib.hid hFo
  have HF := Lib.hid hF
  have HI := Lib.hid IH
  clear hA hFo hF IH
  go_enter Tryz.func46, Tryz.ntmps46
  go_wp2
  go_loopw [1, 5] (fun x i wr => ∃ (k mm : Nat) (suf : Fo), x = .int .i64 (mm : Int) ∧ i = .int .i64 (k : Int) ∧ k + suf.len = F.len ∧ mm + suf.cnt = m + F.cnt ∧ 1 ≤ mm ∧ Hid (FoAt w lo hi b (o + k * 6) (markFo suf mm) ∧ Below w.heap.size w wr ∧ suf.nodes < N + 1)) (fun x i wr => F.len - (intOf i).toNat)
  case atStart => exact ⟨0, m, F, rfl, rfl, by omega, rfl, h1, Lib.hid ⟨by simpa using HS.out, Below.refl _ _, HF.out⟩⟩
  case round =>
    obtain ⟨k, mm, suf, rfl, rfl, hk, hmm, hm1, HH⟩ := hrel
    cases suf with
    | nil =>
      have hkl : k = F.len := by simpa [Fo.len] using hk
      have hml : mm = m + F.cnt := by simpa [Fo.cnt] using hmm
      clear hk hmm
      subst hkl
      subst hml
      go_wp2
      go_ret
      exact ⟨rfl, HH.out.2.1⟩
    | cons xk xs xn xt xa kids r =>
      obtain ⟨⟨⟨s0, s1, s2, s3, _, _⟩, ⟨A4, c4, b4, o4, s4, r4, a4⟩, ⟨A5, c5, b5, o5, s5, r5, a5⟩, sr⟩, hB, hT⟩ := HH.out
      rw [markAl_len] at s4 r4
      rw [markFo_len] at s5 r5
      simp only [Fo.len] at hk
      simp only [Fo.cnt] at hmm
      obtain ⟨rfl, hlo, hhi⟩ := HA.out.2 (by omega)
      have hkl : k < F.len := by omega
      have hb : b < w.heap.size := by omega
      have t0 := (hB.cell (p := ⟨b, o + k * 6, none⟩) hb).trans s0
      have t1 := (hB.cell (p := ⟨b, o + k * 6 + 1, none⟩) hb).trans s1
      have t2 := (hB.cell (p := ⟨b, o + k * 6 + 2, none⟩) hb).trans s2
      have e1 : (((mm + 1 : Nat) : Int) != (mm : Int) + 1) = false := by simp
      have HC := Lib.hid (And.intro s2 (And.intro s3 (And.intro s4 s5)))
      have H4 := Lib.hid (And.intro r4 a4)
      have H5 := Lib.hid (And.intro r5 a5)
      have HR := Lib.hid sr
      have HB := Lib.hid hB
      have HT : Hid (kids.nodes < N ∧ r.nodes < N + 1) := Lib.hid (by simp [Fo.nodes] at hT; omega)
      clear HH s0 s1 s2 s3 s4 s5 sr hB hT r4 a4 r5 a5
      go_wp2_with fail
      have hbr : b < wr.heap.size := Nat.lt_of_lt_of_le hb HB.out.size
      go_region_held3 (fun w' => w'.cell? ⟨b, o + k * 6 + 2, none⟩ = some (.string (markT (mm + 2)))) (first | exact u2 | go_keep) (first | (go_at_call 107; refine (markText_at (mm + 2) _ (by omega) (by omega) (by omega) _).mono ?_; rintro e w1 ⟨rfl, hB1⟩; have u2 := (hB1.cell (p := ⟨b, o + k * 6 + 2, none⟩) hbr).trans t2; have B1 := Lib.hid (HB.out.drew.trans (hB1.mono HB.out.size)); clear hB1))
      have hb1 : b < w1.heap.size := Nat.lt_of_lt_of_le hb B1.out.size
      have v3 := (B1.out.cell (p := ⟨b, o + k * 6 + 3, none⟩) hb).trans HC.out.2.1
      go_wp2_with fail
      go_region_held3 (fun w' => w'.cell? ⟨b, o + k * 6 + 3, none⟩ = some (.string (markT (mm + 3)))) (first | exact u3 | go_keep) (first | (go_at_call 107; refine (markText_at (mm + 3) _ (by omega) (by omega) (by omega) _).mono ?_; rintro e w2 ⟨rfl, hB2⟩; have u3 := (hB2.cell (p := ⟨b, o + k * 6 + 3, none⟩) hb1).trans v3; have B2 := Lib.hid (B1.out.drew.trans (hB2.mono B1.out.size)); clear hB2))
      have v4 := (B2.out.cell (p := ⟨b, o + k * 6 + 4, none⟩) hb).trans HC.out.2.2.1
      clear t0 t1 t2 v3 u2 u3 e1
      go_wp2_with fail
      refine (heldAttrS_at _ xa (mm + 4) (by omega) _ A4 c4 b4 o4 lo hi (by omega) (by omega) H4.out.1.2 (Nat.le_trans hh B2.out.size) (AsAt.but (al := markAl xa (mm + 4)) (by rw [markAl_len]; exact H4.out.1.2) H4.out.2 (But.of_below (C := No) B2.out) hh (fun _ h => False.elim h))).mono ?_
      rintro e w3 ⟨rfl, hB3⟩
      have B3 := Lib.hid (B2.out.trans (hB3.mono B2.out.size))
      have v5 := (B3.out.cell (p := ⟨b, o + k * 6 + 5, none⟩) hb).trans HC.out.2.2.2
      clear hB3 v4
      go_wp2_with fail
      refine ((HI.out kids HT.out.1).at _ (mm + 4 + 2 * xa.length) (by omega) _ A5 c5 b5 o5 lo hi (by omega) (by omega) H5.out.1.2 (Nat.le_trans hh B3.out.size) (FoAt.but (F := markFo kids (mm + 4 + 2 * xa.length)) (by rw [markFo_len]; exact H5.out.1.2) H5.out.2 (But.of_below (C := No) B3.out) hh (fun _ h => False.elim h))).mono ?_
      rintro e w4 ⟨rfl, hB4⟩
      have B4 := Lib.hid (B3.out.trans (hB4.mono B3.out.size))
      clear hB4 v5
      go_wp2_with fail
      go_roundw
      case rel => exact ⟨k + 1, mm + 4 + 2 * xa.length + kids.cnt, r, by go_num, by go_num, by omega, by omega, by omega, Lib.hid ⟨by rw [show o + (k + 1) * 6 = o + k * 6 + 6 by omega]; exact HR.out, B4.out, HT.out.2⟩⟩
      case measure => simp [intOf]; omega
theorem heldNodeS_any (F : Fo) : HeldOK F := heldNodeS_lt (F.nodes + 1) F (Nat.lt_succ_self _)
end Go.Proofs.YtpennadfomnenaaGreatDoor
namespace Go.Proofs.YtpennadfomnenaaGreatDoor
open Go.ChangeShapes Go.WideShapes Go.ChangeAt Go.RowKit Go.Deep

/-- a row of nodes within some blocks -/
structure KR (w : World) (A : Option Addr) (G : Fo) (bs : List Nat) (lo hi : Nat) : Prop where
  row : KRow w A G bs
  nd : bs.Nodup
  at' : ∀ k ∈ bs, lo ≤ k ∧ k < hi
  le : hi ≤ w.heap.size
  len : G.len ≤ maxLen
theorem KR.of {w : World} {B : Nat} {v : Value} {G : Fo} {bl : List Nat} (h : GRow w B v G bl) (hl : G.len ≤ maxLen) : ∃ A c bs, v = .slice A G.len c ∧ KR w A G bs B w.heap.size := by
  obtain ⟨A, c, bs, h1, _, h3, h4, h5⟩ := h.form
  exact ⟨A, c, bs, h1, h3, h4, h5, Nat.le_refl _, hl⟩
theorem KR.next {w w' : World} {A : Option Addr} {G : Fo} {bs : List Nat} {lo hi : Nat} (h : KR w A G bs lo hi) (hB : Below w.heap.size w w') : KR w' A G bs lo hi :=
  ⟨h.row.same fun k hk => hB.block k (by have := (h.at' k hk).2; have := h.le; omega), h.nd, h.at', Nat.le_trans h.le hB.size, h.len⟩
theorem KR.only {w w' : World} {A : Option Addr} {G : Fo} {bs cs : List Nat} {lo hi : Nat} (h : KR w A G bs lo hi) (hB : OnlyAt w w' cs) (hc : ∀ k ∈ cs, ¬ (lo ≤ k ∧ k < hi)) : KR w' A G bs lo hi :=
  ⟨h.row.same fun k hk => hB.block k (by have := (h.at' k hk).2; have := h.le; omega) (fun e => hc k e (h.at' k hk)), h.nd, h.at', Nat.le_trans h.le hB.size, h.len⟩
/-- as it is read -/
theorem KR.read {w : World} {A : Option Addr} {G : Fo} {bs : List Nat} {lo hi : Nat} (h : KR w A G bs lo hi) : ∃ b, RowAt lo hi A G.len b 0 ∧ FoAt w lo hi b 0 G := by
  rcases h.row with ⟨h0, hb⟩ | ⟨c, b', e1, e2, e3⟩
  · refine ⟨0, ⟨h.len, fun hp => by omega⟩, ?_⟩
    cases G with
    | nil => trivial
    | cons _ _ _ _ _ _ _ => simp [Fo.len] at h0
  · have hc := h.at' c (by rw [e2]; simp)
    exact ⟨c, ⟨h.len, fun _ => ⟨e1, hc.1, hc.2⟩⟩, e3.at fun k hk => h.at' k (by rw [e2]; simp [hk])⟩
theorem eqKR {w : World} {A A' : Option Addr} {c c' : Nat} {G : Fo} {bs bs' : List Nat} {lo hi lo' hi' : Nat} (h : KR w A G bs lo hi) (h' : KR w A' G bs' lo' hi') :
    Calls Tryz.prog 44 #[.slice A G.len c, .slice A' G.len c'] w fun e w' => e = .returned (.bool true) ∧ Below w.heap.size w w' := by
  obtain ⟨b, h1, h2⟩ := h.read
  obtain ⟨b', h1', h2'⟩ := h'.read
  exact eqNodeS_same G w A A' c c' b b' 0 0 lo hi lo' hi' h1 h1' h.le h'.le h2 h2'
theorem markKR {w : World} {A : Option Addr} {c : Nat} {G : Fo} {bs : List Nat} {lo hi : Nat} (h : KR w A G bs lo hi) (hc : 1 + G.cnt ≤ 1073741824) :
    Calls Tryz.prog 45 #[.slice A G.len c, .int .i64 1] w fun e w' => e = .returned (.int .i64 ((1 + G.cnt : Nat) : Int)) ∧ KR w' A (markFo G 1) bs lo hi ∧ OnlyAt w w' bs := by
  refine (markNodeS_any G 1 w A c bs (Nat.le_refl _) hc h.len h.row h.nd (fun k hk => by have := (h.at' k hk).2; have := h.le; omega)).mono ?_
  rintro e w' ⟨h1, h2, h3⟩
  exact ⟨h1, ⟨h2, h.nd, h.at', Nat.le_trans h.le h3.size, by rw [markFo_len]; exact h.len⟩, h3⟩
theorem heldKR {w : World} {A : Option Addr} {c : Nat} {G : Fo} {bs : List Nat} {lo hi : Nat} (h : KR w A (markFo G 1) bs lo hi) (hc : 1 + G.cnt ≤ 1073741824) :
    Calls Tryz.prog 46 #[.slice A G.len c, .int .i64 1] w fun e w' => e = .returned (.int .i64 ((1 + G.cnt : Nat) : Int)) ∧ Below w.heap.size w w' := by
  obtain ⟨b, h1, h2⟩ := h.read
  rw [markFo_len] at h1
  exact heldNodeS_any G 1 w A c b 0 lo hi (Nat.le_refl _) hc h1 h.le h2
end Go.Proofs.YtpennadfomnenaaGreatDoor
namespace Go.Proofs.YtpennadfomnenaaGreatDoor
open Go.ChangeShapes Go.WideShapes Go.ChangeAt Go.RowKit Go.Deep

theorem Fo.small_cnt : ∀ (F : Fo), F.cnt ≤ 1048576 → F.small
  | .nil, _ => trivial
  | .cons _ _ _ _ al kids rest, h => by
    simp only [Fo.cnt] at h
    have := Fo.len_cnt kids
    exact ⟨by omega, by omega, Fo.small_cnt kids (by omega), Fo.small_cnt rest (by omega)⟩
noncomputable def bOf (s : ByteArray) : Fo × Int := if 4096 < s.size then (.nil, 8) else builtOf s
noncomputable def outB (s : ByteArray) : Fo × Int := if 65536 < s.size then (.nil, 2) else bOf s
theorem bOf_cn (s : ByteArray) : (bOf s).1.cnt ≤ 960 := by
  unfold bOf
  split
  · exact Nat.zero_le _
  · exact builtOf_cn s
theorem outB_cn (s : ByteArray) : (outB s).1.cnt ≤ 960 := by
  unfold outB
  split
  · exact Nat.zero_le _
  · exact bOf_cn s
set_option maxHeartbeats 1000000 in
theorem build_out (s : ByteArray) (w : World) (hE : Env2 w) :
    Calls Tryz.prog 70 #[.string s] w (BuiltOut (bOf s) w) := by
  by_cases h : s.size ≤ 4096
  · have e : bOf s = builtOf s := by unfold bOf; rw [if_neg (by omega)]
    rw [e]
    exact build_any s w h hE
  · have e : bOf s = (.nil, 8) := by unfold bOf; rw [if_pos (by omega)]
    rw [e]
    have h' : (s.size : Int) > 4096 := by omega
    clear e hE
    go_enter Tryz.func70, Tryz.ntmps70
    go_wp2
    go_ret2
    exact ⟨_, [], rfl, GRow.nil _ _, Below.refl _ _⟩
set_option maxHeartbeats 1000000 in
theorem implBuild_any (s : ByteArray) (w : World) (hs : s.size ≤ maxLen) (hE : Env2 w) :
    Calls Tryz.prog 20 #[.string s] w (BuiltOut (outB s) w) := by
  unfold maxLen at hs
  by_cases h : s.size ≤ 65536
  · have h' : ¬ (s.size : Int) > 65536 := by omega
    have HE := Lib.hid hE
    have e : outB s = bOf s := by unfold outB; rw [if_neg (by omega)]
    rw [e]
    go_enter Tryz.func20, Tryz.ntmps20
    go_wp2_with (go_at_call 70; refine (build_out s _ HE.out).mono ?_; rintro e w1 ⟨v, bl, rfl, hG, hB⟩; have HO := Lib.hid (And.intro hG hB); clear hG hB)
    go_ret2
    exact ⟨v, bl, rfl, HO.out.1, HO.out.2⟩
  · have e : outB s = (.nil, 2) := by unfold outB; rw [if_pos (by omega)]
    rw [e]
    have h' : (s.size : Int) > 65536 := by omega
    go_enter Tryz.func20, Tryz.ntmps20
    go_wp2
    go_ret2
    exact ⟨_, [], rfl, GRow.nil _ _, Below.refl _ _⟩
/-- a built forest, copied -/
theorem copyB_any (F : Fo) (v : Value) (bl : List Nat) (w0 : Nat) (w : World) (hc : F.cnt ≤ 960) (h : GRow w w0 v F bl) :
    Calls Tryz.prog 72 #[v] w (RowOut F w) := by
  have hl := Fo.len_cnt F
  obtain ⟨A, c, bs, rfl, hK⟩ := KR.of h (by unfold maxLen; omega)
  obtain ⟨b, h1, h2⟩ := hK.read
  exact l03Copy_any F w A c b 0 w0 w.heap.size (Fo.small_cnt F (by omega)) (by omega) h1 (Nat.le_refl _) h2
set_option maxHeartbeats 1000000 in
theorem specBuild_any (s : ByteArray) (w : World) (hs : s.size ≤ maxLen) :
    Calls Tryz.prog 21 #[.string s] w (BuiltOut (outB s) w) := by
  unfold maxLen at hs
  by_cases h : s.size ≤ 65536
  · have h' : ¬ (s.size : Int) > 65536 := by omega
    by_cases h4 : s.size ≤ 4096
    · have h4' : ¬ (s.size : Int) > 4096 := by omega
      have e : outB s = builtOf s := by unfold outB bOf; rw [if_neg (by omega), if_neg (by omega)]
      rw [e]
      have HC := Lib.hid (builtOf_cn s)
      have HL := Lib.hid (l05Build_any s w h4)
      clear e
      go_enter Tryz.func21, Tryz.ntmps21
      go_wp2_with (go_at_call 71; refine HL.out.mono ?_; rintro e w1 ⟨v, bl, rfl, hG, hB⟩; have HO := Lib.hid (And.intro hG hB); clear hG hB)
      refine (copyB_any _ v bl _ w1 HC.out HO.out.1).mono ?_
      rintro e w2 ⟨v2, bl2, rfl, hB2, hG2⟩
      have HO2 := Lib.hid (And.intro hG2 hB2)
      clear hB2 hG2
      go_wp2
      go_ret2
      exact ⟨v2, bl2, rfl, HO2.out.1.low HO.out.2.size, HO.out.2.trans (HO2.out.2.mono HO.out.2.size)⟩
    · have h4' : (s.size : Int) > 4096 := by omega
      have e : outB s = (.nil, 8) := by unfold outB bOf; rw [if_neg (by omega), if_pos (by omega)]
      rw [e]
      go_enter Tryz.func21, Tryz.ntmps21
      go_wp2
      go_ret2
      exact ⟨_, [], rfl, GRow.lit (Nat.le_refl _), (Below.refl _ _).alloc (Nat.le_refl _) _⟩
  · have h' : (s.size : Int) > 65536 := by omega
    have e : outB s = (.nil, 2) := by unfold outB; rw [if_pos (by omega)]
    rw [e]
    go_enter Tryz.func21, Tryz.ntmps21
    go_wp2
    go_ret2
    exact ⟨_, [], rfl, GRow.lit (Nat.le_refl _), (Below.refl _ _).alloc (Nat.le_refl _) _⟩
end Go.Proofs.YtpennadfomnenaaGreatDoor
namespace Go.Proofs.YtpennadfomnenaaGreatDoor
open Go.ChangeShapes Go.WideShapes Go.ChangeAt Go.RowKit Go.Deep

set_option maxHeartbeats 2000000 in
theorem lawBuild_walk (s : ByteArray) (w : World) (hE : Env2 w) (ws : s.size ≤ maxLen) :
    Calls Tryz.prog 7 #[.string s] w fun e w' => e = .returned (.bool true) ∧ Below w.heap.size w w' := by
  have HE := Lib.hid hE
  clear hE
  by_cases hs : s.size ≤ 1048576
  · have hs' : ¬ (s.size : Int) > 1048576 := by omega
    have HC := Lib.hid (outB_cn s)
    have HL : Hid ((outB s).1.len ≤ maxLen) := Lib.hid (by have := Fo.len_cnt (outB s).1; have := HC.out; unfold maxLen; omega)
    have HCC : Hid (1 + (outB s).1.cnt ≤ 1073741824) := Lib.hid (by have := HC.out; omega)
    go_enter Tryz.func7, Tryz.ntmps7
    go_wp2_with (go_at_call 21; refine (specBuild_any s w ws).mono ?_; rintro e w1 ⟨v, blw, rfl, hW, hB1⟩)
    obtain ⟨Aw, cw, bw, rfl, hw⟩ := KR.of hW HL.out
    have W1 := Lib.hid hw
    have B1 := Lib.hid hB1
    clear hB1 hW hw
    go_wp2_with fail
    refine (implBuild_any s _ ws (HE.out.below B1.out)).mono ?_
    rintro e w2 ⟨v, blg, rfl, hG, hB⟩
    obtain ⟨Ag, cg, bg, rfl, hg⟩ := KR.of hG HL.out
    have G2 := Lib.hid hg
    have B2 := Lib.hid (B1.out.trans (hB.mono B1.out.size))
    have W2 := Lib.hid (W1.out.next hB)
    clear hB hG hg
    go_wp2_with fail
    refine (eqKR G2.out W2.out).mono ?_
    rintro e w3 ⟨rfl, hB⟩
    have B3 := Lib.hid (B2.out.trans (hB.mono B2.out.size))
    have W3 := Lib.hid (W2.out.next hB)
    have G3 := Lib.hid (G2.out.next hB)
    clear hB
    go_wp2_with fail
    refine (markKR G3.out HCC.out).mono ?_
    rintro e w4 ⟨rfl, hR, hB⟩
    have B4 := Lib.hid (B3.out.trans (hB.below (B := w.heap.size) (fun k hk => by have := G3.out.at' k hk; have := B1.out.size; omega) B3.out.size))
    have W4 := Lib.hid (W3.out.only hB fun k hk => by have := G3.out.at' k hk; omega)
    have G4 : Hid (KR w4 Ag (markFo (outB s).1 1) bg w1.heap.size w2.heap.size) := Lib.hid hR
    clear hB hR
    go_wp2_with fail
    refine (heldKR G4.out HCC.out).mono ?_
    rintro e w5 ⟨rfl, hB⟩
    have B5 := Lib.hid (B4.out.trans (hB.mono B4.out.size))
    have W5 := Lib.hid (W4.out.next hB)
    have G5 := Lib.hid (G4.out.next hB)
    clear hB
    go_wp2_with fail
    refine (implBuild_any s _ ws (HE.out.below B5.out)).mono ?_
    rintro e w6 ⟨v, blv, rfl, hV, hB⟩
    obtain ⟨Ah, ch, bh, rfl, hh⟩ := KR.of hV HL.out
    have B6 := Lib.hid (B5.out.trans (hB.mono B5.out.size))
    have W6 := Lib.hid (W5.out.next hB)
    have G6 := Lib.hid (G5.out.next hB)
    have H6 := Lib.hid hh
    clear hB hV hh
    go_wp2_with fail
    refine (eqKR H6.out W6.out).mono ?_
    rintro e w7 ⟨rfl, hB⟩
    have B7 := Lib.hid (B6.out.trans (hB.mono B6.out.size))
    have G7 := Lib.hid (G6.out.next hB)
    clear hB
    go_wp2_with fail
    refine (heldKR G7.out HCC.out).mono ?_
    rintro e w8 ⟨rfl, hB⟩
    have B8 := Lib.hid (B7.out.trans (hB.mono B7.out.size))
    clear hB
    go_wp2_with fail
    go_ret
    exact ⟨rfl, B8.out⟩
  · have hs' : (s.size : Int) > 1048576 := by omega
    go_enter Tryz.func7, Tryz.ntmps7
    go_wp2
    go_ret
    exact ⟨rfl, Below.refl _ _⟩
end Go.Proofs.YtpennadfomnenaaGreatDoor
