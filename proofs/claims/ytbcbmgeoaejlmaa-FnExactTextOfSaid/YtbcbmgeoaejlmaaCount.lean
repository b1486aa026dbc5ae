
import Derived.Test.YtbcbmgeoaejlmaaAll
namespace Go.Proofs.Ytbcbmgeoaejlmaa
open Go.ChangeShapes Go.WideShapes Go.ChangeAt Go.RowKit Go.Deep

noncomputable def outI (F : Fo) (v : Int) : Value := .tuple #[.int .i64 (if faultOf F = 0 then v else 0), .int .i64 (faultOf F)]
theorem Fo.deep_le : ∀ F : Fo, F.deep ≤ F.nodes
  | .nil => Nat.le_refl _
  | .cons _ _ _ _ _ kids rest => by have := Fo.deep_le kids; have := Fo.deep_le rest; simp [Fo.deep, Fo.nodes]; omega

def stCount (c : Int) (_ : List Nd) : Int := nextI c
theorem trav_count : ∀ (F : Fo) (ch : List Nd) (c : Nat), c + F.nodes ≤ 1048577 → travU stCount F ch (c : Int) = ((c + F.nodes : Nat) : Int)
  | .nil, _, c, _ => by simp [travU, Fo.nodes]
  | .cons k sp n t al kids rest, ch, c, h => by
    simp only [Fo.nodes] at h
    rw [travU, show stCount (c : Int) (⟨k, sp, n, t, al⟩ :: ch) = ((c + 1 : Nat) : Int) from nextI_nat (by omega), trav_count kids _ (c + 1) (by omega), trav_count rest ch (c + 1 + kids.nodes) (by omega)]
    simp only [Fo.nodes]; omega
theorem trav_count0 (F : Fo) (h : F.nodes ≤ 1048576) : travU stCount F [] 0 = ((F.nodes : Nat) : Int) := by
  have := trav_count F [] 0 (by omega)
  simpa using this

def stDepth (d : Int) (ch : List Nd) : Int := if (ch.length : Int) > d then (ch.length : Int) else d
theorem trav_depth : ∀ (F : Fo) (ch : List Nd) (d : Nat), travU stDepth F ch (d : Int) = ((max d (if F.len = 0 then 0 else ch.length + F.deep) : Nat) : Int)
  | .nil, _, d => by simp [travU, Fo.len]
  | .cons k sp n t al kids rest, ch, d => by
    have h1 : stDepth (d : Int) (⟨k, sp, n, t, al⟩ :: ch) = ((max d (ch.length + 1) : Nat) : Int) := by
      unfold stDepth; simp only [List.length_cons]; split <;> omega
    rw [travU, h1, trav_depth kids, trav_depth rest]
    rw [if_neg (show ¬ (Fo.cons k sp n t al kids rest).len = 0 by simp [Fo.len])]
    simp only [Fo.deep, List.length_cons]
    have k0 : kids.len = 0 → kids.deep = 0 := by cases kids <;> simp [Fo.len, Fo.deep]
    have r0 : rest.len = 0 → rest.deep = 0 := by cases rest <;> simp [Fo.len, Fo.deep]
    congr 1
    split <;> split <;> omega
theorem trav_depth0 (F : Fo) (_ : F.nodes ≤ 1048576) : travU stDepth F [] 0 = ((F.deep : Nat) : Int) := by
  have := trav_depth F [] 0
  have r0 : F.len = 0 → F.deep = 0 := by cases F <;> simp [Fo.len, Fo.deep]
  rw [show ((0 : Nat) : Int) = 0 from rfl] at this
  rw [this]
  congr 1
  simp only [List.length_nil]
  split <;> omega

theorem count1_any (cb lo hi : Nat) (c : Int) (C : Nat → Prop) (w : World) (q : Option Addr) (ch : List Nd) (hI : CountAt cb hi c C w) :
    Calls Try.prog 158 #[.pointer q, .pointer (some ⟨cb, 0, none⟩)] w (SeenU stCount (CountAt cb hi) c C ch w) := by
  have HI := Lib.hid (hI.put (c' := nextI c))
  have HC := Lib.hid (show C cb from (hI.1 cb).2 rfl)
  have m0 := hI.2.2.2.1
  have mf := hI.2.2.2.2
  have hw : ∀ c : Int, IntKind.i64.wrap (c + 1) = nextI c := fun _ => rfl
  clear hI
  go_enter Try.func158, Try.ntmps158
  go_wp2
  go_end0
  exact ⟨C, rfl, HI.out, (But.refl C w).setCell (p := ⟨cb, 0, none⟩) (Or.inl (HC.out)) _, fun _ h => Or.inl h⟩
theorem visCount (cb lo hi : Nat) : VisU Try.prog 158 #[.pointer (some ⟨cb, 0, none⟩)] lo hi always stCount (CountAt cb hi) where
  own := fun _ _ _ h k hk => by rw [(h.1 k).1 hk]; exact ⟨h.2.1, h.2.2.1⟩
  keep := fun _ _ _ _ h hB => h.keep hB.but
  call := fun s C w q ch _ _ _ hI _ _ => count1_any cb lo hi s C w q ch hI

set_option maxHeartbeats 1000000 in
theorem depth1_any (cb lo hi : Nat) (c : Int) (C : Nat → Prop) (w : World) (q : Option Addr) (ch : List Nd) (hl : ch.length ≤ 1048576) (hI : CountAt cb hi c C w) (hS : SpotAt w C lo hi q ch) (hh : hi ≤ w.heap.size) :
    Calls Try.prog 101 #[.pointer q, .pointer (some ⟨cb, 0, none⟩)] w (SeenU stDepth (CountAt cb hi) c C ch w) := by
  have hci : ∀ k, C k → hi ≤ k := fun k hk => by rw [(hI.1 k).1 hk]; exact hI.2.1
  have HI := Lib.hid ((hI.keep (w' := w.drew) (But.refl _ _).drew).put (c' := stDepth c ch))
  have HC := Lib.hid (show C cb from (hI.1 cb).2 rfl)
  have HS := Lib.hid (hS.but (w' := w.drew) (D := C) (But.refl C w).drew hh hci (fun _ h => Or.inl h))
  have m0 := hI.2.2.2.1
  have mf := hI.2.2.2.2
  have hmx : ∀ (ts : Array TypeId) (t : TypeId) w, (Builtin.max_ ts t #[.int .i64 c, .int .i64 (ch.length : Int)]).run Try.prog w = .ok (.int .i64 (stDepth c ch)) w := fun ts t w => by
    rw [run_max_int2]; rfl
  clear hI hS hci
  go_enter Try.func101, Try.ntmps101
  go_region_with (go_at_call 94; refine (depth_any C lo hi ch q _ HS.out hl).mono ?_; rintro e w' ⟨rfl, rfl⟩)
  all_goals (
    go_end0
    exact ⟨C, rfl, HI.out, (But.refl C w).drew.setCell (p := ⟨cb, 0, none⟩) (Or.inl (HC.out)) _, fun _ h => Or.inl h⟩)
theorem visDepth (cb lo hi : Nat) : VisU Try.prog 101 #[.pointer (some ⟨cb, 0, none⟩)] lo hi always stDepth (CountAt cb hi) where
  own := fun _ _ _ h k hk => by rw [(h.1 k).1 hk]; exact ⟨h.2.1, h.2.2.1⟩
  keep := fun _ _ _ _ h hB => h.keep hB.but
  call := fun s C w q ch _ hl _ hI hS hh => depth1_any cb lo hi s C w q ch hl hI hS hh

theorem countOf_any (F : Fo) (w : World) (A : Option Addr) (c b o lo hi : Nat) (hd : F.nodes ≤ 1048576) (hh : hi ≤ w.heap.size) (hA : RowAt lo hi A F.len b o) (hF : FoAt w lo hi b o F) :
    Calls Try.prog 98 #[.slice A F.len c] w fun e w' => e = .returned (.int .i64 (F.nodes : Int)) ∧ Below w.heap.size w w' := by
  have hmf : ∀ (fn : Fn) (first cap : Array Value) (w : World), (Instr.makeFunc fn first cap).run Try.prog w = .ok (.func fn first cap) w := fun _ _ _ _ => rfl
  have HA := Lib.hid hA
  have HF := Lib.hid hF
  clear hA hF
  go_enter Try.func98, Try.ntmps98
  go_wp2_with fail
  refine (walkAll_any 158 #[.pointer (some ⟨w.heap.size, 0, none⟩)] lo hi always stCount (CountAt w.heap.size hi) (visCount w.heap.size lo hi) (enters_of Try.func158 (by kernel_rfl) rfl) F 0 (fun k => k = w.heap.size) _ A c b o hd (travPU_always _ _ _ _) (count_new w hi 0 _ hh) ?_ HA.out ?_).mono ?_
  · simp; omega
  · exact HF.out.but HA.out ((But.refl No w).alloc _) hh (fun _ h => h.elim)
  · rintro e w2 ⟨D, rfl, i1, b1, d1⟩
    have e1 := trav_count0 F hd
    rw [e1] at i1
    have hcell := i1.2.2.2.1
    have B2 := Lib.hid (((Below.refl w.heap.size w).alloc (Nat.le_refl _) _).trans (b1.below (B := w.heap.size) (fun k hk => by rw [hk]; exact Nat.le_refl _) (by simp)))
    clear i1 b1 d1 e1
    go_wp2
    go_ret
    exact ⟨rfl, B2.out⟩
theorem implCountOf_any (F : Fo) (w : World) (A : Option Addr) (c b o lo hi : Nat) (hd : F.nodes ≤ 1048576) (hh : hi ≤ w.heap.size) (hA : RowAt lo hi A F.len b o) (hF : FoAt w lo hi b o F) :
    Calls Try.prog 42 #[.slice A F.len c] w fun e w' => e = .returned (outI F (F.nodes : Int)) ∧ Below w.heap.size w w' := by
  have HA := Lib.hid hA
  have HF := Lib.hid hF
  clear hA hF
  by_cases hk : faultOf F = 0
  · have HK := Lib.hid hk
    clear hk
    go_enter Try.func42, Try.ntmps42
    go_wp2_with (go_at_call 86; refine (treeFault_any F _ A c b o lo hi hd hh HA.out HF.out).mono ?_; rintro e w1 ⟨rfl, hB⟩; rw [HK.out]; have B1 := Lib.hid hB; clear hB)
    refine (countOf_any F _ A c b o lo hi hd (Nat.le_trans hh B1.out.size) HA.out (HF.out.but HA.out (But.of_below (C := No) B1.out) hh (fun _ h => h.elim))).mono ?_
    rintro e w2 ⟨rfl, hB⟩
    have B2 := Lib.hid (B1.out.trans (hB.mono B1.out.size))
    clear hB
    go_wp2
    go_ret2
    exact ⟨by rw [outI, HK.out, if_pos rfl]; rfl, B2.out⟩
  · have HK := Lib.hid (show outI F (F.nodes : Int) = .tuple #[.int .i64 0, .int .i64 (faultOf F)] by rw [outI, if_neg hk])
    have hk' : (faultOf F != 0) = true := by simpa using hk
    clear hk
    go_enter Try.func42, Try.ntmps42
    go_wp2_with (go_at_call 86; refine (treeFault_any F _ A c b o lo hi hd hh HA.out HF.out).mono ?_; rintro e w1 ⟨rfl, hB⟩; have B1 := Lib.hid hB; clear hB)
    go_ret2
    exact ⟨by rw [HK.out]; rfl, B1.out⟩

theorem implDepthOf_any (F : Fo) (w : World) (A : Option Addr) (c b o lo hi : Nat) (hd : F.nodes ≤ 1048576) (hh : hi ≤ w.heap.size) (hA : RowAt lo hi A F.len b o) (hF : FoAt w lo hi b o F) :
    Calls Try.prog 44 #[.slice A F.len c] w fun e w' => e = .returned (outI F (F.deep : Int)) ∧ Below w.heap.size w w' := by
  have hmf : ∀ (fn : Fn) (first cap : Array Value) (w : World), (Instr.makeFunc fn first cap).run Try.prog w = .ok (.func fn first cap) w := fun _ _ _ _ => rfl
  have HA := Lib.hid hA
  have HF := Lib.hid hF
  clear hA hF
  by_cases hk : faultOf F = 0
  · have HK := Lib.hid hk
    clear hk
    go_enter Try.func44, Try.ntmps44
    go_wp2_with (go_at_call 86; refine (treeFault_any F _ A c b o lo hi hd hh HA.out HF.out).mono ?_; rintro e w1 ⟨rfl, hB⟩; rw [HK.out]; have B1 := Lib.hid hB; clear hB)
    refine (walkAll_any 101 #[.pointer (some ⟨w1.heap.size, 0, none⟩)] lo hi always stDepth (CountAt w1.heap.size hi) (visDepth w1.heap.size lo hi) (enters_of Try.func101 (by kernel_rfl) rfl) F 0 (fun k => k = w1.heap.size) _ A c b o hd (travPU_always _ _ _ _) (count_new w1 hi 0 _ (Nat.le_trans hh B1.out.size)) ?_ HA.out ?_).mono ?_
    · have := B1.out.size; simp; omega
    · exact HF.out.but HA.out ((But.of_below (C := No) B1.out).alloc _) hh (fun _ h => h.elim)
    · rintro e w2 ⟨D, rfl, i1, b1, d1⟩
      have e1 := trav_depth0 F hd
      rw [e1] at i1
      have hcell := i1.2.2.2.1
      have B2 := Lib.hid (B1.out.trans ((((Below.refl w1.heap.size w1).alloc (Nat.le_refl _) _).trans (b1.below (B := w1.heap.size) (fun k hk => by rw [hk]; exact Nat.le_refl _) (by simp))).mono B1.out.size))
      clear i1 b1 d1 e1
      go_wp2
      go_ret2
      exact ⟨by rw [outI, HK.out, if_pos rfl]; rfl, B2.out⟩
  · have HK := Lib.hid (show outI F (F.deep : Int) = .tuple #[.int .i64 0, .int .i64 (faultOf F)] by rw [outI, if_neg hk])
    have hk' : (faultOf F != 0) = true := by simpa using hk
    clear hk
    go_enter Try.func44, Try.ntmps44
    go_wp2_with (go_at_call 86; refine (treeFault_any F _ A c b o lo hi hd hh HA.out HF.out).mono ?_; rintro e w1 ⟨rfl, hB⟩; have B1 := Lib.hid hB; clear hB)
    go_ret2
    exact ⟨by rw [HK.out]; rfl, B1.out⟩

def CountOK (F : Fo) : Prop := ∀ (w : World) (A : Option Addr) (c b o lo hi : Nat), F.nodes ≤ 1048576 → hi ≤ w.heap.size → RowAt lo hi A F.len b o → FoAt w lo hi b o F →
    Calls Try.prog 97 #[.slice A F.len c] w fun e w' => e = .returned (.int .i64 (F.nodes : Int)) ∧ Below w.heap.size w w'
theorem l03Count_lt : ∀ (N : Nat) (F : Fo), F.nodes < N → CountOK F := by
  intro N
  induction N with
  | zero => intro F hF; omega
  | succ N IH =>
  intro F hF w A c b o lo hi hnd hh hA hFo
  have hlen := hA.1
  unfold maxLen at hlen
  have hln := Fo.len_le_nodes F
  have HA := Lib.hid hA
  have HS := Lib.hid hFo
  have HF := Lib.hid hF
  have HI := Lib.hid IH
  clear hA hFo hF IH
  go_enter Try.func97, Try.ntmps97
  go_wp2
  go_loopw [3, 4] (fun x i wr => ∃ (k m : Nat) (suf : Fo), x = .int .i64 (m : Int) ∧ i = .int .i64 (k : Int) ∧ k + suf.len = F.len ∧ m ≤ 1048576 ∧ Hid (FoAt w lo hi b (o + k * 6) suf ∧ Below w.heap.size w wr ∧ suf.nodes < N + 1 ∧ suf.nodes ≤ 1048576 ∧ m + suf.under = F.nodes)) (fun x i wr => F.len - (intOf i).toNat)
  case atStart => exact ⟨0, F.len, F, rfl, rfl, by omega, by omega, Lib.hid ⟨by simpa using HS.out, Below.refl _ _, HF.out, hnd, (Fo.under_len F).symm⟩⟩
  case round =>
    obtain ⟨k, m, suf, rfl, rfl, hk, hm, HH⟩ := hrel
    cases suf with
    | nil =>
      have hkl : k = F.len := by simpa [Fo.len] using hk
      clear hk
      subst hkl
      go_wp2
      go_ret
      exact ⟨by rw [show F.nodes = m by have := HH.out.2.2.2.2; simp [Fo.under] at this; omega]; rfl, HH.out.2.1⟩
    | cons xk xs xn xt xa kids r =>
      obtain ⟨⟨_, _, ⟨A5, c5, b5, o5, s5, r5, a5⟩, sr⟩, hB, hT1, hT2, hT3⟩ := HH.out
      obtain ⟨rfl, hlo, hhi⟩ := HA.out.2 (by simp [Fo.len] at hk; omega)
      have hkl : k < F.len := by simp [Fo.len] at hk; omega
      have hb : b < w.heap.size := by omega
      have t5 := (hB.cell (p := ⟨b, _, none⟩) hb).trans s5
      have HB := Lib.hid hB
      have HR := Lib.hid sr
      have H5 := Lib.hid a5
      have R5 := Lib.hid r5.2
      have HT := Lib.hid (And.intro hT1 (And.intro hT2 hT3))
      have hkn : kids.nodes ≤ 1048576 ∧ r.nodes ≤ 1048576 := by simp [Fo.nodes] at hT2; omega
      clear HH s5 sr hB hT1 hT2 hT3 a5 r5
      have hms : m + kids.nodes ≤ 1048576 := by have h1 := HT.out.2.2; simp [Fo.under] at h1; omega
      go_wp2_with (go_at_call 97; refine (HI.out kids (by have := HT.out.1; simp [Fo.nodes] at this; omega) _ A5 c5 b5 o5 lo hi hkn.1 (Nat.le_trans hh HB.out.size) R5.out (H5.out.but R5.out (But.of_below (C := No) HB.out) hh (fun _ h => h.elim))).mono ?_; rintro e w2 ⟨rfl, hB2⟩; have KB := Lib.hid (HB.out.trans (hB2.mono HB.out.size)); clear hB2)
      go_roundw
      case rel => exact ⟨k + 1, m + kids.nodes, r, by go_num, by go_num, by simp [Fo.len] at hk; omega, hms, Lib.hid ⟨by rw [show o + (k + 1) * 6 = o + k * 6 + 6 by omega]; exact HR.out, KB.out, by have := HT.out.1; simp [Fo.nodes] at this; omega, hkn.2, by have h1 := HT.out.2.2; simp [Fo.under] at h1; omega⟩⟩
      case measure => simp [intOf]; omega
theorem l03Count_any (F : Fo) : CountOK F := l03Count_lt (F.nodes + 1) F (Nat.lt_succ_self _)

def DepthOK (F : Fo) : Prop := ∀ (w : World) (A : Option Addr) (c b o lo hi : Nat), F.nodes ≤ 1048576 → hi ≤ w.heap.size → RowAt lo hi A F.len b o → FoAt w lo hi b o F →
    Calls Try.prog 99 #[.slice A F.len c] w fun e w' => e = .returned (.int .i64 (F.deep : Int)) ∧ Below w.heap.size w w'
theorem l03Depth_lt : ∀ (N : Nat) (F : Fo), F.nodes < N → DepthOK F := by
  intro N
  induction N with
  | zero => intro F hF; omega
  | succ N IH =>
  intro F hF w A c b o lo hi hnd hh hA hFo
  have hlen := hA.1
  unfold maxLen at hlen
  have hln := Fo.len_le_nodes F
  have HA := Lib.hid hA
  have HS := Lib.hid hFo
  have HF := Lib.hid hF
  have HI := Lib.hid IH
  clear hA hFo hF IH
  go_enter Try.func99, Try.ntmps99
  go_wp2
  go_loopw [3, 4] (fun x i wr => ∃ (k m : Nat) (suf : Fo), x = .int .i64 (m : Int) ∧ i = .int .i64 (k : Int) ∧ k + suf.len = F.len ∧ m ≤ 1048576 ∧ Hid (FoAt w lo hi b (o + k * 6) suf ∧ Below w.heap.size w wr ∧ suf.nodes < N + 1 ∧ suf.nodes ≤ 1048576 ∧ max m suf.deep = F.deep)) (fun x i wr => F.len - (intOf i).toNat)
  case atStart => exact ⟨0, 0, F, rfl, rfl, by omega, by omega, Lib.hid ⟨by simpa using HS.out, Below.refl _ _, HF.out, hnd, by simp⟩⟩
  case round =>
    obtain ⟨k, m, suf, rfl, rfl, hk, hm, HH⟩ := hrel
    cases suf with
    | nil =>
      have hkl : k = F.len := by simpa [Fo.len] using hk
      clear hk
      subst hkl
      go_wp2
      go_ret
      exact ⟨by rw [show F.deep = m by have := HH.out.2.2.2.2; simp [Fo.deep] at this; omega]; rfl, HH.out.2.1⟩
    | cons xk xs xn xt xa kids r =>
      obtain ⟨⟨_, _, ⟨A5, c5, b5, o5, s5, r5, a5⟩, sr⟩, hB, hT1, hT2, hT3⟩ := HH.out
      obtain ⟨rfl, hlo, hhi⟩ := HA.out.2 (by simp [Fo.len] at hk; omega)
      have hkl : k < F.len := by simp [Fo.len] at hk; omega
      have hb : b < w.heap.size := by omega
      have t5 := (hB.cell (p := ⟨b, _, none⟩) hb).trans s5
      have HB := Lib.hid hB
      have HR := Lib.hid sr
      have H5 := Lib.hid a5
      have R5 := Lib.hid r5.2
      have HT := Lib.hid (And.intro hT1 (And.intro hT2 hT3))
      have hkn : kids.nodes ≤ 1048576 ∧ r.nodes ≤ 1048576 := by simp [Fo.nodes] at hT2; omega
      clear HH s5 sr hB hT1 hT2 hT3 a5 r5
      have hdk := Fo.deep_le kids
      have hkn1 : kids.nodes + 1 ≤ 1048576 := by have := HT.out.2.1; simp [Fo.nodes] at this; omega
      have hmx : ∀ (ts : Array TypeId) (t : TypeId) w, (Builtin.max_ ts t #[.int .i64 (m : Int), .int .i64 (1 + (kids.deep : Int))]).run Try.prog w = .ok (.int .i64 ((max m (1 + kids.deep) : Nat) : Int)) w := fun ts t w => by
        rw [run_max_int2]
        congr 2
        split <;> omega
      go_wp2_with (go_at_call 99; refine (HI.out kids (by have := HT.out.1; simp [Fo.nodes] at this; omega) _ A5 c5 b5 o5 lo hi hkn.1 (Nat.le_trans hh HB.out.size) R5.out (H5.out.but R5.out (But.of_below (C := No) HB.out) hh (fun _ h => h.elim))).mono ?_; rintro e w2 ⟨rfl, hB2⟩; have KB := Lib.hid (HB.out.trans (hB2.mono HB.out.size)); clear hB2)
      go_roundw
      case rel => exact ⟨k + 1, max m (1 + kids.deep), r, by go_num, by go_num, by simp [Fo.len] at hk; omega, by omega, Lib.hid ⟨by rw [show o + (k + 1) * 6 = o + k * 6 + 6 by omega]; exact HR.out, KB.out, by have := HT.out.1; simp [Fo.nodes] at this; omega, hkn.2, by have h1 := HT.out.2.2; simp [Fo.deep] at h1; omega⟩⟩
      case measure => simp [intOf]; omega
theorem l03Depth_any (F : Fo) : DepthOK F := l03Depth_lt (F.nodes + 1) F (Nat.lt_succ_self _)

theorem specCountOf_any (F : Fo) (w : World) (A : Option Addr) (c b o lo hi : Nat) (hd : F.nodes ≤ 1048576) (hh : hi ≤ w.heap.size) (hA : RowAt lo hi A F.len b o) (hF : FoAt w lo hi b o F) :
    Calls Try.prog 41 #[.slice A F.len c] w fun e w' => e = .returned (outI F (F.nodes : Int)) ∧ Below w.heap.size w w' := by
  have hln := Fo.len_le_nodes F
  have HA := Lib.hid hA
  have HF := Lib.hid hF
  clear hA hF
  by_cases hl : F.len ≤ 4096
  · by_cases hk : faultOf F = 0
    · have HK := Lib.hid hk
      clear hk
      go_enter Try.func41, Try.ntmps41
      go_wp2_with (first
        | (go_at_call 84; refine (l03Ask_any F _ A c b o lo hi hd hh HA.out HF.out).mono ?_; rintro e w1 ⟨rfl, hB⟩; rw [HK.out]; have B1 := Lib.hid hB; clear hB)
        | (go_at_call 97; refine (l03Count_any F _ A c b o lo hi hd (Nat.le_trans hh B1.out.size) HA.out (HF.out.but HA.out (But.of_below (C := No) B1.out) hh (fun _ h => h.elim))).mono ?_; rintro e w2 ⟨rfl, hB⟩; have B2 := Lib.hid (B1.out.trans (hB.mono B1.out.size)); clear hB))
      go_ret2
      exact ⟨by rw [outI, HK.out, if_pos rfl]; rfl, B2.out⟩
    · have HK := Lib.hid (show outI F (F.nodes : Int) = .tuple #[.int .i64 0, .int .i64 (faultOf F)] by rw [outI, if_neg hk])
      have hk' : (faultOf F != 0) = true := by simpa using hk
      clear hk
      go_enter Try.func41, Try.ntmps41
      go_wp2_with (go_at_call 84; refine (l03Ask_any F _ A c b o lo hi hd hh HA.out HF.out).mono ?_; rintro e w1 ⟨rfl, hB⟩; have B1 := Lib.hid hB; clear hB)
      go_ret2
      exact ⟨by rw [HK.out]; rfl, B1.out⟩
  · have hl' : (F.len : Int) > 4096 := by omega
    have HK := Lib.hid (show outI F (F.nodes : Int) = .tuple #[.int .i64 0, .int .i64 2] by rw [outI, fault_long hl]; rfl)
    go_enter Try.func41, Try.ntmps41
    go_wp2
    go_ret2
    exact ⟨by rw [HK.out]; rfl, Below.refl _ _⟩

theorem specDepthOf_any (F : Fo) (w : World) (A : Option Addr) (c b o lo hi : Nat) (hd : F.nodes ≤ 1048576) (hh : hi ≤ w.heap.size) (hA : RowAt lo hi A F.len b o) (hF : FoAt w lo hi b o F) :
    Calls Try.prog 43 #[.slice A F.len c] w fun e w' => e = .returned (outI F (F.deep : Int)) ∧ Below w.heap.size w w' := by
  have hln := Fo.len_le_nodes F
  have HA := Lib.hid hA
  have HF := Lib.hid hF
  clear hA hF
  by_cases hl : F.len ≤ 4096
  · by_cases hk : faultOf F = 0
    · have HK := Lib.hid hk
      clear hk
      go_enter Try.func43, Try.ntmps43
      go_wp2_with (first
        | (go_at_call 84; refine (l03Ask_any F _ A c b o lo hi hd hh HA.out HF.out).mono ?_; rintro e w1 ⟨rfl, hB⟩; rw [HK.out]; have B1 := Lib.hid hB; clear hB)
        | (go_at_call 99; refine (l03Depth_any F _ A c b o lo hi hd (Nat.le_trans hh B1.out.size) HA.out (HF.out.but HA.out (But.of_below (C := No) B1.out) hh (fun _ h => h.elim))).mono ?_; rintro e w2 ⟨rfl, hB⟩; have B2 := Lib.hid (B1.out.trans (hB.mono B1.out.size)); clear hB))
      go_ret2
      exact ⟨by rw [outI, HK.out, if_pos rfl]; rfl, B2.out⟩
    · have HK := Lib.hid (show outI F (F.deep : Int) = .tuple #[.int .i64 0, .int .i64 (faultOf F)] by rw [outI, if_neg hk])
      have hk' : (faultOf F != 0) = true := by simpa using hk
      clear hk
      go_enter Try.func43, Try.ntmps43
      go_wp2_with (go_at_call 84; refine (l03Ask_any F _ A c b o lo hi hd hh HA.out HF.out).mono ?_; rintro e w1 ⟨rfl, hB⟩; have B1 := Lib.hid hB; clear hB)
      go_ret2
      exact ⟨by rw [HK.out]; rfl, B1.out⟩
  · have hl' : (F.len : Int) > 4096 := by omega
    have HK := Lib.hid (show outI F (F.deep : Int) = .tuple #[.int .i64 0, .int .i64 2] by rw [outI, fault_long hl]; rfl)
    go_enter Try.func43, Try.ntmps43
    go_wp2
    go_ret2
    exact ⟨by rw [HK.out]; rfl, Below.refl _ _⟩
end Go.Proofs.Ytbcbmgeoaejlmaa
