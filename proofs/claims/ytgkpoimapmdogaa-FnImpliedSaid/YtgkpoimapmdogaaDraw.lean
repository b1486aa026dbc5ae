
import Derived.Test.YtgkpoimapmdogaaProg
import Derived.WalkKit
import Derived.ProofKit
import Derived.Lib.Hide
import Derived.Below
import Derived.StillTailTactics
import Derived.Deep.QuietTactic
import Derived.BigQuiet
import Derived.WalkSmall
import Derived.IntWalk
namespace Go.Proofs.Ytgkpoimapmdogaa
open Go.ChangeShapes Go.WideShapes Go.ChangeAt Go.RowKit

/-- the bytes that the source reads lie below B -/
def CodeAt (B : Nat) (w : World) (o : Option Addr) (n : Nat) : Prop := n ≤ 1048576 ∧ ∀ j, j < n → ∃ a z, o = some a ∧ a.block < B ∧ w.cell? (a.add j) = some (.int .u8 z) ∧ 0 ≤ z ∧ z ≤ 255
/-- block S is a source -/
def SrcAt (S : Nat) (c : Value) (p d : Int) (w : World) : Prop := w.heap[S]? = some (.cells #[c, .int .i64 p, .int .i64 d] 53)
theorem SrcAt.c0 {S : Nat} {c : Value} {p d : Int} {w : World} (h : SrcAt S c p d w) : w.cell? ⟨S, 0, none⟩ = some c := by unfold SrcAt at h; simp [World.cell?, h]
theorem SrcAt.c1 {S : Nat} {c : Value} {p d : Int} {w : World} (h : SrcAt S c p d w) : w.cell? ⟨S, 1, none⟩ = some (.int .i64 p) := by unfold SrcAt at h; simp [World.cell?, h]
theorem SrcAt.c2 {S : Nat} {c : Value} {p d : Int} {w : World} (h : SrcAt S c p d w) : w.cell? ⟨S, 2, none⟩ = some (.int .i64 d) := by unfold SrcAt at h; simp [World.cell?, h]
theorem SrcAt.fz {S : Nat} {c : Value} {p d : Int} {w : World} (h : SrcAt S c p d w) (i : Nat) : w.frozen? ⟨S, i, none⟩ = false := by unfold SrcAt at h; simp [World.frozen?, h]
theorem SrcAt.put1 {S : Nat} {c : Value} {p d : Int} {w : World} (h : SrcAt S c p d w) (p' : Int) : SrcAt S c p' d (w.setCell ⟨S, 1, none⟩ (.int .i64 p')) := by
  unfold SrcAt at *; simp [World.setCell, Array.getElem?_modify, h]
theorem SrcAt.put2 {S : Nat} {c : Value} {p d : Int} {w : World} (h : SrcAt S c p d w) (d' : Int) : SrcAt S c p d' (w.setCell ⟨S, 2, none⟩ (.int .i64 d')) := by
  unfold SrcAt at *; simp [World.setCell, Array.getElem?_modify, h]
theorem SrcAt.drew {S : Nat} {c : Value} {p d : Int} {w : World} (h : SrcAt S c p d w) : SrcAt S c p d w.drew := h
theorem SrcAt.drewN {S : Nat} {c : Value} {p d : Int} {w : World} (h : SrcAt S c p d w) (n : Nat) : SrcAt S c p d (w.drewN n) := h
/-- nothing but block S has turned, none has come -/
structure Touch (S : Nat) (w w' : World) : Prop where
  below : Below S w w'
  size : w'.heap.size = w.heap.size
  other : ∀ b, b ≠ S → w'.heap[b]? = w.heap[b]?
theorem Touch.refl (S : Nat) (w : World) : Touch S w w := ⟨Below.refl _ _, rfl, fun _ _ => rfl⟩
theorem Touch.trans {S : Nat} {a b c : World} (h : Touch S a b) (k : Touch S b c) : Touch S a c := ⟨h.below.trans k.below, k.size.trans h.size, fun i hi => (k.other i hi).trans (h.other i hi)⟩
theorem Touch.drew {S : Nat} {a b : World} (h : Touch S a b) : Touch S a b.drew := ⟨h.below.drew, h.size, h.other⟩
theorem Touch.drewN {S : Nat} {a b : World} (h : Touch S a b) (n : Nat) : Touch S a (b.drewN n) := ⟨below_drewN h.below n, h.size, h.other⟩
theorem Touch.setCell {S : Nat} {a b : World} (h : Touch S a b) (i : Nat) (v : Value) : Touch S a (b.setCell ⟨S, i, none⟩ v) :=
  ⟨h.below.setCell (p := ⟨S, i, none⟩) (Nat.le_refl _) v, by rw [← h.size]; simp [World.setCell], fun j hj => (Below.heap_setCell _ _ _ _ hj).trans (h.other j hj)⟩
theorem Touch.cell {S : Nat} {w w' : World} (h : Touch S w w') {a : Addr} (ha : a.block ≠ S) : w'.cell? a = w.cell? a := by
  unfold World.cell?; rw [h.other a.block ha]
theorem add_block (a : Addr) (j : Nat) : (a.add j).block = a.block := by unfold Addr.add; split <;> rfl
theorem CodeAt.touch {B S : Nat} {w w' : World} {o : Option Addr} {n : Nat} (h : CodeAt B w o n) (hS : B ≤ S) (ht : Touch S w w') : CodeAt B w' o n := by
  refine ⟨h.1, fun j hj => ?_⟩
  obtain ⟨a, z, h1, h2, h3, h4⟩ := h.2 j hj
  exact ⟨a, z, h1, h2, (ht.cell (by rw [add_block]; omega)).trans h3, h4⟩
/-- a source that has drawn at most k times -/
def Src (B S k : Nat) (w : World) : Prop := B ≤ S ∧ ∃ o n cap p d, SrcAt S (.slice o n cap) p d w ∧ CodeAt B w o n ∧ 0 ≤ p ∧ p ≤ k ∧ 0 ≤ d ∧ d ≤ 2147483647
theorem Src.mono {B S k l : Nat} {w : World} (h : Src B S k w) (hl : k ≤ l) : Src B S l w := by
  obtain ⟨h0, o, n, cap, p, d, h1, h2, h3, h4, h5⟩ := h
  exact ⟨h0, o, n, cap, p, d, h1, h2, h3, by omega, h5⟩
/-- some number below n; the source has been touched -/
def Some' (n : Int) (B S k : Nat) (w : World) (e : Ending) (w' : World) : Prop := ∃ z : Int, e = .returned (.int .i64 z) ∧ 0 ≤ z ∧ z < n ∧ Src B S k w' ∧ Touch S w w'

set_option maxHeartbeats 4000000 in
set_option maxRecDepth 100000 in
theorem byte_any (B S k : Nat) (w : World) (h : Src B S k w) (hk : k ≤ 1000000) :
    Calls Try.prog 51 #[.pointer (some ⟨S, 0, none⟩)] w (Some' 256 B S (k + 1) w) := by
  obtain ⟨hBS, o, n, cap, p, d, hs, hc, hp0, hp1, hd0, hd1⟩ := h
  obtain ⟨q, rfl⟩ := Int.eq_ofNat_of_zero_le hp0
  have c0 := hs.c0
  have c1 := hs.c1
  have f1 := hs.fz 1
  by_cases hle : (q : Int) + 1 ≤ (n : Int)
  · go_enter Try.func51, Try.ntmps51
    go_wp2
    have ht1 := (Touch.refl S w).setCell 1 (.int .i64 ((q : Int) + 1))
    have hs1 := hs.put1 ((q : Int) + 1)
    have hc1 := hc.touch hBS ht1
    generalize w.setCell ⟨S, 1, none⟩ (.int .i64 ((q : Int) + 1)) = w1 at hs1 hc1 ht1 ⊢
    clear c0 c1 f1
    have c0 := hs1.c0
    have c1 := hs1.c1
    go_quiet (fail)
    have hs2 := hs1.drewN nq
    have ht2 := ht1.drewN nq
    have hc2 := hc.touch hBS ht2
    generalize w1.drewN nq = w2 at hs2 hc2 ht2 ⊢
    clear c0 c1 hs1 hc1 ht1
    have c0 := hs2.c0
    have c1 := hs2.c1
    have c2 := hs2.c2
    have f2 := hs2.fz 2
    obtain ⟨a, z, rfl, ha, hz, hz0, hz1⟩ := hc2.2 q (by omega)
    have e1 : IntKind.i64.wrap (d * 31) = d * 31 := IntWalk.i64_in _ (by omega)
    have e2 : IntKind.i64.wrap (q : Int) = (q : Int) := IntWalk.i64_in _ (by omega)
    have e3 : IntKind.i64.wrap (d * 31 + z) = d * 31 + z := IntWalk.i64_in _ (by omega)
    have e4 : IntKind.i64.wrap (d * 31 + z + 7) = d * 31 + z + 7 := IntWalk.i64_in _ (by omega)
    have hlt : (q : Int) < (n : Int) := by omega
    go_wp2
    refine wp_region_still_tail 23 (by kernel_rfl) (by kernel_rfl) ?_
    simp only [List.take_succ_cons, List.take_zero, List.drop_succ_cons, List.drop_zero]
    repeat still_step
    refine wpStill_nil ?_
    change wpList _ _ _ _ _ w2.drew
    have hs3 := hs2.drew
    have ht3 := ht2.drew
    have hc3 := hc.touch hBS ht3
    generalize w2.drew = w3 at hs3 hc3 ht3 ⊢
    clear c0 c1 c2 f2 hs2 hc2 ht2 hz
    have c2 := hs3.c2
    have f2 := hs3.fz 2
    go_wp2
    have hm0 := Int.emod_nonneg (d * 31 + z + 7) (show (2147483648 : Int) ≠ 0 by decide)
    have hm1 := Int.emod_lt_of_pos (d * 31 + z + 7) (show (0 : Int) < 2147483648 by decide)
    generalize (d * 31 + z + 7) % 2147483648 = d2 at hm0 hm1 ⊢
    have hs4 := hs3.put2 d2
    have ht4 := ht3.setCell 2 (.int .i64 d2)
    have hc4 := hc.touch hBS ht4
    generalize w3.setCell ⟨S, 2, none⟩ (.int .i64 d2) = w4 at hs4 ht4 hc4 ⊢
    clear c2 f2 hs3 ht3 hc3 e1 e3 e4
    have e5 : IntKind.i64.wrap z = z := IntWalk.i64_in _ (by omega)
    have c0 := hs4.c0
    have c1 := hs4.c1
    obtain ⟨a', z', ha', _, hz', hz0', hz1'⟩ := hc4.2 q (by omega)
    obtain rfl := Option.some.inj ha'
    have e6 : IntKind.i64.wrap z' = z' := IntWalk.i64_in _ (by omega)
    go_quiet (fail)
    have hs5 := hs4.drewN nq
    have ht5 := ht4.drewN nq
    have hc5 := hc.touch hBS ht5
    generalize w4.drewN nq = w5 at hs5 ht5 hc5 ⊢
    go_wp2
    go_ret
    exact ⟨z', rfl, hz0', by omega, ⟨hBS, _, _, _, _, _, hs5, hc5, by omega, by omega, hm0, by omega⟩, ht5⟩
  · have hle' : (n : Int) < (q : Int) + 1 := by omega
    clear hle
    by_cases hbig : (3000 : Int) < (q : Int) + 1
    all_goals
      go_enter Try.func51, Try.ntmps51
      go_wp2
      have ht1 := (Touch.refl S w).setCell 1 (.int .i64 ((q : Int) + 1))
      have hs1 := hs.put1 ((q : Int) + 1)
      have hc1 := hc.touch hBS ht1
      generalize w.setCell ⟨S, 1, none⟩ (.int .i64 ((q : Int) + 1)) = w1 at hs1 hc1 ht1 ⊢
      clear c0 c1 f1
      have c0 := hs1.c0
      have c1 := hs1.c1
      go_quiet (fail)
      have hs2 := hs1.drewN nq
      have ht2 := ht1.drewN nq
      have hc2 := hc.touch hBS ht2
      generalize w1.drewN nq = w2 at hs2 hc2 ht2 ⊢
      clear c0 c1 hs1 hc1 ht1
      have c0 := hs2.c0
      have c1 := hs2.c1
      have c2 := hs2.c2
      have f2 := hs2.fz 2
    · go_wp2
      go_ret
      exact ⟨0, rfl, by omega, by omega, ⟨hBS, _, _, _, _, _, hs2, hc2, by omega, by omega, hd0, hd1⟩, ht2⟩
    · go_wp2
      go_ret
      refine ⟨_, rfl, ?_, ?_, ⟨hBS, _, _, _, _, _, hs2.put2 _, hc.touch hBS (ht2.setCell 2 _), ?_, ?_, ?_, ?_⟩, ht2.setCell 2 _⟩
      all_goals omega

/-- how often 'next' draws at most -/
theorem next_any (B S k : Nat) (n : Int) (w : World) (h : Src B S k w) (hk : k ≤ 900000) (hn : 1 ≤ n) (hn2 : n ≤ 16777216) :
    Calls Try.prog 34 #[.pointer (some ⟨S, 0, none⟩), .int .i64 n] w (Some' n B S (k + 3) w) := by
  by_cases h1 : n ≤ 1
  · go_enter Try.func34, Try.ntmps34
    go_wp2
    go_ret
    exact ⟨0, rfl, by omega, by omega, h.mono (by omega), Touch.refl _ _⟩
  · by_cases h2 : n ≤ 256
    · go_enter Try.func34, Try.ntmps34
      go_wp2_with (go_at_call 51; refine (byte_any B S k _ h (by omega)).mono ?_)
      rintro e w1 ⟨z, rfl, hz0, hz1, hs, ht⟩
      go_wp2
      go_ret
      exact ⟨_, rfl, Int.emod_nonneg _ (by omega), Int.emod_lt_of_pos _ (by omega), hs.mono (by omega), ht⟩
    · go_enter Try.func34, Try.ntmps34
      go_wp2_with (go_at_call 51; refine (byte_any B S k _ h (by omega)).mono ?_)
      rintro e w1 ⟨z, rfl, hz0, hz1, hs, ht⟩
      go_wp2_with (go_at_call 51; refine (byte_any B S (k + 1) _ hs (by omega)).mono ?_)
      rintro e w2 ⟨y, rfl, hy0, hy1, hs2, ht2⟩
      go_wp2_with (go_at_call 51; refine (byte_any B S (k + 1 + 1) _ hs2 (by omega)).mono ?_)
      rintro e w3 ⟨x, rfl, hx0, hx1, hs3, ht3⟩
      go_wp2
      go_ret
      have hnn : 0 ≤ z * 65536 + y * 256 + x := by omega
      refine ⟨_, rfl, Int.emod_nonneg _ (by omega), Int.emod_lt_of_pos _ (by omega), hs3, (ht.trans ht2).trans ht3⟩

/-- block L holds the texts ps -/
def Listed (L : Nat) (ps : List ByteArray) (w : World) : Prop := w.heap[L]? = some (.cells (ps.map Value.string).toArray 9)
theorem Listed.cell {p : Nat} {ps : List ByteArray} {w : World} (h : Listed p ps w) {k : Nat} (hk : k < ps.length) : w.cell? ⟨p, k, none⟩ = some (.string ps[k]) := by
  unfold World.cell?
  rw [h]; simp [hk]
theorem Listed.new (ps : List ByteArray) (w : World) : Listed w.heap.size ps (w.alloc (.cells (ps.map Value.string).toArray 9)) := by
  show (w.heap.push _)[w.heap.size]? = _
  simp
/-- all but block S, of what there was, is as it was -/
structure Moved (S : Nat) (w w' : World) : Prop where
  below : Below S w w'
  other : ∀ b, b ≠ S → b < w.heap.size → w'.heap[b]? = w.heap[b]?
  size : w.heap.size ≤ w'.heap.size
theorem Moved.trans {S : Nat} {a b c : World} (h : Moved S a b) (k : Moved S b c) : Moved S a c :=
  ⟨h.below.trans k.below, fun i hi hl => (k.other i hi (by have := h.size; omega)).trans (h.other i hi hl), Nat.le_trans h.size k.size⟩
theorem Touch.moved {S : Nat} {a b : World} (h : Touch S a b) : Moved S a b := ⟨h.below, fun i hi _ => h.other i hi, by rw [h.size]; exact Nat.le_refl _⟩
theorem Moved.alloc {S : Nat} (w : World) (o : Obj) (hS : S ≤ w.heap.size) : Moved S w (w.alloc o) :=
  ⟨(Below.refl _ w).alloc hS o, fun i _ hl => heap_alloc_old w o hl, by simp⟩
/-- one of some texts; the source has been touched -/
def Picked (ps : List ByteArray) (B S k : Nat) (w : World) (e : Ending) (w' : World) : Prop := ∃ s, s ∈ ps ∧ e = .returned (.string s) ∧ Src B S k w' ∧ Moved S w w'
theorem pick_any (B S L k : Nat) (ps : List ByteArray) (w : World) (h : Src B S k w) (hk : k ≤ 900000) (hL : Listed L ps w) (hLS : L ≠ S) (h1 : 1 ≤ ps.length) (h2 : ps.length ≤ 1000) :
    Calls Try.prog 37 #[.pointer (some ⟨S, 0, none⟩), .slice (some ⟨L, 0, none⟩) ps.length ps.length] w (Picked ps B S (k + 3) w) := by
  have h1' : ((ps.length : Int) == 0) = false := beq_eq_false_iff_ne.2 (by omega)
  go_enter Try.func37, Try.ntmps37
  go_wp2_with (go_at_call 34; refine (next_any B S k (ps.length : Int) _ h hk (by omega) (by omega)).mono ?_)
  rintro e w1 ⟨z, rfl, hz0, hz1, hs, ht⟩
  obtain ⟨i, rfl⟩ := Int.eq_ofNat_of_zero_le hz0
  have hi : i < ps.length := by omega
  have hc : w1.cell? ⟨L, i, none⟩ = some (.string ps[i]) := (ht.cell hLS).trans (hL.cell hi)
  go_wp2
  go_ret
  exact ⟨ps[i], List.getElem_mem hi, rfl, hs, ht.moved⟩
/-- the same, the list made at hand -/
theorem pickNew_any (B S k : Nat) (ps : List ByteArray) (w : World) (h : Src B S k w) (hk : k ≤ 900000) (hS : S < w.heap.size) (h1 : 1 ≤ ps.length) (h2 : ps.length ≤ 1000) :
    Calls Try.prog 37 #[.pointer (some ⟨S, 0, none⟩), .slice (some ⟨w.heap.size, 0, none⟩) ps.length ps.length] (w.alloc (.cells (ps.map Value.string).toArray 9)) (Picked ps B S (k + 3) w) := by
  have hm := Moved.alloc (S := S) w (.cells (ps.map Value.string).toArray 9) (by omega)
  refine (pick_any B S w.heap.size k ps _ ?_ hk (Listed.new ps w) (by omega) h1 h2).mono fun e w' ⟨s, a, b, c, d⟩ => ⟨s, a, b, c, hm.trans d⟩
  obtain ⟨h0, o, n, cap, p, d, hs, hc, hr⟩ := h
  refine ⟨h0, o, n, cap, p, d, (heap_alloc_old w _ hS).trans hs, ⟨hc.1, fun j hj => ?_⟩, hr⟩
  obtain ⟨a, z, e1, e2, e3, e4⟩ := hc.2 j hj
  refine ⟨a, z, e1, e2, ?_, e4⟩
  rw [← e3]
  exact ((Below.refl w.heap.size w).alloc (Nat.le_refl _) _).cell (by rw [add_block]; omega)
theorem Src.lt {B S k : Nat} {w : World} (h : Src B S k w) : S < w.heap.size := by
  obtain ⟨_, _, _, _, _, _, hs, _⟩ := h
  exact (Array.getElem?_eq_some_iff.1 hs).1

/-- a new source -/
theorem l00Source_any (B n cap : Nat) (o : Option Addr) (w : World) (hc : CodeAt B w o n) (hB : B ≤ w.heap.size) :
    Calls Try.prog 18 #[.slice o n cap] w fun e w' => e = .returned (.pointer (some ⟨w.heap.size, 0, none⟩)) ∧ Src B w.heap.size 0 w' ∧ Below w.heap.size w w' := by
  have hn := hc.1
  go_enter Try.func18, Try.ntmps18
  go_wp2
  go_ret
  refine ⟨rfl, ⟨hB, o, n, cap, 0, (n : Int) % 1000, ?_, ⟨hn, fun j hj => ?_⟩, by omega, by omega, by omega, by omega⟩, (Below.refl _ w).alloc (Nat.le_refl _) _⟩
  · show (w.heap.push _)[w.heap.size]? = _
    simp
  · obtain ⟨a, z, e1, e2, e3, e4⟩ := hc.2 j hj
    refine ⟨a, z, e1, e2, ?_, e4⟩
    rw [← e3]
    exact ((Below.refl w.heap.size w).alloc (Nat.le_refl _) _).cell (by rw [add_block]; omega)
end Go.Proofs.Ytgkpoimapmdogaa
