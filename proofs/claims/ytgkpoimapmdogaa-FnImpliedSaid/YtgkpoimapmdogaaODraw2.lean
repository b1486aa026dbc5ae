import Derived.Test.YtgkpoimapmdogaaODraw
namespace Go.Proofs.Ytgkpoimapmdogaa
open Go.ChangeShapes Go.WideShapes Go.ChangeAt Go.RowKit Go.Deep

def SomeB (B S k : Nat) (w : World) (e : Ending) (w' : World) : Prop := ∃ b : Bool, e = .returned (.bool b) ∧ Src B S k w' ∧ Touch S w w'
theorem chance_any (B S k : Nat) (n : Int) (w : World) (h : Src B S k w) (hk : k ≤ 900000) (hn : 1 ≤ n) (hn2 : n ≤ 1000) :
    Calls Try.prog 36 #[.pointer (some ⟨S, 0, none⟩), .int .i64 n] w (SomeB B S (k + 3) w) := by
  go_enter Try.func36, Try.ntmps36
  go_wp2_with (go_at_call 34; refine (next_any B S k n _ h hk hn (by omega)).mono ?_; rintro e w1 ⟨z, rfl, hz0, hz1, hs, ht⟩; have HST := Lib.hid (And.intro hs ht); clear hs ht)
  go_ret
  exact ⟨_, rfl, HST.out.1, HST.out.2⟩

theorem Moved.refl (S : Nat) (w : World) : Moved S w w := ⟨Below.refl _ _, fun _ _ _ => rfl, Nat.le_refl _⟩
theorem Moved.new {S : Nat} {a b : World} (h : Moved S a b) (hS : S < a.heap.size) (o : Obj) : Moved S a (b.alloc o) :=
  ⟨h.below.alloc (by have := h.size; omega) o, fun i hi hl => (heap_alloc_old b o (Nat.lt_of_lt_of_le hl h.size)).trans (h.other i hi hl), by have := h.size; simp; omega⟩
/-- behind an append: only what is new, and the row -/
theorem Moved.row {S M : Nat} {a b c : World} (h : Moved S a b) (hM : M = a.heap.size) (hS : S < M) (hB : Below M b c) : Moved S a c := by
  subst hM
  have hs := hB.size
  exact ⟨h.below.trans (hB.mono (by omega)), fun i hi hl => (hB.block i hl).trans (h.other i hi hl), Nat.le_trans h.size hs⟩

theorem tagL_small : ∀ s ∈ tagL, s.size ≤ 20 := by decide
theorem smallO_snoc {l : List (ByteArray × Int)} {n : ByteArray} {z : Int} (h : SmallO l) (hn : n.size ≤ 20) : SmallO (l ++ [(n, z)]) := by
  intro x hx
  rcases List.mem_append.1 hx with hx | hx
  · exact h x hx
  · rw [List.mem_singleton.1 hx]; exact hn
def oddL : List ByteArray := [⟨#[]⟩, ⟨#[65]⟩, ⟨#[112]⟩]
theorem oddL_small : ∀ s ∈ oddL, s.size ≤ 20 := by decide
theorem Src.new {B S k : Nat} {w : World} (h : Src B S k w) (o : Obj) : Src B S k (w.alloc o) := h.carry fun _ _ hb => heap_alloc_old w o hb
theorem ints3 (w : World) (a b c : Int) (T : TypeId) : ∀ j : Nat, j < 3 → ∃ q, (w.alloc (.cells #[.int .i64 a, .int .i64 b, .int .i64 c] T)).cell? ⟨w.heap.size, j, none⟩ = some (.int .i64 q)
  | 0, _ => ⟨a, by simp⟩
  | 1, _ => ⟨b, by simp⟩
  | 2, _ => ⟨c, by simp⟩
  | j + 3, h => by omega

/-- what a drawn list leaves -/
def OpensDrawn (B S k : Nat) (w : World) (e : Ending) (w' : World) : Prop := ∃ v l, e = .returned v ∧ ORow w' w.heap.size v l ∧ l.length ≤ 5 ∧ SmallO l ∧ Src B S k w' ∧ Moved S w w'
/-- .. on the way -/
structure OWay (B S k : Nat) (w wr : World) (v : Value) (l : List (ByteArray × Int)) : Prop where
  row : ORow wr w.heap.size v l
  small : SmallO l
  src : Src B S k wr
  moved : Moved S w wr
theorem OWay.step {B S k k' : Nat} {w wr w' : World} {v : Value} {l : List (ByteArray × Int)} (h : OWay B S k w wr v l) (hS : S < w.heap.size) (hs : Src B S k' w') (hm : Moved S wr w') : OWay B S k' w w' v l :=
  ⟨h.row.moved hm hS, h.small, hs, h.moved.trans hm⟩
theorem OWay.new {B S k : Nat} {w wr : World} {v : Value} {l : List (ByteArray × Int)} (h : OWay B S k w wr v l) (hS : S < w.heap.size) (o : Obj) : OWay B S k w (wr.alloc o) v l :=
  ⟨World.ownsRow.alloc h.row o, h.small, h.src.new o, h.moved.new hS o⟩
theorem OWay.push {B S k : Nat} {w wr w' : World} {v v' : Value} {l : List (ByteArray × Int)} {n : ByteArray} {z : Int} (h : OWay B S k w wr v l) (hS : S < w.heap.size) (hn : n.size ≤ 20) (hr : ORow w' w.heap.size v' (l ++ [(n, z)])) (hB : Below w.heap.size wr w') : OWay B S k w w' v' (l ++ [(n, z)]) :=
  ⟨hr, smallO_snoc h.small hn, h.src.carry fun b hb _ => hB.block b (by omega), h.moved.row rfl hS hB⟩

set_option maxHeartbeats 2000000 in
theorem openList_any (B S k : Nat) (w : World) (h : Src B S k w) (hk : k ≤ 800000) :
    Calls Try.prog 19 #[.pointer (some ⟨S, 0, none⟩)] w (OpensDrawn B S (k + 100) w) := by
  have hS := h.lt
  have HSr := Lib.hid h
  clear h
  go_enter Try.func19, Try.ntmps19
  have hmade := World.ownsRow_made (base := w.heap.size) (e := 31) (size := 2) w #[] 0 (Nat.le_refl _) (by unfold maxLen; omega) rfl
  have HO : Hid (OWay B S k w (w.alloc (.cells #[] 31)) (.slice (some ⟨w.heap.size, 0, none⟩) 0 0) []) := Lib.hid ⟨hmade, fun _ h => (List.not_mem_nil h).elim, HSr.out.new _, (Moved.refl S w).new hS _⟩
  clear hmade
  go_wp2_with (go_at_call 34; refine (next_any B S k 5 _ HO.out.src (by omega) (by omega) (by omega)).mono ?_; rintro e w1 ⟨z, rfl, hz0, hz1, hs, ht⟩; have HO1 := Lib.hid (HO.out.step hS hs ht.moved); clear hs ht)
  go_loopw [3, 4] (fun v i wr => ∃ (z : Int) (l : List (ByteArray × Int)), i = .int .i64 z ∧ 0 ≤ z ∧ l.length + z ≤ 4 ∧ Hid (OWay B S (k + 3 + 9 * l.length) w wr v l)) (fun v i wr => (intOf i).toNat)
  case atStart => exact ⟨z, [], rfl, hz0, by simp; omega, by simpa using HO1⟩
  case round =>
    clear HO HO1 HSr
    obtain ⟨z, l, rfl, hz, hl, HO⟩ := hrel
    by_cases hz0 : 0 < z
    · have tok1 : True := trivial
      go_wp2_with (first
        | (go_at_call 21; refine (tag_any B S _ _ HO.out.src (by omega)).mono ?_; rintro e w2 ⟨s, hs, rfl, hsr, hm⟩; have hss := tagL_small s hs; have HO2 := Lib.hid (HO.out.step hS hsr hm); clear hs hsr hm)
        | (go_at_call 35; refine (l01Space_any _ _).mono ?_; rintro e w3 ⟨rfl, rfl⟩)
        | (go_at_call 34; have _t := tok1; refine (next_any B S _ 3 _ HO2.out.src (by omega) (by omega) (by omega)).mono ?_; rintro e w4 ⟨y, rfl, hy0, hy1, hs, ht⟩; have HO3 := Lib.hid ((HO2.out.step hS hs ht.moved).new hS (.cells #[.int .i64 (spaceI s), .int .i64 0, .int .i64 y] 3)); have HM4 := Lib.hid (show w.heap.size ≤ w4.heap.size by have := HO3.out.moved.size; have := (HO2.out.step hS hs ht.moved).moved.size; omega); clear hs ht tok1)
        )
      refine (next_any B S _ 3 _ HO3.out.src (by omega) (by omega) (by omega)).mono ?_
      rintro e w5 ⟨x, rfl, hx0, hx1, hs, ht⟩
      obtain ⟨j, rfl⟩ := Int.eq_ofNat_of_zero_le hx0
      have hj : j < 3 := by omega
      obtain ⟨q, hq⟩ := ints3 w4 (spaceI s) 0 y 3 j hj
      have hq5 := (ht.cell (a := ⟨w4.heap.size, j, none⟩) (by have := HO2.out.src.lt; have := HM4.out; simp; omega)).trans hq
      have HO4 := Lib.hid (HO3.out.step hS hs ht.moved)
      clear hs ht hq
      go_wp2_with (at_builtin; refine wpList_push_open rfl (.tmp 15) (.tmp 27) rfl w.heap.size _ _ _ _ rfl HO4.out.row HO4.out.moved.size (by omega) rfl ?_; intro v' w7 hr hB _; have HO5 := Lib.hid (HO4.out.push hS hss hr hB); clear hr hB)
      go_roundw
      case rel => exact ⟨z - 1, l ++ [(s, q)], by go_num, by omega, by simp; omega, Lib.hid ⟨HO5.out.row, HO5.out.small, HO5.out.src.mono (by simp; omega), HO5.out.moved⟩⟩
      case measure => (simp [intOf] <;> omega)
    · obtain rfl : z = 0 := by omega
      go_wp2_with fail
      refine (chance_any B S _ 10 _ HO.out.src (by omega) (by omega) (by omega)).mono ?_
      rintro e w2 ⟨bb, rfl, hs, ht⟩
      have HO2 := Lib.hid (HO.out.step hS hs ht.moved)
      clear hs ht
      cases bb
      case false =>
        go_wp2
        go_ret
        exact ⟨_, l, rfl, HO2.out.row, by omega, HO2.out.small, HO2.out.src.mono (by omega), HO2.out.moved⟩
      case true =>
        go_wp2_with fail
        refine (pickNew_any B S _ oddL _ HO2.out.src (by omega) HO2.out.src.lt (by decide) (by decide)).mono ?_
        rintro e w3 ⟨s, hs, rfl, hsr, hm⟩
        have hss := oddL_small s hs
        have HO3 := Lib.hid (HO2.out.step hS hsr hm)
        clear hs hsr hm
        go_wp2_with fail
        refine (next_any B S _ 5 _ HO3.out.src (by omega) (by omega) (by omega)).mono ?_
        rintro e w4 ⟨y, rfl, hy0, hy1, hs, ht⟩
        have HO4 := Lib.hid (HO3.out.step hS hs ht.moved)
        clear hs ht
        go_wp2_with (at_builtin; refine wpList_push_open rfl (.tmp 31) (.tmp 39) rfl w.heap.size _ _ _ _ rfl HO4.out.row HO4.out.moved.size (by omega) rfl ?_; intro v' w7 hr hB _; have HO5 := Lib.hid (HO4.out.push hS hss hr hB); clear hr hB)
        go_ret
        exact ⟨_, _, rfl, HO5.out.row, by simp; omega, HO5.out.small, HO5.out.src.mono (by omega), HO5.out.moved⟩
end Go.Proofs.Ytgkpoimapmdogaa
