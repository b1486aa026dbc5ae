import Derived.Test.YtpennadfomnenaaGreatDoorShelf
import Derived.Lib.SpaceUEq
import Derived.Lib.OthersKept
import Derived.Lib.IndexAny
import Derived.Deep.QuietTactic
import Derived.BigQuiet
import Derived.WalkMore
import Derived.WalkSmall
import Derived.Deep.OwnRows
import Derived.Handy
import Derived.Laws.IdiomCopy
import Derived.Test.YtpennadfomnenaaGreatDoorQ07
import Derived.Test.YtpennadfomnenaaGreatDoorQ01
import Derived.Test.YtpennadfomnenaaGreatDoorQ02
import Derived.Test.YtpennadfomnenaaGreatDoorQ04
set_option linter.unusedVariables false
namespace Go.Proofs.YtpennadfomnenaaGreatDoor
open Go.ChangeShapes Go.WideShapes Go.ChangeAt Go.RowKit Go.Shelf

theorem encode_form {r : Int} (h : 128 ≤ r) : (∃ a z : UInt8, Utf8.encode r = ⟨#[a, z]⟩ ∧ 128 ≤ (z.toNat : Int)) ∨ (∃ a b z : UInt8, Utf8.encode r = ⟨#[a, b, z]⟩ ∧ 128 ≤ (z.toNat : Int)) ∨ (∃ a b c z : UInt8, Utf8.encode r = ⟨#[a, b, c, z]⟩ ∧ 128 ≤ (z.toNat : Int)) := by
  have hc : 128 ≤ (if Utf8.valid r then r.toNat else Utf8.runeError) := by
    split
    · omega
    · decide
  unfold Utf8.encode
  simp only
  generalize (if Utf8.valid r then r.toNat else Utf8.runeError) = c at hc
  rw [if_neg (by omega)]
  split
  · refine Or.inl ⟨_, _, rfl, ?_⟩
    simp; omega
  · split
    · refine Or.inr (Or.inl ⟨_, _, _, rfl, ?_⟩)
      simp; omega
    · refine Or.inr (Or.inr ⟨_, _, _, _, rfl, ?_⟩)
      simp; omega
/-- a text of ASCII alone -/
def Asc (s : ByteArray) : Prop := ∀ b ∈ s.data.toList, b.toNat < 128
theorem Asc.at {s : ByteArray} (h : Asc s) {k : Nat} (hk : k < s.size) : ((s[k]'hk).toNat : Int) < 128 := by
  have := h (s[k]'hk) (by rw [ByteArray.getElem_eq_getElem_data]; exact Array.mem_toList_iff.2 (Array.getElem_mem _))
  omega
theorem Asc.part {s : ByteArray} (h : Asc s) (a b : Nat) : Asc (s.extract a b) := fun c hc => by
  rw [ByteArray.data_extract, Array.toList_extract] at hc
  exact h c (List.mem_of_mem_drop (List.mem_of_mem_take hc))
theorem indexByte_ascii {l : List UInt8} {c : UInt8} (hl : ∀ b ∈ l, b.toNat < 128) (hc : 128 ≤ (c.toNat : Int)) : Lib.indexByte l c = -1 := by
  induction l with
  | nil => rfl
  | cons b l ih =>
    have hb := hl b (by simp)
    have hne : (b == c) = false := by rw [Bool.eq_false_iff]; intro e; rw [eq_of_beq e] at hb; omega
    rw [Lib.indexByte, if_neg (by rw [hne]; decide), ih fun x hx => hl x (by simp [hx])]
    rfl
theorem indexByte_asc (s : ByteArray) (c : Int) (hs : Asc s) (hc : 128 ≤ c) (h2 : c ≤ 255) (w : World) : Calls Tryz.prog 215 #[.string s, .int .u8 c] w fun e w' => e = .returned (.int .i64 (-1)) ∧ w' = w :=
  (strings_IndexByte s c w).mono fun _ _ ⟨h1, h3⟩ => ⟨by rw [h1, indexByte_ascii hs (by simp; omega)], h3⟩
theorem convRune (r : Int) (w : World) : (convert 21 9 (.int .i32 r)).run Tryz.prog w = .ok (.string (Utf8.encode r)) w := by
  simp [convert, run_underlying Tryz.underlying21, run_underlying Tryz.underlying9, Conv.intToString]
theorem validRune_any (r : Int) (w : World) : Calls Tryz.prog 284 #[.int .i32 r] w fun e w' => e = .returned (.bool (Lib.validRune r)) ∧ w = w' :=
  (utf8_ValidRune r w).mono fun _ _ ⟨h1, h2⟩ => ⟨h1, h2.symm⟩
set_option maxHeartbeats 4000000 in
set_option maxRecDepth 1000000 in
/-- a rune that is none of ASCII's is not in it -/
theorem indexRune_high (cs : ByteArray) (ha : Asc cs) (h4 : 4 ≤ cs.size ∧ cs.size ≤ 9) (r : Nat) (h : 128 ≤ r) (hr : r ≠ 65533) (w : World) :
    Calls Tryz.prog 273 #[.string cs, .int .i32 (r : Int)] w fun e w' => e = .returned (.int .i64 (-1)) ∧ Below w.heap.size w w' := by
  have h1 : ¬ ((r : Int) < 128) := by omega
  have h1' : decide ((r : Int) < 128) = false := by simpa using h1
  have h2 : ((r : Int) == 65533) = false := by simp; omega
  by_cases hv : Lib.validRune (r : Int) = true
  · have hconv := convRune (r : Int)
    clear h1
    rcases encode_form (r := (r : Int)) (by omega) with ⟨a, z, he, hz⟩ | ⟨a, b, z, he, hz⟩ | ⟨a, b, c, z, he, hz⟩
    · rw [he] at hconv
      clear he
      have hcs := ha.at (k := 1) (by omega)
      have hz2 : ((z.toNat : Nat) : Int) ≤ 255 := by have := z.toNat_lt; omega
      have hx : ∀ w, (Instr.slice 9 (.string cs) (some (.int .i64 2)) none none).run Tryz.prog w = .ok (.string (cs.extract 2 cs.size)) w := fun w => by
        rw [run_slice_string_from_if w 9 cs .i64 _ Tryz.underlying9, if_pos (by omega)]
        rfl
      have HX := Lib.hid (indexByte_asc (cs.extract 2 cs.size) (z.toNat : Int) (ha.part _ _) hz hz2)
      clear ha
      go_enter Tryz.func273, Tryz.ntmps273
      go_wp2_with (go_at_call 284; refine (validRune_any (r : Int) _).mono ?_; rintro e w1 ⟨rfl, rfl⟩)
      go_step3
      go_wp2
      go_loopw [9] (fun i wr => i = .int .i64 1 ∧ wr = w) (fun _ _ => 0)
      case atStart => exact ⟨rfl, rfl⟩
      case round =>
        obtain ⟨rfl, rfl⟩ := hrel
        have hwn : IntKind.i64.wrap 2 = 2 := by decide
        have hne : (((cs[1]'(by omega)).toNat : Int) != (((ByteArray.mk #[a, z])[1]'(Nat.lt_succ_self 1)).toNat : Int)) = true := by
          show (((cs[1]'(by omega)).toNat : Int) != (z.toNat : Int)) = true
          simp; omega
        go_wp2
        go_step3
        go_wp2
        go_quiet (fail)
        have hq : Below wr.heap.size wr (wr.drewN nq) := below_drewN (Below.refl _ _) nq
        generalize wr.drewN nq = w2 at hq ⊢
        go_wp2
        go_quiet ((go_at_call 215; exact Calls.quiet_of_same (HX.out _)))
        have hq2 : Below wr.heap.size wr (w2.drewN nq) := below_drewN hq nq
        generalize w2.drewN nq = w3 at hq2 ⊢
        go_wp2
        repeat (change Exit.noGoto _ .ret _ _; rw [Exit.noGoto_ret])
        go_ret
        exact ⟨rfl, hq2⟩
    · rw [he] at hconv
      clear he
      have hcs := ha.at (k := 2) (by omega)
      have hz2 : ((z.toNat : Nat) : Int) ≤ 255 := by have := z.toNat_lt; omega
      have hx : ∀ w, (Instr.slice 9 (.string cs) (some (.int .i64 3)) none none).run Tryz.prog w = .ok (.string (cs.extract 3 cs.size)) w := fun w => by
        rw [run_slice_string_from_if w 9 cs .i64 _ Tryz.underlying9, if_pos (by omega)]
        rfl
      have HX := Lib.hid (indexByte_asc (cs.extract 3 cs.size) (z.toNat : Int) (ha.part _ _) hz hz2)
      clear ha
      go_enter Tryz.func273, Tryz.ntmps273
      go_wp2_with (go_at_call 284; refine (validRune_any (r : Int) _).mono ?_; rintro e w1 ⟨rfl, rfl⟩)
      go_step3
      go_wp2
      go_loopw [9] (fun i wr => i = .int .i64 2 ∧ wr = w) (fun _ _ => 0)
      case atStart => exact ⟨rfl, rfl⟩
      case round =>
        obtain ⟨rfl, rfl⟩ := hrel
        have hwn : IntKind.i64.wrap 3 = 3 := by decide
        have hne : (((cs[2]'(by omega)).toNat : Int) != (((ByteArray.mk #[a, b, z])[2]'(Nat.lt_succ_self 2)).toNat : Int)) = true := by
          show (((cs[2]'(by omega)).toNat : Int) != (z.toNat : Int)) = true
          simp; omega
        go_wp2
        go_step3
        go_wp2
        go_quiet (fail)
        have hq : Below wr.heap.size wr (wr.drewN nq) := below_drewN (Below.refl _ _) nq
        generalize wr.drewN nq = w2 at hq ⊢
        go_wp2
        go_quiet ((go_at_call 215; exact Calls.quiet_of_same (HX.out _)))
        have hq2 : Below wr.heap.size wr (w2.drewN nq) := below_drewN hq nq
        generalize w2.drewN nq = w3 at hq2 ⊢
        go_wp2
        repeat (change Exit.noGoto _ .ret _ _; rw [Exit.noGoto_ret])
        go_ret
        exact ⟨rfl, hq2⟩
    · rw [he] at hconv
      clear he
      have hcs := ha.at (k := 3) (by omega)
      have hz2 : ((z.toNat : Nat) : Int) ≤ 255 := by have := z.toNat_lt; omega
      have hx : ∀ w, (Instr.slice 9 (.string cs) (some (.int .i64 4)) none none).run Tryz.prog w = .ok (.string (cs.extract 4 cs.size)) w := fun w => by
        rw [run_slice_string_from_if w 9 cs .i64 _ Tryz.underlying9, if_pos (by omega)]
        rfl
      have HX := Lib.hid (indexByte_asc (cs.extract 4 cs.size) (z.toNat : Int) (ha.part _ _) hz hz2)
      clear ha
      go_enter Tryz.func273, Tryz.ntmps273
      go_wp2_with (go_at_call 284; refine (validRune_any (r : Int) _).mono ?_; rintro e w1 ⟨rfl, rfl⟩)
      go_step3
      go_wp2
      go_loopw [9] (fun i wr => i = .int .i64 3 ∧ wr = w) (fun _ _ => 0)
      case atStart => exact ⟨rfl, rfl⟩
      case round =>
        obtain ⟨rfl, rfl⟩ := hrel
        have hwn : IntKind.i64.wrap 4 = 4 := by decide
        have hne : (((cs[3]'(by omega)).toNat : Int) != (((ByteArray.mk #[a, b, c, z])[3]'(Nat.lt_succ_self 3)).toNat : Int)) = true := by
          show (((cs[3]'(by omega)).toNat : Int) != (z.toNat : Int)) = true
          simp; omega
        go_wp2
        go_step3
        go_wp2
        go_quiet (fail)
        have hq : Below wr.heap.size wr (wr.drewN nq) := below_drewN (Below.refl _ _) nq
        generalize wr.drewN nq = w2 at hq ⊢
        go_wp2
        go_quiet ((go_at_call 215; exact Calls.quiet_of_same (HX.out _)))
        have hq2 : Below wr.heap.size wr (w2.drewN nq) := below_drewN hq nq
        generalize w2.drewN nq = w3 at hq2 ⊢
        go_wp2
        repeat (change Exit.noGoto _ .ret _ _; rw [Exit.noGoto_ret])
        go_ret
        exact ⟨rfl, hq2⟩
  · have hv' : Lib.validRune (r : Int) = false := by simpa using hv
    clear hv
    go_enter Tryz.func273, Tryz.ntmps273
    go_wp2_with (go_at_call 284; refine (validRune_any (r : Int) _).mono ?_; rintro e w1 ⟨rfl, rfl⟩)
    go_ret
    exact ⟨rfl, Below.refl _ _⟩
end Go.Proofs.YtpennadfomnenaaGreatDoor
namespace Go.Proofs.YtpennadfomnenaaGreatDoor
open Go.ChangeShapes Go.WideShapes Go.ChangeAt Go.RowKit Go.Shelf

set_option maxHeartbeats 4000000 in
set_option maxRecDepth 1000000 in
/-- nor is the rune that stands for what is no UTF-8 -/
theorem indexRune_err (cs : ByteArray) (ha : Asc cs) (h4 : 4 ≤ cs.size ∧ cs.size ≤ 9) (w : World) :
    Calls Tryz.prog 273 #[.string cs, .int .i32 65533] w fun e w' => e = .returned (.int .i64 (-1)) ∧ Below w.heap.size w w' := by
  go_enter Tryz.func273, Tryz.ntmps273
  go_wp2
  go_loopw [] (fun wr => ∃ pos : Nat, pos ≤ cs.size ∧ wr.heap[w.heap.size]? = some (.stringIter cs pos) ∧ Below w.heap.size w wr) (fun wr => cs.size - wr.iterPos w.heap.size)
  case atStart => exact ⟨0, by omega, World.iter_heap w cs 0, (Below.refl _ w).alloc (Nat.le_refl _) _⟩
  case round =>
    obtain ⟨pos, hp, hit, hb⟩ := hrel
    by_cases hlt : pos < cs.size
    · have hac := ha.at hlt
      have hne : (((cs[pos]'hlt).toNat : Int) == 65533) = false := by simp; omega
      have hnx : ∀ ty, (Instr.next (.pointer (some ⟨w.heap.size, 0, none⟩)) true ty).run Tryz.prog wr = _ := fun ty => Lib.run_next_ascii_at wr w.heap.size cs pos ty hit hlt (by omega)
      have hit2 := Lib.iterAt_heap wr w.heap.size cs pos (pos + 1) hit
      have hb2 := Lib.below_iterAt hb (k := w.heap.size) (Nat.le_refl _) cs (pos + 1)
      go_wp2
      go_roundw
      case rel => exact ⟨pos + 1, by omega, hit2, hb2⟩
      case measure => simp only [World.iterPos, hit2, hit]; omega
    · obtain rfl : pos = cs.size := by omega
      have hnx : ∀ ty, (Instr.next (.pointer (some ⟨w.heap.size, 0, none⟩)) true ty).run Tryz.prog wr = _ := fun ty => Lib.run_next_end_at wr w.heap.size cs cs.size ty hit (by omega)
      go_wp2
      go_ret
      exact ⟨rfl, hb⟩
/-- is the rune one of the text's -/
def isC (cs : ByteArray) (r : Nat) : Bool := cs.data.toList.any fun b => b.toNat == r
theorem indexByte_no {l : List UInt8} {r : Nat} (h1 : r < 128) (h : (l.any fun b => b.toNat == r) = false) : Lib.indexByte l r.toUInt8 = -1 := by
  induction l with
  | nil => rfl
  | cons b l ih =>
    simp only [List.any_cons, Bool.or_eq_false_iff] at h
    have hne : (b == r.toUInt8) = false := by
      rw [Bool.eq_false_iff]; intro e
      have := congrArg UInt8.toNat (eq_of_beq e)
      have h2 : b.toNat = r := by rw [this]; simp; omega
      simp [h2] at h
    rw [Lib.indexByte, if_neg (by rw [hne]; decide), ih h.2]
    rfl
theorem indexByte_yes {l : List UInt8} {r : Nat} (h : (l.any fun b => b.toNat == r) = true) : 0 ≤ Lib.indexByte l r.toUInt8 := by
  induction l with
  | nil => simp at h
  | cons b l ih =>
    rw [Lib.indexByte]
    split
    · omega
    · rename_i hne
      simp only [List.any_cons, Bool.or_eq_true] at h
      rcases h with h | h
      · exfalso; apply hne
        have : b = r.toUInt8 := by
          have e : b.toNat = r := by simpa using h
          rw [← e]; simp
        simp [this]
      · have := ih h
        split
        · rename_i e; have := eq_of_beq e; omega
        · omega
theorem isC_high {cs : ByteArray} (ha : Asc cs) {r : Nat} (h : 128 ≤ r) : isC cs r = false := by
  rw [isC, List.any_eq_false]
  intro b hb
  have := ha b hb
  simp; omega
theorem indexRune_no (cs : ByteArray) (ha : Asc cs) (h4 : 4 ≤ cs.size ∧ cs.size ≤ 9) (r : Nat) (h : isC cs r = false) (w : World) :
    Calls Tryz.prog 273 #[.string cs, .int .i32 (r : Int)] w fun e w' => e = .returned (.int .i64 (-1)) ∧ Below w.heap.size w w' := by
  by_cases h1 : r < 128
  · refine (strings_IndexRune_ascii cs (r : Int) w (by omega) (by omega)).mono fun e w' ⟨he, hw⟩ => ⟨he.trans ?_, by rw [hw]; exact Below.refl _ _⟩
    have e1 : Lib.indexByte cs.data.toList ((r : Int)).toNat.toUInt8 = -1 := indexByte_no h1 h
    rw [e1]
  · by_cases h2 : r = 65533
    · subst h2; exact indexRune_err cs ha h4 w
    · exact indexRune_high cs ha h4 r (by omega) h2 w
theorem indexRune_yes (cs : ByteArray) (ha : Asc cs) (r : Nat) (h : isC cs r = true) (w : World) :
    Calls Tryz.prog 273 #[.string cs, .int .i32 (r : Int)] w fun e w' => (∃ z : Int, 0 ≤ z ∧ e = .returned (.int .i64 z)) ∧ w = w' := by
  have h1 : r < 128 := by
    rcases Nat.lt_or_ge r 128 with h1 | h1
    · exact h1
    · have := isC_high ha h1; rw [h] at this; cases this
  exact (strings_IndexRune_ascii cs (r : Int) w (by omega) (by omega)).mono fun e w' ⟨he, hw⟩ => ⟨⟨_, indexByte_yes h, he⟩, hw.symm⟩
theorem isC_has (cs : ByteArray) (b : UInt8) : cs.data.toList.contains b = isC cs b.toNat := by
  rw [isC, Bool.eq_iff_iff, List.contains_iff_exists_mem_beq, List.any_eq_true]
  constructor
  · rintro ⟨x, hx, he⟩; exact ⟨x, hx, by rw [eq_of_beq he]; simp⟩
  · rintro ⟨x, hx, he⟩; exact ⟨x, hx, by have : b = x := UInt8.toNat_inj.1 (eq_of_beq he).symm; simp [this]⟩
theorem noAny_more {s : ByteArray} {l : List UInt8} {a b : Nat} (h : Lib.NoAny s.data.toList l a) (h' : ∀ j (_ : j < s.size), a ≤ j → j < b → l.contains (s[j]) = false) : Lib.NoAny s.data.toList l b := fun j x hj hx => by
  by_cases e : j < a
  · exact h j x e hx
  · have hjs : j < s.size := by
      rcases Nat.lt_or_ge j s.size with h1 | h1
      · exact h1
      · rw [List.getElem?_eq_none (by rw [Array.length_toList]; exact h1)] at hx; cases hx
    have := h' j hjs (by omega) hj
    rw [List.getElem?_eq_getElem (by rw [Array.length_toList]; exact hjs)] at hx
    injection hx with hx
    rw [← hx]; exact this
set_option maxHeartbeats 4000000 in
set_option maxRecDepth 1000000 in
theorem indexAny_short (s cs : ByteArray) (ha : Asc cs) (h4 : 4 ≤ cs.size ∧ cs.size ≤ 9) (h8 : s.size ≤ 8) (w : World) : Calls Tryz.prog 254 #[.string s, .string cs] w fun e w' => e = .returned (.int .i64 (Lib.indexAny s.data.toList cs.data.toList)) ∧ Below w.heap.size w w' := by
  have hd : decide ((8 : Int) < (s.size : Int)) = false := by simp; omega
  have hz : ((cs.size : Int) == 1) = false := by simp; omega
  have hcl : ¬ cs.toList = [] := by rw [← List.length_eq_zero_iff, ByteArray.toList_eq, Array.length_toList]; show ¬ cs.size = 0; omega
  have hcl2 : cs.toList.isEmpty = false := by simpa using hcl
  have HA := Lib.hid ha
  clear ha
  go_enter Tryz.func254, Tryz.ntmps254
  go_wp2_with (go_at_call 274; refine (strings_shouldUseASCIISet _ _).mono ?_; rintro e w' ⟨rfl, hw⟩; rw [hw, hd])
  go_loopw [] (fun wr => ∃ pos : Nat, pos ≤ s.size ∧ wr.heap[w.heap.size]? = some (.stringIter s pos) ∧ Below w.heap.size w wr ∧ Hid (Lib.NoAny s.data.toList cs.data.toList pos)) (fun wr => s.size - wr.iterPos w.heap.size)
  case atStart => exact ⟨0, Nat.zero_le _, World.iter_heap w s 0, (Below.refl _ w).alloc (Nat.le_refl _) _, Lib.hid (Lib.NoAny.zero _ _)⟩
  case round =>
    obtain ⟨pos, hp, hit, hb, HN⟩ := hrel
    by_cases hlt : pos < s.size
    · have hnx : ∀ ty, (Instr.next (.pointer (some ⟨w.heap.size, 0, none⟩)) true ty).run Tryz.prog wr = _ := fun ty => Lib.run_next_any_at wr w.heap.size s pos ty hit hlt
      obtain ⟨hw1, hw2⟩ := width_in hlt
      have hit2 := Lib.iterAt_heap wr w.heap.size s pos (pos + (Utf8.decode s pos).2) hit
      have hb2 := Lib.below_iterAt hb (k := w.heap.size) (Nat.le_refl _) s (pos + (Utf8.decode s pos).2)
      have hsz2 : w.heap.size < (wr.iterAt w.heap.size s (pos + (Utf8.decode s pos).2)).heap.size := by rw [Lib.iterAt_size]; exact (Array.getElem?_eq_some_iff.1 hit).1
      generalize hW : wr.iterAt w.heap.size s (pos + (Utf8.decode s pos).2) = W2 at hnx hit2 hb2 hsz2
      clear hW hb
      by_cases hy : isC cs (Utf8.decode s pos).1 = true
      · have ha : (s[pos]'hlt).toNat < 128 := by
          rcases Nat.lt_or_ge (s[pos]'hlt).toNat 128 with h1 | h1
          · exact h1
          · have := isC_high HA.out (decode_high s pos hlt h1).1
            rw [hy] at this; cases this
        have HY := Lib.hid (show Lib.indexAny s.data.toList cs.data.toList = pos from Lib.indexAny_hit (x := s[pos]'hlt) HN.out (by rw [List.getElem?_eq_getElem (by rw [Array.length_toList]; exact hlt)]; rfl) (by rw [isC_has]; rw [decode_ascii s pos hlt ha] at hy; exact hy))
        go_wp2_with (go_at_call 273; refine (indexRune_yes cs HA.out _ hy _).mono ?_)
        rintro e w1 ⟨⟨z, hz0, rfl⟩, rfl⟩
        go_wp2
        go_ret
        exact ⟨by rw [HY.out]; rfl, hb2⟩
      · have hy' : isC cs (Utf8.decode s pos).1 = false := by simpa using hy
        clear hy
        go_wp2_with (go_at_call 273; refine (indexRune_no cs HA.out h4 _ hy' _).mono ?_)
        rintro e w1 ⟨rfl, hb3⟩
        have hit3 : w1.heap[w.heap.size]? = some (.stringIter s (pos + (Utf8.decode s pos).2)) := (hb3.block _ hsz2).trans hit2
        have hb4 : Below w.heap.size w w1 := hb2.trans (hb3.mono (by omega))
        go_wp2
        go_roundw
        case rel =>
          refine ⟨pos + (Utf8.decode s pos).2, hw2, hit3, hb4, Lib.hid (noAny_more HN.out fun j hj h1 h2 => ?_)⟩
          rw [isC_has]
          by_cases ha : (s[pos]'hlt).toNat < 128
          · rw [decode_ascii s pos hlt ha] at h2 hy'
            obtain rfl : j = pos := by simp at h2; omega
            exact hy'
          · exact isC_high HA.out (conts hlt (by omega) j hj h1 h2)
        case measure =>
          simp only [World.iterPos, hit3, hit]
          omega
    · obtain rfl : pos = s.size := by omega
      have HY := Lib.hid (show Lib.indexAny s.data.toList cs.data.toList = -1 from Lib.indexAny_none (by rw [Array.length_toList]; exact HN.out))
      have hnx : ∀ ty, (Instr.next (.pointer (some ⟨w.heap.size, 0, none⟩)) true ty).run Tryz.prog wr = _ := fun ty => Lib.run_next_end_at wr w.heap.size s s.size ty hit (by omega)
      go_wp2
      go_ret
      exact ⟨by rw [HY.out]; rfl, hb⟩
set_option maxRecDepth 1000000 in
theorem indexAny_all (s cs : ByteArray) (ha : Asc cs) (h4 : 4 ≤ cs.size ∧ cs.size ≤ 9) (hs : s.size ≤ 65536) (w : World) : Calls Tryz.prog 254 #[.string s, .string cs] w fun e w' => e = .returned (.int .i64 (Lib.indexAny s.data.toList cs.data.toList)) ∧ Below w.heap.size w w' := by
  by_cases h : s.size ≤ 8
  · exact indexAny_short s cs ha h4 h w
  · refine (strings_IndexAny_long Tryz.zeroValue266 s cs w (by omega) (by omega) (by omega) (by omega) (fun j b hb => ?_)).mono fun e w' ⟨he, hw⟩ => ⟨he, ?_⟩
    · exact ha b (List.mem_of_getElem? hb)
    · rw [hw]; exact ((Below.refl _ w).alloc (Nat.le_refl _) _).alloc (by simp) _
end Go.Proofs.YtpennadfomnenaaGreatDoor
namespace Go.Proofs.YtpennadfomnenaaGreatDoor
open Go.ChangeShapes Go.WideShapes Go.ChangeAt Go.RowKit Go.Deep

/-- what is left behind n, or -1 -/
def left (l n : Nat) : Int := if n ≤ l then (l : Int) - n else -1
/-- attributes stand where they stood -/
theorem al_below {w w' : World} {B lo hi b o : Nat} {A : Option Addr} {al : List (ByteArray × ByteArray)} (hA : RowAt lo hi A al.length b o) (h : AsAt w b o al) (hB : Below B w w') (hh : hi ≤ B) : AsAt w' b o al := by
  cases al with
  | nil => trivial
  | cons x r => exact h.carry fun o => hB.cell (p := ⟨b, o, none⟩) (by have := (hA.2 (by simp)).2.2; show b < _; omega)
/-- how many nodes -/
def Fo.nodes : Fo → Nat
  | .nil => 0
  | .cons _ _ _ _ _ kids rest => kids.nodes + rest.nodes + 1
end Go.Proofs.YtpennadfomnenaaGreatDoor
namespace Go.Proofs.YtpennadfomnenaaGreatDoor
open Go.ChangeShapes Go.WideShapes Go.ChangeAt Go.RowKit Go.Deep

/-- no row is longer than 2^20 -/
def Fo.small : Fo → Prop
  | .nil => True
  | .cons _ _ _ _ al kids rest => al.length ≤ 1048576 ∧ kids.len ≤ 1048576 ∧ kids.small ∧ rest.small
theorem Fo.small_app : ∀ (F : Fo) {G : Fo}, (F.app G).small → G.small
  | .nil, _, h => h
  | .cons _ _ _ _ _ _ r, _, h => Fo.small_app r h.2.2.2
end Go.Proofs.YtpennadfomnenaaGreatDoor
