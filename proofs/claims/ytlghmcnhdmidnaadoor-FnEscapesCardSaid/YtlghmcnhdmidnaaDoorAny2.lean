
import Derived.Test.YtlghmcnhdmidnaaDoorAny
import Derived.Lib.OthersKept
import Derived.Test.YtlghmcnhdmidnaaDoorUtf
namespace Go.Proofs.YtlghmcnhdmidnaaDoor
open Go.ChangeShapes Go.WideShapes Go.ChangeAt Go.RowKit Go.Shelf

set_option maxHeartbeats 4000000 in
set_option maxRecDepth 1000000 in
/-- nor is the rune that stands for what is no UTF-8 -/
theorem indexRune_err (w : World) :
    Calls Tryd.prog 55 #[.string ltgt, .int .i32 65533] w fun e w' => e = .returned (.int .i64 (-1)) ∧ Below w.heap.size w w' := by
  have h60 : (((ltgt[0]'(by decide)).toNat : Int) == 65533) = false := by decide
  have h62 : (((ltgt[1]'(by decide)).toNat : Int) == 65533) = false := by decide
  go_enter Tryd.func55, Tryd.ntmps55
  go_wp2
  go_loopw [] (fun wr => ∃ pos : Nat, pos ≤ 2 ∧ wr.heap[w.heap.size]? = some (.stringIter ltgt pos) ∧ Below w.heap.size w wr) (fun wr => 2 - wr.iterPos w.heap.size)
  case atStart => exact ⟨0, by omega, World.iter_heap w ltgt 0, (Below.refl _ w).alloc (Nat.le_refl _) _⟩
  case round =>
    obtain ⟨pos, hp, hit, hb⟩ := hrel
    have hp' : pos = 0 ∨ pos = 1 ∨ pos = 2 := by omega
    rcases hp' with rfl | rfl | rfl
    · have hnx : ∀ ty, (Instr.next (.pointer (some ⟨w.heap.size, 0, none⟩)) true ty).run Tryd.prog wr = _ := fun ty => Lib.run_next_ascii_at wr w.heap.size ltgt 0 ty hit (by decide) (by decide)
      have hit2 := Lib.iterAt_heap wr w.heap.size ltgt 0 1 hit
      have hb2 := Lib.below_iterAt hb (k := w.heap.size) (Nat.le_refl _) ltgt 1
      go_wp2
      go_roundw
      case rel => exact ⟨1, by omega, hit2, hb2⟩
      case measure => simp only [World.iterPos, hit2, hit]; omega
    · have hnx : ∀ ty, (Instr.next (.pointer (some ⟨w.heap.size, 0, none⟩)) true ty).run Tryd.prog wr = _ := fun ty => Lib.run_next_ascii_at wr w.heap.size ltgt 1 ty hit (by decide) (by decide)
      have hit2 := Lib.iterAt_heap wr w.heap.size ltgt 1 2 hit
      have hb2 := Lib.below_iterAt hb (k := w.heap.size) (Nat.le_refl _) ltgt 2
      go_wp2
      go_roundw
      case rel => exact ⟨2, by omega, hit2, hb2⟩
      case measure => simp only [World.iterPos, hit2, hit]; omega
    · have hnx : ∀ ty, (Instr.next (.pointer (some ⟨w.heap.size, 0, none⟩)) true ty).run Tryd.prog wr = _ := fun ty => Lib.run_next_end_at wr w.heap.size ltgt 2 ty hit (by decide)
      go_wp2
      go_ret
      exact ⟨rfl, hb⟩

/-- is the rune one of the two -/
def isLG (r : Nat) : Bool := r == 60 || r == 62
theorem indexRune_no (r : Nat) (h : isLG r = false) (w : World) :
    Calls Tryd.prog 55 #[.string ltgt, .int .i32 (r : Int)] w fun e w' => e = .returned (.int .i64 (-1)) ∧ Below w.heap.size w w' := by
  by_cases h1 : r < 128
  · refine (strings_IndexRune_ascii ltgt (r : Int) w (by omega) (by omega)).mono fun e w' ⟨he, hw⟩ => ⟨he.trans ?_, by rw [hw]; exact Below.refl _ _⟩
    have e1 : Lib.indexByte ltgt.data.toList ((r : Int)).toNat.toUInt8 = -1 := by
      simp [isLG] at h
      have h60 : ¬ (60 : UInt8) = r.toUInt8 := fun e => by have := congrArg UInt8.toNat e; simp at this; omega
      have h62 : ¬ (62 : UInt8) = r.toUInt8 := fun e => by have := congrArg UInt8.toNat e; simp at this; omega
      simp [Lib.indexByte, h60, h62]
    rw [e1]
  · by_cases h2 : r = 65533
    · subst h2; exact indexRune_err w
    · exact indexRune_high r (by omega) h2 w
theorem indexRune_yes (r : Nat) (h : isLG r = true) (w : World) :
    Calls Tryd.prog 55 #[.string ltgt, .int .i32 (r : Int)] w fun e w' => (e = .returned (.int .i64 0) ∨ e = .returned (.int .i64 1)) ∧ w = w' := by
  simp [isLG] at h
  refine (strings_IndexRune_ascii ltgt (r : Int) w (by omega) (by omega)).mono fun e w' ⟨he, hw⟩ => ⟨?_, hw.symm⟩
  rcases h with rfl | rfl
  · left; exact he
  · right; exact he

/-- a text has one of the two -/
def hasLG (s : ByteArray) : Bool := s.data.toList.any fun c => isLG c.toNat
def NoLG (s : ByteArray) (k : Nat) : Prop := ∀ j (_ : j < s.size), j < k → isLG (s[j]).toNat = false
theorem NoLG.zero (s : ByteArray) : NoLG s 0 := fun _ _ h => by omega
theorem hasLG_hit {s : ByteArray} {k : Nat} (h : k < s.size) (hf : isLG (s[k]'h).toNat = true) : hasLG s = true := by
  rw [hasLG, List.any_eq_true]
  exact ⟨s[k], List.getElem_mem (by simpa using h), hf⟩
theorem hasLG_none {s : ByteArray} (h : NoLG s s.size) : hasLG s = false := by
  rw [hasLG, List.any_eq_false]
  intro c hc
  obtain ⟨i, hi, rfl⟩ := List.getElem_of_mem hc
  have e : isLG (s.data.toList[i]).toNat = false := h i (by simpa using hi) (by simpa using hi)
  rw [e]; decide
/-- the answer, by its sign -/
def SignLG (s : ByteArray) (w : World) (e : Ending) (w' : World) : Prop := ∃ z : Int, e = .returned (.int .i64 z) ∧ ((0 ≤ z ∧ hasLG s = true) ∨ (z = -1 ∧ hasLG s = false)) ∧ Below w.heap.size w w'

theorem high_isnt {r : Nat} (h : 128 ≤ r) : isLG r = false := by simp [isLG]; omega
theorem NoLG.more {s : ByteArray} {a b : Nat} (h : NoLG s a) (h' : ∀ j (_ : j < s.size), a ≤ j → j < b → isLG (s[j]).toNat = false) : NoLG s b := fun j hj h1 => by
  by_cases e : j < a
  · exact h j hj e
  · exact h' j hj (by omega) h1

set_option maxHeartbeats 4000000 in
set_option maxRecDepth 1000000 in
theorem indexAny_short (s : ByteArray) (h8 : s.size ≤ 8) (w : World) : Calls Tryd.prog 41 #[.string s, .string ltgt] w (SignLG s w) := by
  have hd : decide ((8 : Int) < (s.size : Int)) = false := by simp; omega
  go_enter Tryd.func41, Tryd.ntmps41
  go_wp2_with (go_at_call 56; refine (strings_shouldUseASCIISet _ _).mono ?_; rintro e w' ⟨rfl, hw⟩; rw [hw, hd])
  go_loopw [] (fun wr => ∃ pos : Nat, pos ≤ s.size ∧ wr.heap[w.heap.size]? = some (.stringIter s pos) ∧ Below w.heap.size w wr ∧ NoLG s pos) (fun wr => s.size - wr.iterPos w.heap.size)
  case atStart => exact ⟨0, Nat.zero_le _, World.iter_heap w s 0, (Below.refl _ w).alloc (Nat.le_refl _) _, NoLG.zero s⟩
  case round =>
    obtain ⟨pos, hp, hit, hb, hno⟩ := hrel
    have HN := Lib.hid hno
    clear hno
    by_cases hlt : pos < s.size
    · have hnx : ∀ ty, (Instr.next (.pointer (some ⟨w.heap.size, 0, none⟩)) true ty).run Tryd.prog wr = _ := fun ty => Lib.run_next_any_at wr w.heap.size s pos ty hit hlt
      obtain ⟨hw1, hw2⟩ := width_in hlt
      have hit2 := Lib.iterAt_heap wr w.heap.size s pos (pos + (Utf8.decode s pos).2) hit
      have hb2 := Lib.below_iterAt hb (k := w.heap.size) (Nat.le_refl _) s (pos + (Utf8.decode s pos).2)
      have hsz2 : w.heap.size < (wr.iterAt w.heap.size s (pos + (Utf8.decode s pos).2)).heap.size := by rw [Lib.iterAt_size]; exact (Array.getElem?_eq_some_iff.1 hit).1
      generalize hW : wr.iterAt w.heap.size s (pos + (Utf8.decode s pos).2) = W2 at hnx hit2 hb2 hsz2
      clear hW hb
      by_cases hy : isLG (Utf8.decode s pos).1 = true
      · have ha : (s[pos]'hlt).toNat < 128 := by
          rcases Nat.lt_or_ge (s[pos]'hlt).toNat 128 with h1 | h1
          · exact h1
          · have := high_isnt (decode_high s pos hlt h1).1
            rw [hy] at this; cases this
        have HY := Lib.hid (show isLG (s[pos]'hlt).toNat = true by rw [decode_ascii s pos hlt ha] at hy; exact hy)
        go_wp2_with (go_at_call 55; refine (indexRune_yes _ hy _).mono ?_)
        rintro e w1 ⟨rfl | rfl, rfl⟩
        all_goals
          go_wp2
          go_ret
          exact ⟨_, rfl, Or.inl ⟨by omega, hasLG_hit hlt HY.out⟩, hb2⟩
      · have hy' : isLG (Utf8.decode s pos).1 = false := by simpa using hy
        clear hy
        go_wp2_with (go_at_call 55; refine (indexRune_no _ hy' _).mono ?_)
        rintro e w1 ⟨rfl, hb3⟩
        have hit3 : w1.heap[w.heap.size]? = some (.stringIter s (pos + (Utf8.decode s pos).2)) := (hb3.block _ hsz2).trans hit2
        have hb4 : Below w.heap.size w w1 := hb2.trans (hb3.mono (by omega))
        go_wp2
        go_roundw
        case rel =>
          refine ⟨pos + (Utf8.decode s pos).2, hw2, hit3, hb4, HN.out.more fun j hj h1 h2 => ?_⟩
          by_cases ha : (s[pos]'hlt).toNat < 128
          · rw [decode_ascii s pos hlt ha] at h2 hy'
            obtain rfl : j = pos := by simp at h2; omega
            exact hy'
          · exact high_isnt (conts hlt (by omega) j hj h1 h2)
        case measure =>
          simp only [World.iterPos, hit3, hit]
          omega
    · obtain rfl : pos = s.size := by omega
      have hnx : ∀ ty, (Instr.next (.pointer (some ⟨w.heap.size, 0, none⟩)) true ty).run Tryd.prog wr = _ := fun ty => Lib.run_next_end_at wr w.heap.size s s.size ty hit (by omega)
      go_wp2
      go_ret
      exact ⟨-1, rfl, Or.inr ⟨rfl, hasLG_none HN.out⟩, hb⟩

theorem byteLG (c : UInt8) : [(60 : UInt8), 62].contains c = isLG c.toNat := by
  have e1 : (c == (60 : UInt8)) = (c.toNat == 60) := by
    rw [Bool.eq_iff_iff, beq_iff_eq, beq_iff_eq]
    exact ⟨fun h => by rw [h]; rfl, fun h => UInt8.toNat_inj.1 h⟩
  have e2 : (c == (62 : UInt8)) = (c.toNat == 62) := by
    rw [Bool.eq_iff_iff, beq_iff_eq, beq_iff_eq]
    exact ⟨fun h => by rw [h]; rfl, fun h => UInt8.toNat_inj.1 h⟩
  rw [List.contains_cons, List.contains_cons, List.contains_nil, Bool.or_false, e1, e2, isLG]
theorem ltgt_ascii : ∀ b ∈ ltgt.data.toList, b.toNat < 128 := by decide
theorem indexAny_sign : ∀ l : List UInt8, (0 ≤ Lib.indexAny l [60, 62] ∧ (l.any fun c => isLG c.toNat) = true) ∨ (Lib.indexAny l [60, 62] = -1 ∧ (l.any fun c => isLG c.toNat) = false)
  | [] => Or.inr ⟨rfl, rfl⟩
  | c :: l => by
    have ih := indexAny_sign l
    simp only [Lib.indexAny, byteLG, List.any_cons]
    cases h : isLG c.toNat
    · simp only [Bool.false_or]
      rcases ih with ⟨h1, h2⟩ | ⟨h1, h2⟩
      · refine Or.inl ⟨?_, h2⟩
        rw [if_neg (by simp), if_neg (by simp; omega)]; omega
      · refine Or.inr ⟨?_, h2⟩
        rw [if_neg (by simp), h1]; rfl
    · exact Or.inl ⟨by simp, by simp⟩
set_option maxRecDepth 1000000 in
theorem indexAny_all (s : ByteArray) (hs : s.size ≤ 65536) (w : World) : Calls Tryd.prog 41 #[.string s, .string ltgt] w (SignLG s w) := by
  by_cases h : s.size ≤ 8
  · exact indexAny_short s h w
  · refine (strings_IndexAny_long Tryd.zeroValue67 s ltgt w (by decide) (by omega) (by omega) (by decide) (fun j b hb => ?_)).mono fun e w' ⟨he, hw⟩ => ⟨_, he, ?_, ?_⟩
    · exact ltgt_ascii b (List.mem_of_getElem? hb)
    · exact indexAny_sign s.data.toList
    · rw [hw]; exact ((Below.refl _ w).alloc (Nat.le_refl _) _).alloc (by simp) _
theorem containsAny_any (s : ByteArray) (hs : s.size ≤ 65536) (w : World) :
    Calls Tryd.prog 28 #[.string s, .string ltgt] w fun e w' => e = .returned (.bool (hasLG s)) ∧ Below w.heap.size w w' := by
  go_enter Tryd.func28, Tryd.ntmps28
  go_wp2_with (go_at_call 41; refine (indexAny_all s hs _).mono ?_)
  rintro e w1 ⟨z, rfl, hz, hb⟩
  rcases hz with ⟨h1, h2⟩ | ⟨rfl, h2⟩
  · have H := Lib.hid h2
    clear h2
    go_wp2
    go_ret
    exact ⟨ret_bool H.out.symm, hb⟩
  · have H := Lib.hid h2
    clear h2
    go_wp2
    go_ret
    exact ⟨ret_bool H.out.symm, hb⟩
end Go.Proofs.YtlghmcnhdmidnaaDoor
