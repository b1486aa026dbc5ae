import Derived.Lib.OthersKept
import Derived.Lib.IndexMore
import Derived.Test.YthdkkpbhijlpaaaGreatS17
set_option linter.unusedVariables false
namespace Go.Proofs.YthdkkpbhijlpaaaGreat
open Go.ChangeShapes Go.WideShapes Go.ChangeAt Go.RowKit Go.Shelf

set_option maxHeartbeats 4000000 in
set_option maxRecDepth 1000000 in
/-- nor is the rune that stands for what is no UTF-8 -/
theorem indexRune_err (w : World) :
    Calls Tryz.prog 195 #[.string ltgt, .int .i32 65533] w fun e w' => e = .returned (.int .i64 (-1)) ∧ Below w.heap.size w w' := by
  have h60 : (((ltgt[0]'(by decide)).toNat : Int) == 65533) = false := by decide
  have h62 : (((ltgt[1]'(by decide)).toNat : Int) == 65533) = false := by decide
  go_enter Tryz.func195, Tryz.ntmps195
  go_wp2
  go_loopw [] (fun wr => ∃ pos : Nat, pos ≤ 2 ∧ wr.heap[w.heap.size]? = some (.stringIter ltgt pos) ∧ Below w.heap.size w wr) (fun wr => 2 - wr.iterPos w.heap.size)
  case atStart => exact ⟨0, by omega, World.iter_heap w ltgt 0, (Below.refl _ w).alloc (Nat.le_refl _) _⟩
  case round =>
    obtain ⟨pos, hp, hit, hb⟩ := hrel
    have hp' : pos = 0 ∨ pos = 1 ∨ pos = 2 := by omega
    rcases hp' with rfl | rfl | rfl
    · have hnx : ∀ ty, (Instr.next (.pointer (some ⟨w.heap.size, 0, none⟩)) true ty).run Tryz.prog wr = _ := fun ty => Lib.run_next_ascii_at wr w.heap.size ltgt 0 ty hit (by decide) (by decide)
      have hit2 := Lib.iterAt_heap wr w.heap.size ltgt 0 1 hit
      have hb2 := Lib.below_iterAt hb (k := w.heap.size) (Nat.le_refl _) ltgt 1
      go_wp2
      go_roundw
      case rel => exact ⟨1, by omega, hit2, hb2⟩
      case measure => simp only [World.iterPos, hit2, hit]; omega
    · have hnx : ∀ ty, (Instr.next (.pointer (some ⟨w.heap.size, 0, none⟩)) true ty).run Tryz.prog wr = _ := fun ty => Lib.run_next_ascii_at wr w.heap.size ltgt 1 ty hit (by decide) (by decide)
      have hit2 := Lib.iterAt_heap wr w.heap.size ltgt 1 2 hit
      have hb2 := Lib.below_iterAt hb (k := w.heap.size) (Nat.le_refl _) ltgt 2
      go_wp2
      go_roundw
      case rel => exact ⟨2, by omega, hit2, hb2⟩
      case measure => simp only [World.iterPos, hit2, hit]; omega
    · have hnx : ∀ ty, (Instr.next (.pointer (some ⟨w.heap.size, 0, none⟩)) true ty).run Tryz.prog wr = _ := fun ty => Lib.run_next_end_at wr w.heap.size ltgt 2 ty hit (by decide)
      go_wp2
      go_ret
      exact ⟨rfl, hb⟩
/-- is the rune one of the two -/
def isLG (r : Nat) : Bool := r == 60 || r == 62
theorem indexRune_no (r : Nat) (h : isLG r = false) (w : World) :
    Calls Tryz.prog 195 #[.string ltgt, .int .i32 (r : Int)] w fun e w' => e = .returned (.int .i64 (-1)) ∧ Below w.heap.size w w' := by
  by_cases h1 : r < 128
  · refine (strings_IndexRune_ascii ltgt (r : Int) w (by omega) (by omega)).mono fun e w' ⟨he, hw⟩ => ⟨he.trans ?_, by rw [hw]; exact Below.refl _ _⟩
    have e1 : Lib.indexByte ltgt.data.toList ((r : Int)).toNat.toUInt8 = -1 := by
      simp [isLG] at h
      have h60 : ¬ (60 : UInt8) = r.toUInt8 := fun e => by have := congrArg UInt8.toNat e; simp at this; omega
      have h62 : ¬ (62 : UInt8) = r.toUInt8 := fun e => by have := congrArg UInt8.toNat e; simp at this; omega
      simp [Lib.indexByte, h60, h62]
    rw [e1]
  · by_cases h2 : r = 65533
    · subst h2; exact indexRune_err w
    · exact indexRune_high r (by omega) h2 w
theorem indexRune_yes (r : Nat) (h : isLG r = true) (w : World) :
    Calls Tryz.prog 195 #[.string ltgt, .int .i32 (r : Int)] w fun e w' => (e = .returned (.int .i64 0) ∨ e = .returned (.int .i64 1)) ∧ w = w' := by
  simp [isLG] at h
  refine (strings_IndexRune_ascii ltgt (r : Int) w (by omega) (by omega)).mono fun e w' ⟨he, hw⟩ => ⟨?_, hw.symm⟩
  rcases h with rfl | rfl
  · left; exact he
  · right; exact he
/-- a text has one of the two -/
def hasLG (s : ByteArray) : Bool := s.data.toList.any fun c => isLG c.toNat
def NoLG (s : ByteArray) (k : Nat) : Prop := ∀ j (_ : j < s.size), j < k → isLG (s[j]).toNat = false
theorem NoLG.zero (s : ByteArray) : NoLG s 0 := fun _ _ h => by omega
theorem hasLG_hit {s : ByteArray} {k : Nat} (h : k < s.size) (hf : isLG (s[k]'h).toNat = true) : hasLG s = true := by
  rw [hasLG, List.any_eq_true]
  exact ⟨s[k], List.getElem_mem (by simpa using h), hf⟩
theorem hasLG_none {s : ByteArray} (h : NoLG s s.size) : hasLG s = false := by
  rw [hasLG, List.any_eq_false]
  intro c hc
  obtain ⟨i, hi, rfl⟩ := List.getElem_of_mem hc
  have e : isLG (s.data.toList[i]).toNat = false := h i (by simpa using hi) (by simpa using hi)
  rw [e]; decide
/-- the answer, by its sign -/
def SignLG (s : ByteArray) (w : World) (e : Ending) (w' : World) : Prop := ∃ z : Int, e = .returned (.int .i64 z) ∧ ((0 ≤ z ∧ hasLG s = true) ∨ (z = -1 ∧ hasLG s = false)) ∧ Below w.heap.size w w'
theorem high_isnt {r : Nat} (h : 128 ≤ r) : isLG r = false := by simp [isLG]; omega
theorem NoLG.more {s : ByteArray} {a b : Nat} (h : NoLG s a) (h' : ∀ j (_ : j < s.size), a ≤ j → j < b → isLG (s[j]).toNat = false) : NoLG s b := fun j hj h1 => by
  by_cases e : j < a
  · exact h j hj e
  · exact h' j hj (by omega) h1
set_option maxHeartbeats 4000000 in
set_option maxRecDepth 1000000 in
theorem indexAny_short (s : ByteArray) (h8 : s.size ≤ 8) (w : World) : Calls Tryz.prog 178 #[.string s, .string ltgt] w (SignLG s w) := by
  have hd : decide ((8 : Int) < (s.size : Int)) = false := by simp; omega
  go_enter Tryz.func178, Tryz.ntmps178
  go_wp2_with (go_at_call 196; refine (strings_shouldUseASCIISet _ _).mono ?_; rintro e w' ⟨rfl, hw⟩; rw [hw, hd])
  go_loopw [] (fun wr => ∃ pos : Nat, pos ≤ s.size ∧ wr.heap[w.heap.size]? = some (.stringIter s pos) ∧ Below w.heap.size w wr ∧ NoLG s pos) (fun wr => s.size - wr.iterPos w.heap.size)
  case atStart => exact ⟨0, Nat.zero_le _, World.iter_heap w s 0, (Below.refl _ w).alloc (Nat.le_refl _) _, NoLG.zero s⟩
  case round =>
    obtain ⟨pos, hp, hit, hb, hno⟩ := hrel
    have HN := Lib.hid hno
    clear hno
    by_cases hlt : pos < s.size
    · have hnx : ∀ ty, (Instr.next (.pointer (some ⟨w.heap.size, 0, none⟩)) true ty).run Tryz.prog wr = _ := fun ty => Lib.run_next_any_at wr w.heap.size s pos ty hit hlt
      obtain ⟨hw1, hw2⟩ := width_in hlt
      have hit2 := Lib.iterAt_heap wr w.heap.size s pos (pos + (Utf8.decode s pos).2) hit
      have hb2 := Lib.below_iterAt hb (k := w.heap.size) (Nat.le_refl _) s (pos + (Utf8.decode s pos).2)
      have hsz2 : w.heap.size < (wr.iterAt w.heap.size s (pos + (Utf8.decode s pos).2)).heap.size := by rw [Lib.iterAt_size]; exact (Array.getElem?_eq_some_iff.1 hit).1
      generalize hW : wr.iterAt w.heap.size s (pos + (Utf8.decode s pos).2) = W2 at hnx hit2 hb2 hsz2
      clear hW hb
      by_cases hy : isLG (Utf8.decode s pos).1 = true
      · have ha : (s[pos]'hlt).toNat < 128 := by
          rcases Nat.lt_or_ge (s[pos]'hlt).toNat 128 with h1 | h1
          · exact h1
          · have := high_isnt (decode_high s pos hlt h1).1
            rw [hy] at this; cases this
        have HY := Lib.hid (show isLG (s[pos]'hlt).toNat = true by rw [decode_ascii s pos hlt ha] at hy; exact hy)
        go_wp2_with (go_at_call 195; refine (indexRune_yes _ hy _).mono ?_)
        rintro e w1 ⟨rfl | rfl, rfl⟩
        all_goals
          go_wp2
          go_ret
          exact ⟨_, rfl, Or.inl ⟨by omega, hasLG_hit hlt HY.out⟩, hb2⟩
      · have hy' : isLG (Utf8.decode s pos).1 = false := by simpa using hy
        clear hy
        go_wp2_with (go_at_call 195; refine (indexRune_no _ hy' _).mono ?_)
        rintro e w1 ⟨rfl, hb3⟩
        have hit3 : w1.heap[w.heap.size]? = some (.stringIter s (pos + (Utf8.decode s pos).2)) := (hb3.block _ hsz2).trans hit2
        have hb4 : Below w.heap.size w w1 := hb2.trans (hb3.mono (by omega))
        go_wp2
        go_roundw
        case rel =>
          refine ⟨pos + (Utf8.decode s pos).2, hw2, hit3, hb4, HN.out.more fun j hj h1 h2 => ?_⟩
          by_cases ha : (s[pos]'hlt).toNat < 128
          · rw [decode_ascii s pos hlt ha] at h2 hy'
            obtain rfl : j = pos := by simp at h2; omega
            exact hy'
          · exact high_isnt (conts hlt (by omega) j hj h1 h2)
        case measure =>
          simp only [World.iterPos, hit3, hit]
          omega
    · obtain rfl : pos = s.size := by omega
      have hnx : ∀ ty, (Instr.next (.pointer (some ⟨w.heap.size, 0, none⟩)) true ty).run Tryz.prog wr = _ := fun ty => Lib.run_next_end_at wr w.heap.size s s.size ty hit (by omega)
      go_wp2
      go_ret
      exact ⟨-1, rfl, Or.inr ⟨rfl, hasLG_none HN.out⟩, hb⟩
theorem byteLG (c : UInt8) : [(60 : UInt8), 62].contains c = isLG c.toNat := by
  have e1 : (c == (60 : UInt8)) = (c.toNat == 60) := by
    rw [Bool.eq_iff_iff, beq_iff_eq, beq_iff_eq]
    exact ⟨fun h => by rw [h]; rfl, fun h => UInt8.toNat_inj.1 h⟩
  have e2 : (c == (62 : UInt8)) = (c.toNat == 62) := by
    rw [Bool.eq_iff_iff, beq_iff_eq, beq_iff_eq]
    exact ⟨fun h => by rw [h]; rfl, fun h => UInt8.toNat_inj.1 h⟩
  rw [List.contains_cons, List.contains_cons, List.contains_nil, Bool.or_false, e1, e2, isLG]
theorem ltgt_ascii : ∀ b ∈ ltgt.data.toList, b.toNat < 128 := by decide
theorem indexAny_sign : ∀ l : List UInt8, (0 ≤ Lib.indexAny l [60, 62] ∧ (l.any fun c => isLG c.toNat) = true) ∨ (Lib.indexAny l [60, 62] = -1 ∧ (l.any fun c => isLG c.toNat) = false)
  | [] => Or.inr ⟨rfl, rfl⟩
  | c :: l => by
    have ih := indexAny_sign l
    simp only [Lib.indexAny, byteLG, List.any_cons]
    cases h : isLG c.toNat
    · simp only [Bool.false_or]
      rcases ih with ⟨h1, h2⟩ | ⟨h1, h2⟩
      · refine Or.inl ⟨?_, h2⟩
        rw [if_neg (by simp), if_neg (by simp; omega)]; omega
      · refine Or.inr ⟨?_, h2⟩
        rw [if_neg (by simp), h1]; rfl
    · exact Or.inl ⟨by simp, by simp⟩
set_option maxRecDepth 1000000 in
theorem indexAny_all (s : ByteArray) (hs : s.size ≤ 65536) (w : World) : Calls Tryz.prog 178 #[.string s, .string ltgt] w (SignLG s w) := by
  by_cases h : s.size ≤ 8
  · exact indexAny_short s h w
  · refine (strings_IndexAny_long Tryz.zeroValue189 s ltgt w (by decide) (by omega) (by omega) (by decide) (fun j b hb => ?_)).mono fun e w' ⟨he, hw⟩ => ⟨_, he, ?_, ?_⟩
    · exact ltgt_ascii b (List.mem_of_getElem? hb)
    · exact indexAny_sign s.data.toList
    · rw [hw]; exact ((Below.refl _ w).alloc (Nat.le_refl _) _).alloc (by simp) _
theorem containsAny_any (s : ByteArray) (hs : s.size ≤ 65536) (w : World) :
    Calls Tryz.prog 136 #[.string s, .string ltgt] w fun e w' => e = .returned (.bool (hasLG s)) ∧ Below w.heap.size w w' := by
  go_enter Tryz.func136, Tryz.ntmps136
  go_wp2_with (go_at_call 178; refine (indexAny_all s hs _).mono ?_)
  rintro e w1 ⟨z, rfl, hz, hb⟩
  rcases hz with ⟨h1, h2⟩ | ⟨rfl, h2⟩
  · have H := Lib.hid h2
    clear h2
    go_wp2
    go_ret
    exact ⟨ret_bool H.out.symm, hb⟩
  · have H := Lib.hid h2
    clear h2
    go_wp2
    go_ret
    exact ⟨ret_bool H.out.symm, hb⟩
end Go.Proofs.YthdkkpbhijlpaaaGreat
namespace Go.Proofs.YthdkkpbhijlpaaaGreat
open Go.ChangeShapes Go.WideShapes Go.ChangeAt Go.RowKit Go.Shelf

/-- '--' in it -/
def dashes (s : ByteArray) : Bool := Lib.contains s.data.toList [45, 45]
def dashFirst (s : ByteArray) : Bool := Lib.hasPrefix s.data.toList [45]
def dashLast (s : ByteArray) : Bool := Lib.hasSuffix s.data.toList [45]
def commentIn (s : ByteArray) : Bool := !hasLG s && !dashes s && !dashFirst s && !dashLast s
def commentB (s : ByteArray) : Bool := decide (s.size ≤ 65536) && commentIn s
theorem at_list {s : ByteArray} {i : Nat} (h : i < s.size) : s.data.toList[i]? = some s[i] := by
  rw [List.getElem?_eq_getElem (by simpa using h)]; rfl
theorem occ_two (l : List UInt8) (i : Nat) : Lib.occAt l [45, 45] i = true ↔ l[i]? = some 45 ∧ l[i + 1]? = some 45 := by
  unfold Lib.occAt
  rcases h : l.drop i with _ | ⟨a, _ | ⟨b, t⟩⟩
  · have h0 : l.length ≤ i := by simpa using h
    simp [List.getElem?_eq_none h0]
  · have e1 : l[i]? = some a := by rw [← List.head?_drop, h]; rfl
    have e2 : l[i + 1]? = none := by
      have := congrArg List.length h; simp at this
      exact List.getElem?_eq_none (by omega)
    simp [e2]
  · have e1 : l[i]? = some a := by rw [← List.head?_drop, h]; rfl
    have e2 : l[i + 1]? = some b := by
      rw [← List.head?_drop, ← List.drop_drop, h]; rfl
    rw [e1, e2]
    simp only [List.isPrefixOf, Bool.and_true, Bool.and_eq_true, beq_iff_eq, Option.some.injEq]
    exact ⟨fun ⟨a, b⟩ => ⟨a.symm, b.symm⟩, fun ⟨a, b⟩ => ⟨a.symm, b.symm⟩⟩
theorem dashes_hit {s : ByteArray} {j : Nat} (h : j + 1 < s.size) (h1 : s[j] = 45) (h2 : s[j + 1] = 45) : dashes s = true := by
  have ho : Lib.occAt s.data.toList [45, 45] j = true := (occ_two _ _).2 ⟨by rw [at_list (by omega), h1], by rw [at_list h, h2]⟩
  rw [dashes, Lib.contains, decide_eq_true_iff]
  rcases Lib.index_spec s.data.toList [45, 45] with ⟨_, hn⟩ | ⟨i, hi, _⟩
  · have := hn j (by simp; omega)
    rw [ho] at this; cases this
  · omega
theorem dashes_at {s : ByteArray} (h : dashes s = true) : ∃ j, ∃ (h1 : j + 1 < s.size), s[j] = 45 ∧ s[j + 1] = 45 := by
  rw [dashes, Lib.contains, decide_eq_true_iff] at h
  rcases Lib.index_spec s.data.toList [45, 45] with ⟨h0, _⟩ | ⟨i, _, _, ho, _⟩
  · omega
  · obtain ⟨e1, e2⟩ := (occ_two _ _).1 ho
    have hl : i + 1 < s.data.toList.length := (List.getElem?_eq_some_iff.1 e2).1
    have hl' : i + 1 < s.size := by simpa using hl
    rw [at_list (by omega)] at e1
    rw [at_list hl'] at e2
    exact ⟨i, hl', Option.some.inj e1, Option.some.inj e2⟩
theorem dashFirst_iff (s : ByteArray) : dashFirst s = true ↔ ∃ h : 0 < s.size, s[0] = 45 := by
  rw [dashFirst, Lib.hasPrefix]
  constructor
  · intro h
    rcases e : s.data.toList with _ | ⟨a, t⟩
    · rw [e] at h; simp at h
    · rw [e] at h
      have hl : 0 < s.size := by have := congrArg List.length e; simp at this; omega
      have := at_list hl
      rw [e] at this
      simp at h this
      exact ⟨hl, by rw [← this, ← h]⟩
  · rintro ⟨h, h0⟩
    rcases e : s.data.toList with _ | ⟨a, t⟩
    · have := congrArg List.length e; rw [List.length_nil, Array.length_toList] at this; exact absurd h (by show ¬ 0 < s.data.size; omega)
    · have := at_list h
      rw [e] at this
      simp at this
      simp [this, h0]
theorem dashLast_iff (s : ByteArray) : dashLast s = true ↔ ∃ k, ∃ h : k < s.size, k + 1 = s.size ∧ s[k] = 45 := by
  rw [dashLast, Lib.hasSuffix, List.isSuffixOf_iff_suffix]
  constructor
  · rintro ⟨t, ht⟩
    have hl := congrArg List.length ht
    simp at hl
    have hk : t.length < s.size := by omega
    refine ⟨t.length, hk, by omega, ?_⟩
    have := at_list hk
    rw [← ht] at this
    simp at this
    exact this.symm
  · rintro ⟨k, h, hk, h0⟩
    refine ⟨s.data.toList.take k, ?_⟩
    have e : s.data.toList.take (k + 1) = s.data.toList.take k ++ [s[k]] := List.take_succ_eq_append_getElem (by simpa using h)
    rw [h0] at e
    rw [← e, List.take_of_length_le (by simp; omega)]
/-- what the model looks for at place k -/
def Wrong (s : ByteArray) (k : Nat) : Prop := ∃ h : k < s.size, isLG (s[k]).toNat = true ∨ s[k] = 45 ∧ (k = 0 ∨ k + 1 = s.size ∨ ∃ j, ∃ h' : j + 1 = k, s[j]'(by omega) = 45)
def Right (s : ByteArray) (k : Nat) : Prop := ∀ j, j < k → ¬ Wrong s j
theorem Right.zero (s : ByteArray) : Right s 0 := fun _ h => by omega
theorem Right.succ {s : ByteArray} {k : Nat} (h : Right s k) (h' : ¬ Wrong s k) : Right s (k + 1) := fun j hj => by
  by_cases e : j = k
  · subst e; exact h'
  · exact h j (by omega)
theorem wrong_no {s : ByteArray} {k : Nat} (h : Wrong s k) : false = commentIn s := by
  obtain ⟨hk, h | ⟨h1, h2 | h2 | ⟨j, rfl, h2⟩⟩⟩ := h
  · simp [commentIn, hasLG_hit hk h]
  · subst h2
    simp [commentIn, (dashFirst_iff s).2 ⟨hk, h1⟩]
  · simp [commentIn, (dashLast_iff s).2 ⟨k, hk, h2, h1⟩]
  · simp [commentIn, dashes_hit hk h2 h1]
theorem right_yes {s : ByteArray} (h : Right s s.size) : true = commentIn s := by
  have h1 : hasLG s = false := hasLG_none fun j hj _ => by
    cases e : isLG (s[j]).toNat
    · rfl
    · exact absurd ⟨hj, Or.inl e⟩ (h j hj)
  have h2 : dashes s = false := by
    cases e : dashes s
    · rfl
    · obtain ⟨j, hj, e1, e2⟩ := dashes_at e
      exact absurd ⟨hj, Or.inr ⟨e2, Or.inr (Or.inr ⟨j, rfl, e1⟩)⟩⟩ (h (j + 1) hj)
  have h3 : dashFirst s = false := by
    cases e : dashFirst s
    · rfl
    · obtain ⟨hk, e1⟩ := (dashFirst_iff s).1 e
      exact absurd ⟨hk, Or.inr ⟨e1, Or.inl rfl⟩⟩ (h 0 hk)
  have h4 : dashLast s = false := by
    cases e : dashLast s
    · rfl
    · obtain ⟨k, hk, e1, e2⟩ := (dashLast_iff s).1 e
      exact absurd ⟨hk, Or.inr ⟨e2, Or.inr (Or.inl e1)⟩⟩ (h k hk)
  simp [commentIn, h1, h2, h3, h4]
theorem notWrong {s : ByteArray} {k : Nat} (h : k < s.size) (h60 : ((s[k].toNat : Int) == 60) = false) (h62 : ((s[k].toNat : Int) == 62) = false)
    (h45 : ((s[k].toNat : Int) == 45) = false ∨ (¬ k = 0 ∧ ¬ k + 1 = s.size ∧ ∀ j (h' : j + 1 = k), ((s[j]'(by omega)).toNat : Int) ≠ 45)) : ¬ Wrong s k := by
  rintro ⟨_, hw | ⟨h1, h2⟩⟩
  · simp [isLG] at hw
    simp at h60 h62
    omega
  · rcases h45 with h45 | ⟨h3, h4, h5⟩
    · rw [h1] at h45; simp at h45
    · rcases h2 with h2 | h2 | ⟨j, h', h2⟩
      · exact h3 h2
      · exact h4 h2
      · have := h5 j h'
        rw [h2] at this
        exact this rfl
theorem wrongLG {s : ByteArray} {k : Nat} (h : k < s.size) (h1 : ((s[k].toNat : Int) == 60) = true ∨ ((s[k].toNat : Int) == 62) = true) : Wrong s k := by
  refine ⟨h, Or.inl ?_⟩
  simp [isLG]
  simp at h1
  omega
theorem is45 {c : UInt8} (h : ((c.toNat : Int) == 45) = true) : c = 45 := by
  apply UInt8.toNat_inj.1
  simp at h
  simp; omega
set_option maxHeartbeats 2000000 in
theorem l02Comment_any (s : ByteArray) (w : World) (hs : s.size ≤ 65536) :
    Calls Tryz.prog 96 #[.string s] w fun e w' => e = .returned (.bool (commentIn s)) ∧ w = w' := by
  go_enter Tryz.func96, Tryz.ntmps96
  go_wp2
  go_loop [3] (fun i => ∃ k : Nat, k ≤ s.size ∧ i = .int .i64 k ∧ Right s k) (fun i => s.size - (intOf i).toNat)
  case atStart => exact ⟨0, Nat.zero_le _, rfl, Right.zero s⟩
  case round =>
    obtain ⟨k, hk, rfl, hr⟩ := hrel
    have HR := Lib.hid hr
    clear hr
    by_cases hlt : k < s.size
    · by_cases h60 : ((s[k].toNat : Int) == 60) = true
      · have HW := Lib.hid (wrongLG hlt (Or.inl h60))
        go_wp2
        go_ret
        exact ⟨ret_bool (wrong_no HW.out), rfl⟩
      · have h60' : ((s[k].toNat : Int) == 60) = false := by simpa using h60
        clear h60
        by_cases h62 : ((s[k].toNat : Int) == 62) = true
        · have HW := Lib.hid (wrongLG hlt (Or.inr h62))
          go_wp2
          go_ret
          exact ⟨ret_bool (wrong_no HW.out), rfl⟩
        · have h62' : ((s[k].toNat : Int) == 62) = false := by simpa using h62
          clear h62
          by_cases h45 : ((s[k].toNat : Int) == 45) = true
          · have H45 := Lib.hid (is45 h45)
            by_cases hk0 : k = 0
            · have HW := Lib.hid (show Wrong s k from ⟨hlt, Or.inr ⟨H45.out, Or.inl hk0⟩⟩)
              have hk0' : ((k : Int) == 0) = true := by simp [hk0]
              clear hk0
              go_wp2
              go_ret
              exact ⟨ret_bool (wrong_no HW.out), rfl⟩
            · obtain ⟨j, rfl⟩ : ∃ j, k = j + 1 := ⟨k - 1, by omega⟩
              have hk0' : ((j : Int) + 1 == 0) = false := by simp; omega
              by_cases hlast : j + 1 + 1 = s.size
              · have HW := Lib.hid (show Wrong s (j + 1) from ⟨hlt, Or.inr ⟨H45.out, Or.inr (Or.inl hlast)⟩⟩)
                have hl' : ((j : Int) + 1 == (s.size : Int) - 1) = true := by simp; omega
                clear hlast
                go_wp2
                go_ret
                exact ⟨ret_bool (wrong_no HW.out), rfl⟩
              · have hl' : ((j : Int) + 1 == (s.size : Int) - 1) = false := by simp; omega
                have HL := Lib.hid hlast
                clear hlast
                have hj : j < s.size := by omega
                by_cases hp : ((s[j].toNat : Int) == 45) = true
                · have HW := Lib.hid (show Wrong s (j + 1) from ⟨hlt, Or.inr ⟨H45.out, Or.inr (Or.inr ⟨j, rfl, is45 hp⟩)⟩⟩)
                  go_wp2
                  go_ret
                  exact ⟨ret_bool (wrong_no HW.out), rfl⟩
                · have hp' : ((s[j].toNat : Int) == 45) = false := by simpa using hp
                  clear hp
                  have hall : ∀ i (h' : i + 1 = j + 1), ((s[i]'(by omega)).toNat : Int) ≠ 45 := fun i hi => by
                    have e : i = j := by omega
                    subst e
                    simpa using hp'
                  have HW := Lib.hid (notWrong hlt h60' h62' (Or.inr ⟨hk0, HL.out, hall⟩))
                  clear hall
                  go_wp2
                  go_round
                  case rel => exact ⟨j + 1 + 1, by omega, by go_num, HR.out.succ HW.out⟩
                  case measure => simp [intOf]; omega
          · have h45' : ((s[k].toNat : Int) == 45) = false := by simpa using h45
            clear h45
            have HW := Lib.hid (notWrong hlt h60' h62' (Or.inl h45'))
            go_wp2
            go_round
            case rel => exact ⟨k + 1, by omega, by go_num, HR.out.succ HW.out⟩
            case measure => simp [intOf]; omega
    · obtain rfl : k = s.size := by omega
      go_wp2
      go_ret
      exact ⟨ret_bool (right_yes HR.out), rfl⟩
/-- the library's variable holds some number -/
def MaxAt (w : World) : Prop := ∃ m : Int, w.cell? ⟨0, 0, none⟩ = some (.int .i64 m)
theorem MaxAt.pos {w : World} (h : MaxAt w) : 0 < w.heap.size := by
  obtain ⟨m, h⟩ := h
  exact World.block_lt_of_cell? w ⟨0, 0, none⟩ h
theorem MaxAt.below {w w' : World} (h : MaxAt w) (hb : Below w.heap.size w w') : MaxAt w' := by
  have hp := h.pos
  obtain ⟨m, h⟩ := h
  exact ⟨m, (hb.cell (p := ⟨0, 0, none⟩) hp).trans h⟩
theorem containsDashes (s : ByteArray) (hs : s.size ≤ 65536) (w : World) (hm : MaxAt w) :
    Calls Tryz.prog 137 #[.string s, .string ⟨#[45, 45]⟩] w fun e w' => e = .returned (.bool (dashes s)) ∧ w = w' := by
  obtain ⟨m, hm⟩ := hm
  exact (strings_Contains s ⟨#[45, 45]⟩ m w (by omega) hm).mono fun _ _ ⟨h1, h2⟩ => ⟨h1, h2.symm⟩
theorem hasPrefixDash (s : ByteArray) (w : World) : Calls Tryz.prog 138 #[.string s, .string ⟨#[45]⟩] w fun e w' => e = .returned (.bool (dashFirst s)) ∧ w = w' :=
  (strings_HasPrefix s ⟨#[45]⟩ w).mono fun _ _ ⟨h1, h2⟩ => ⟨h1, h2.symm⟩
theorem hasSuffixDash (s : ByteArray) (hs : s.size ≤ 65536) (w : World) : Calls Tryz.prog 139 #[.string s, .string ⟨#[45]⟩] w fun e w' => e = .returned (.bool (dashLast s)) ∧ w = w' :=
  (strings_HasSuffix s ⟨#[45]⟩ w (by omega)).mono fun _ _ ⟨h1, h2⟩ => ⟨h1, h2.symm⟩
set_option maxHeartbeats 2000000 in
theorem implCommentOK_any (s : ByteArray) (w : World) (hm : MaxAt w) :
    Calls Tryz.prog 84 #[.string s] w fun e w' => e = .returned (.bool (commentB s)) ∧ Below w.heap.size w w' := by
  by_cases h : (s.size : Int) ≤ 65536
  · have hs : s.size ≤ 65536 := by omega
    have HB := Lib.hid (show commentB s = commentIn s by rw [commentB, decide_eq_true hs]; rfl)
    by_cases h1 : hasLG s = true
    · have H := Lib.hid (show false = commentIn s by simp [commentIn, h1])
      go_enter Tryz.func84, Tryz.ntmps84
      go_wp2_with (go_at_call 136; refine (containsAny_any s hs _).mono ?_; rintro e w1 ⟨rfl, hb⟩; rw [h1])
      go_ret
      exact ⟨ret_bool (by rw [HB.out]; exact H.out), hb⟩
    · have h1' : hasLG s = false := by simpa using h1
      clear h1
      by_cases h2 : dashes s = true
      · have H := Lib.hid (show false = commentIn s by simp [commentIn, h2])
        go_enter Tryz.func84, Tryz.ntmps84
        go_wp2_with (first | (go_at_call 136; refine (containsAny_any s hs _).mono ?_; rintro e w1 ⟨rfl, hb⟩; rw [h1']) | (go_at_call 137; refine (containsDashes s hs _ (hm.below hb)).mono ?_; rintro e w2 ⟨rfl, rfl⟩; rw [h2]))
        go_ret
        exact ⟨ret_bool (by rw [HB.out]; exact H.out), hb⟩
      · have h2' : dashes s = false := by simpa using h2
        clear h2
        by_cases h3 : dashFirst s = true
        · have H := Lib.hid (show false = commentIn s by simp [commentIn, h3])
          go_enter Tryz.func84, Tryz.ntmps84
          go_wp2_with (first | (go_at_call 136; refine (containsAny_any s hs _).mono ?_; rintro e w1 ⟨rfl, hb⟩; rw [h1']) | (go_at_call 137; refine (containsDashes s hs _ (hm.below hb)).mono ?_; rintro e w2 ⟨rfl, rfl⟩; rw [h2']) | (go_at_call 138; refine (hasPrefixDash s _).mono ?_; rintro e w2 ⟨rfl, rfl⟩; rw [h3]))
          go_ret
          exact ⟨ret_bool (by rw [HB.out]; exact H.out), hb⟩
        · have h3' : dashFirst s = false := by simpa using h3
          clear h3
          have H := Lib.hid (show (!dashLast s) = commentIn s by simp [commentIn, h1', h2', h3'])
          go_enter Tryz.func84, Tryz.ntmps84
          go_wp2_with (first | (go_at_call 136; refine (containsAny_any s hs _).mono ?_; rintro e w1 ⟨rfl, hb⟩; rw [h1']) | (go_at_call 137; refine (containsDashes s hs _ (hm.below hb)).mono ?_; rintro e w2 ⟨rfl, rfl⟩; rw [h2']) | (go_at_call 138; refine (hasPrefixDash s _).mono ?_; rintro e w2 ⟨rfl, rfl⟩; rw [h3']) | (go_at_call 139; refine (hasSuffixDash s hs _).mono ?_; rintro e w2 ⟨rfl, rfl⟩))
          go_ret
          exact ⟨ret_bool (by rw [HB.out]; exact H.out), hb⟩
  · have h' : decide ((s.size : Int) ≤ 65536) = false := by simpa using h
    clear h
    go_enter Tryz.func84, Tryz.ntmps84
    go_wp2
    go_ret
    exact ⟨ret_bool (by rw [commentB, decide_eq_false (by simp at h'; omega)]; rfl), Below.refl _ _⟩
end Go.Proofs.YthdkkpbhijlpaaaGreat
