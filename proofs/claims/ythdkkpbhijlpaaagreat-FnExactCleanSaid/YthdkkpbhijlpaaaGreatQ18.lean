import Derived.Lib.IndexMore
import Derived.BigQuiet
import Derived.Test.YthdkkpbhijlpaaaGreatQ17
import Derived.Test.YthdkkpbhijlpaaaGreatQ02
import Derived.Test.YthdkkpbhijlpaaaGreatQ04
import Derived.Test.YthdkkpbhijlpaaaGreatQ03
import Derived.Test.YthdkkpbhijlpaaaGreatQ05
set_option linter.unusedVariables false
namespace Go.Proofs.YthdkkpbhijlpaaaGreat
open Go.ChangeShapes Go.WideShapes Go.ChangeAt Go.RowKit Go.Shelf

/-- '--' in it -/
def dashes (s : ByteArray) : Bool := Lib.contains s.data.toList [45, 45]
def dashFirst (s : ByteArray) : Bool := Lib.hasPrefix s.data.toList [45]
def dashLast (s : ByteArray) : Bool := Lib.hasSuffix s.data.toList [45]
def commentIn (s : ByteArray) : Bool := !hasLG s && !dashes s && !dashFirst s && !dashLast s
def commentB (s : ByteArray) : Bool := decide (s.size ≤ 65536) && commentIn s
theorem at_list {s : ByteArray} {i : Nat} (h : i < s.size) : s.data.toList[i]? = some s[i] := by
  rw [List.getElem?_eq_getElem (by simpa using h)]; rfl
theorem occ_two (l : List UInt8) (i : Nat) : Lib.occAt l [45, 45] i = true ↔ l[i]? = some 45 ∧ l[i + 1]? = some 45 := by
  unfold Lib.occAt
  rcases h : l.drop i with _ | ⟨a, _ | ⟨b, t⟩⟩
  · have h0 : l.length ≤ i := by simpa using h
    simp [List.getElem?_eq_none h0]
  · have e1 : l[i]? = some a := by rw [← List.head?_drop, h]; rfl
    have e2 : l[i + 1]? = none := by
      have := congrArg List.length h; simp at this
      exact List.getElem?_eq_none (by omega)
    simp [e2]
  · have e1 : l[i]? = some a := by rw [← List.head?_drop, h]; rfl
    have e2 : l[i + 1]? = some b := by
      rw [← List.head?_drop, ← List.drop_drop, h]; rfl
    rw [e1, e2]
    simp only [List.isPrefixOf, Bool.and_true, Bool.and_eq_true, beq_iff_eq, Option.some.injEq]
    exact ⟨fun ⟨a, b⟩ => ⟨a.symm, b.symm⟩, fun ⟨a, b⟩ => ⟨a.symm, b.symm⟩⟩
theorem dashes_hit {s : ByteArray} {j : Nat} (h : j + 1 < s.size) (h1 : s[j] = 45) (h2 : s[j + 1] = 45) : dashes s = true := by
  have ho : Lib.occAt s.data.toList [45, 45] j = true := (occ_two _ _).2 ⟨by rw [at_list (by omega), h1], by rw [at_list h, h2]⟩
  rw [dashes, Lib.contains, decide_eq_true_iff]
  rcases Lib.index_spec s.data.toList [45, 45] with ⟨_, hn⟩ | ⟨i, hi, _⟩
  · have := hn j (by simp; omega)
    rw [ho] at this; cases this
  · omega
theorem dashes_at {s : ByteArray} (h : dashes s = true) : ∃ j, ∃ (h1 : j + 1 < s.size), s[j] = 45 ∧ s[j + 1] = 45 := by
  rw [dashes, Lib.contains, decide_eq_true_iff] at h
  rcases Lib.index_spec s.data.toList [45, 45] with ⟨h0, _⟩ | ⟨i, _, _, ho, _⟩
  · omega
  · obtain ⟨e1, e2⟩ := (occ_two _ _).1 ho
    have hl : i + 1 < s.data.toList.length := (List.getElem?_eq_some_iff.1 e2).1
    have hl' : i + 1 < s.size := by simpa using hl
    rw [at_list (by omega)] at e1
    rw [at_list hl'] at e2
    exact ⟨i, hl', Option.some.inj e1, Option.some.inj e2⟩
theorem dashFirst_iff (s : ByteArray) : dashFirst s = true ↔ ∃ h : 0 < s.size, s[0] = 45 := by
  rw [dashFirst, Lib.hasPrefix]
  constructor
  · intro h
    rcases e : s.data.toList with _ | ⟨a, t⟩
    · rw [e] at h; simp at h
    · rw [e] at h
      have hl : 0 < s.size := by have := congrArg List.length e; simp at this; omega
      have := at_list hl
      rw [e] at this
      simp at h this
      exact ⟨hl, by rw [← this, ← h]⟩
  · rintro ⟨h, h0⟩
    rcases e : s.data.toList with _ | ⟨a, t⟩
    · have := congrArg List.length e; rw [List.length_nil, Array.length_toList] at this; exact absurd h (by show ¬ 0 < s.data.size; omega)
    · have := at_list h
      rw [e] at this
      simp at this
      simp [this, h0]
theorem dashLast_iff (s : ByteArray) : dashLast s = true ↔ ∃ k, ∃ h : k < s.size, k + 1 = s.size ∧ s[k] = 45 := by
  rw [dashLast, Lib.hasSuffix, List.isSuffixOf_iff_suffix]
  constructor
  · rintro ⟨t, ht⟩
    have hl := congrArg List.length ht
    simp at hl
    have hk : t.length < s.size := by omega
    refine ⟨t.length, hk, by omega, ?_⟩
    have := at_list hk
    rw [← ht] at this
    simp at this
    exact this.symm
  · rintro ⟨k, h, hk, h0⟩
    refine ⟨s.data.toList.take k, ?_⟩
    have e : s.data.toList.take (k + 1) = s.data.toList.take k ++ [s[k]] := List.take_succ_eq_append_getElem (by simpa using h)
    rw [h0] at e
    rw [← e, List.take_of_length_le (by simp; omega)]
/-- what the model looks for at place k -/
def Wrong (s : ByteArray) (k : Nat) : Prop := ∃ h : k < s.size, isLG (s[k]).toNat = true ∨ s[k] = 45 ∧ (k = 0 ∨ k + 1 = s.size ∨ ∃ j, ∃ h' : j + 1 = k, s[j]'(by omega) = 45)
def Right (s : ByteArray) (k : Nat) : Prop := ∀ j, j < k → ¬ Wrong s j
theorem Right.zero (s : ByteArray) : Right s 0 := fun _ h => by omega
theorem Right.succ {s : ByteArray} {k : Nat} (h : Right s k) (h' : ¬ Wrong s k) : Right s (k + 1) := fun j hj => by
  by_cases e : j = k
  · subst e; exact h'
  · exact h j (by omega)
theorem wrong_no {s : ByteArray} {k : Nat} (h : Wrong s k) : false = commentIn s := by
  obtain ⟨hk, h | ⟨h1, h2 | h2 | ⟨j, rfl, h2⟩⟩⟩ := h
  · simp [commentIn, hasLG_hit hk h]
  · subst h2
    simp [commentIn, (dashFirst_iff s).2 ⟨hk, h1⟩]
  · simp [commentIn, (dashLast_iff s).2 ⟨k, hk, h2, h1⟩]
  · simp [commentIn, dashes_hit hk h2 h1]
theorem right_yes {s : ByteArray} (h : Right s s.size) : true = commentIn s := by
  have h1 : hasLG s = false := hasLG_none fun j hj _ => by
    cases e : isLG (s[j]).toNat
    · rfl
    · exact absurd ⟨hj, Or.inl e⟩ (h j hj)
  have h2 : dashes s = false := by
    cases e : dashes s
    · rfl
    · obtain ⟨j, hj, e1, e2⟩ := dashes_at e
      exact absurd ⟨hj, Or.inr ⟨e2, Or.inr (Or.inr ⟨j, rfl, e1⟩)⟩⟩ (h (j + 1) hj)
  have h3 : dashFirst s = false := by
    cases e : dashFirst s
    · rfl
    · obtain ⟨hk, e1⟩ := (dashFirst_iff s).1 e
      exact absurd ⟨hk, Or.inr ⟨e1, Or.inl rfl⟩⟩ (h 0 hk)
  have h4 : dashLast s = false := by
    cases e : dashLast s
    · rfl
    · obtain ⟨k, hk, e1, e2⟩ := (dashLast_iff s).1 e
      exact absurd ⟨hk, Or.inr ⟨e2, Or.inr (Or.inl e1)⟩⟩ (h k hk)
  simp [commentIn, h1, h2, h3, h4]
theorem notWrong {s : ByteArray} {k : Nat} (h : k < s.size) (h60 : ((s[k].toNat : Int) == 60) = false) (h62 : ((s[k].toNat : Int) == 62) = false)
    (h45 : ((s[k].toNat : Int) == 45) = false ∨ (¬ k = 0 ∧ ¬ k + 1 = s.size ∧ ∀ j (h' : j + 1 = k), ((s[j]'(by omega)).toNat : Int) ≠ 45)) : ¬ Wrong s k := by
  rintro ⟨_, hw | ⟨h1, h2⟩⟩
  · simp [isLG] at hw
    simp at h60 h62
    omega
  · rcases h45 with h45 | ⟨h3, h4, h5⟩
    · rw [h1] at h45; simp at h45
    · rcases h2 with h2 | h2 | ⟨j, h', h2⟩
      · exact h3 h2
      · exact h4 h2
      · have := h5 j h'
        rw [h2] at this
        exact this rfl
theorem wrongLG {s : ByteArray} {k : Nat} (h : k < s.size) (h1 : ((s[k].toNat : Int) == 60) = true ∨ ((s[k].toNat : Int) == 62) = true) : Wrong s k := by
  refine ⟨h, Or.inl ?_⟩
  simp [isLG]
  simp at h1
  omega
theorem is45 {c : UInt8} (h : ((c.toNat : Int) == 45) = true) : c = 45 := by
  apply UInt8.toNat_inj.1
  simp at h
  simp; omega
set_option maxHeartbeats 2000000 in
theorem l02Comment_any (s : ByteArray) (w : World) (hs : s.size ≤ 65536) :
    Calls Tryz.prog 96 #[.string s] w fun e w' => e = .returned (.bool (commentIn s)) ∧ w = w' := by
  go_enter Tryz.func96, Tryz.ntmps96
  go_wp2
  go_loop [3] (fun i => ∃ k : Nat, k ≤ s.size ∧ i = .int .i64 k ∧ Right s k) (fun i => s.size - (intOf i).toNat)
  case atStart => exact ⟨0, Nat.zero_le _, rfl, Right.zero s⟩
  case round =>
    obtain ⟨k, hk, rfl, hr⟩ := hrel
    have HR := Lib.hid hr
    clear hr
    by_cases hlt : k < s.size
    · by_cases h60 : ((s[k].toNat : Int) == 60) = true
      · have HW := Lib.hid (wrongLG hlt (Or.inl h60))
        go_wp2
        go_ret
        exact ⟨ret_bool (wrong_no HW.out), rfl⟩
      · have h60' : ((s[k].toNat : Int) == 60) = false := by simpa using h60
        clear h60
        by_cases h62 : ((s[k].toNat : Int) == 62) = true
        · have HW := Lib.hid (wrongLG hlt (Or.inr h62))
          go_wp2
          go_ret
          exact ⟨ret_bool (wrong_no HW.out), rfl⟩
        · have h62' : ((s[k].toNat : Int) == 62) = false := by simpa using h62
          clear h62
          by_cases h45 : ((s[k].toNat : Int) == 45) = true
          · have H45 := Lib.hid (is45 h45)
            by_cases hk0 : k = 0
            · have HW := Lib.hid (show Wrong s k from ⟨hlt, Or.inr ⟨H45.out, Or.inl hk0⟩⟩)
              have hk0' : ((k : Int) == 0) = true := by simp [hk0]
              clear hk0
              go_wp2
              go_ret
              exact ⟨ret_bool (wrong_no HW.out), rfl⟩
            · obtain ⟨j, rfl⟩ : ∃ j, k = j + 1 := ⟨k - 1, by omega⟩
              have hk0' : ((j : Int) + 1 == 0) = false := by simp; omega
              by_cases hlast : j + 1 + 1 = s.size
              · have HW := Lib.hid (show Wrong s (j + 1) from ⟨hlt, Or.inr ⟨H45.out, Or.inr (Or.inl hlast)⟩⟩)
                have hl' : ((j : Int) + 1 == (s.size : Int) - 1) = true := by simp; omega
                clear hlast
                go_wp2
                go_ret
                exact ⟨ret_bool (wrong_no HW.out), rfl⟩
              · have hl' : ((j : Int) + 1 == (s.size : Int) - 1) = false := by simp; omega
                have HL := Lib.hid hlast
                clear hlast
                have hj : j < s.size := by omega
                by_cases hp : ((s[j].toNat : Int) == 45) = true
                · have HW := Lib.hid (show Wrong s (j + 1) from ⟨hlt, Or.inr ⟨H45.out, Or.inr (Or.inr ⟨j, rfl, is45 hp⟩)⟩⟩)
                  go_wp2
                  go_ret
                  exact ⟨ret_bool (wrong_no HW.out), rfl⟩
                · have hp' : ((s[j].toNat : Int) == 45) = false := by simpa using hp
                  clear hp
                  have hall : ∀ i (h' : i + 1 = j + 1), ((s[i]'(by omega)).toNat : Int) ≠ 45 := fun i hi => by
                    have e : i = j := by omega
                    subst e
                    simpa using hp'
                  have HW := Lib.hid (notWrong hlt h60' h62' (Or.inr ⟨hk0, HL.out, hall⟩))
                  clear hall
                  go_wp2
                  go_round
                  case rel => exact ⟨j + 1 + 1, by omega, by go_num, HR.out.succ HW.out⟩
                  case measure => simp [intOf]; omega
          · have h45' : ((s[k].toNat : Int) == 45) = false := by simpa using h45
            clear h45
            have HW := Lib.hid (notWrong hlt h60' h62' (Or.inl h45'))
            go_wp2
            go_round
            case rel => exact ⟨k + 1, by omega, by go_num, HR.out.succ HW.out⟩
            case measure => simp [intOf]; omega
    · obtain rfl : k = s.size := by omega
      go_wp2
      go_ret
      exact ⟨ret_bool (right_yes HR.out), rfl⟩
/-- the library's variable holds some number -/
def MaxAt (w : World) : Prop := ∃ m : Int, w.cell? ⟨0, 0, none⟩ = some (.int .i64 m)
theorem MaxAt.pos {w : World} (h : MaxAt w) : 0 < w.heap.size := by
  obtain ⟨m, h⟩ := h
  exact World.block_lt_of_cell? w ⟨0, 0, none⟩ h
theorem MaxAt.below {w w' : World} (h : MaxAt w) (hb : Below w.heap.size w w') : MaxAt w' := by
  have hp := h.pos
  obtain ⟨m, h⟩ := h
  exact ⟨m, (hb.cell (p := ⟨0, 0, none⟩) hp).trans h⟩
theorem containsDashes (s : ByteArray) (hs : s.size ≤ 65536) (w : World) (hm : MaxAt w) :
    Calls Tryz.prog 137 #[.string s, .string ⟨#[45, 45]⟩] w fun e w' => e = .returned (.bool (dashes s)) ∧ w = w' := by
  obtain ⟨m, hm⟩ := hm
  exact (strings_Contains s ⟨#[45, 45]⟩ m w (by omega) hm).mono fun _ _ ⟨h1, h2⟩ => ⟨h1, h2.symm⟩
theorem hasPrefixDash (s : ByteArray) (w : World) : Calls Tryz.prog 138 #[.string s, .string ⟨#[45]⟩] w fun e w' => e = .returned (.bool (dashFirst s)) ∧ w = w' :=
  (strings_HasPrefix s ⟨#[45]⟩ w).mono fun _ _ ⟨h1, h2⟩ => ⟨h1, h2.symm⟩
theorem hasSuffixDash (s : ByteArray) (hs : s.size ≤ 65536) (w : World) : Calls Tryz.prog 139 #[.string s, .string ⟨#[45]⟩] w fun e w' => e = .returned (.bool (dashLast s)) ∧ w = w' :=
  (strings_HasSuffix s ⟨#[45]⟩ w (by omega)).mono fun _ _ ⟨h1, h2⟩ => ⟨h1, h2.symm⟩
set_option maxHeartbeats 2000000 in
theorem implCommentOK_any (s : ByteArray) (w : World) (hm : MaxAt w) :
    Calls Tryz.prog 84 #[.string s] w fun e w' => e = .returned (.bool (commentB s)) ∧ Below w.heap.size w w' := by
  by_cases h : (s.size : Int) ≤ 65536
  · have hs : s.size ≤ 65536 := by omega
    have HB := Lib.hid (show commentB s = commentIn s by rw [commentB, decide_eq_true hs]; rfl)
    by_cases h1 : hasLG s = true
    · have H := Lib.hid (show false = commentIn s by simp [commentIn, h1])
      go_enter Tryz.func84, Tryz.ntmps84
      go_wp2_with (go_at_call 136; refine (containsAny_any s hs _).mono ?_; rintro e w1 ⟨rfl, hb⟩; rw [h1])
      go_ret
      exact ⟨ret_bool (by rw [HB.out]; exact H.out), hb⟩
    · have h1' : hasLG s = false := by simpa using h1
      clear h1
      by_cases h2 : dashes s = true
      · have H := Lib.hid (show false = commentIn s by simp [commentIn, h2])
        go_enter Tryz.func84, Tryz.ntmps84
        go_wp2_with (first | (go_at_call 136; refine (containsAny_any s hs _).mono ?_; rintro e w1 ⟨rfl, hb⟩; rw [h1']) | (go_at_call 137; refine (containsDashes s hs _ (hm.below hb)).mono ?_; rintro e w2 ⟨rfl, rfl⟩; rw [h2]))
        go_ret
        exact ⟨ret_bool (by rw [HB.out]; exact H.out), hb⟩
      · have h2' : dashes s = false := by simpa using h2
        clear h2
        by_cases h3 : dashFirst s = true
        · have H := Lib.hid (show false = commentIn s by simp [commentIn, h3])
          go_enter Tryz.func84, Tryz.ntmps84
          go_wp2_with (first | (go_at_call 136; refine (containsAny_any s hs _).mono ?_; rintro e w1 ⟨rfl, hb⟩; rw [h1']) | (go_at_call 137; refine (containsDashes s hs _ (hm.below hb)).mono ?_; rintro e w2 ⟨rfl, rfl⟩; rw [h2']) | (go_at_call 138; refine (hasPrefixDash s _).mono ?_; rintro e w2 ⟨rfl, rfl⟩; rw [h3]))
          go_ret
          exact ⟨ret_bool (by rw [HB.out]; exact H.out), hb⟩
        · have h3' : dashFirst s = false := by simpa using h3
          clear h3
          have H := Lib.hid (show (!dashLast s) = commentIn s by simp [commentIn, h1', h2', h3'])
          go_enter Tryz.func84, Tryz.ntmps84
          go_wp2_with (first | (go_at_call 136; refine (containsAny_any s hs _).mono ?_; rintro e w1 ⟨rfl, hb⟩; rw [h1']) | (go_at_call 137; refine (containsDashes s hs _ (hm.below hb)).mono ?_; rintro e w2 ⟨rfl, rfl⟩; rw [h2']) | (go_at_call 138; refine (hasPrefixDash s _).mono ?_; rintro e w2 ⟨rfl, rfl⟩; rw [h3']) | (go_at_call 139; refine (hasSuffixDash s hs _).mono ?_; rintro e w2 ⟨rfl, rfl⟩))
          go_ret
          exact ⟨ret_bool (by rw [HB.out]; exact H.out), hb⟩
  · have h' : decide ((s.size : Int) ≤ 65536) = false := by simpa using h
    clear h
    go_enter Tryz.func84, Tryz.ntmps84
    go_wp2
    go_ret
    exact ⟨ret_bool (by rw [commentB, decide_eq_false (by simp at h'; omega)]; rfl), Below.refl _ _⟩
end Go.Proofs.YthdkkpbhijlpaaaGreat
namespace Go.Proofs.YthdkkpbhijlpaaaGreat
open Go.ChangeShapes Go.WideShapes Go.ChangeAt Go.RowKit Go.Deep

/-- a cell that may be written -/
def CellW (w : World) (g o : Nat) (v : Value) : Prop := w.cell? ⟨g, o, none⟩ = some v ∧ w.frozen? ⟨g, o, none⟩ = false
theorem CellW.same {w w' : World} {g o : Nat} {v : Value} (h : CellW w g o v) (hb : w'.heap[g]? = w.heap[g]?) : CellW w' g o v :=
  ⟨(World.cell?_of_block (w := w) (a := ⟨g, o, none⟩) hb).trans h.1, (World.frozen?_of_block (w := w) (a := ⟨g, o, none⟩) hb).trans h.2⟩
/-- attributes in a row that may be written -/
def AlLay (w : World) (a : Nat) : Nat → List (ByteArray × ByteArray) → Prop
  | _, [] => True
  | o, x :: r => CellW w a o (.string x.1) ∧ CellW w a (o + 1) (.string x.2) ∧ x.1.size ≤ maxLen ∧ x.2.size ≤ maxLen ∧ AlLay w a (o + 2) r
theorem AlLay.same {w w' : World} {a : Nat} (hb : w'.heap[a]? = w.heap[a]?) : ∀ {al : List (ByteArray × ByteArray)} {o : Nat}, AlLay w a o al → AlLay w' a o al
  | [], _, _ => trivial
  | _ :: _, _, ⟨h1, h2, h3, h4, h5⟩ => ⟨h1.same hb, h2.same hb, h3, h4, AlLay.same hb h5⟩
theorem AlLay.at {w : World} {a : Nat} : ∀ {al : List (ByteArray × ByteArray)} {o : Nat}, AlLay w a o al → AsAt w a o al
  | [], _, _ => trivial
  | _ :: _, _, ⟨h1, h2, h3, h4, h5⟩ => ⟨h1.1, h2.1, h3, h4, AlLay.at h5⟩
/-- .. with the block that it has, if it has one -/
def AlRow (w : World) (A : Option Addr) (al : List (ByteArray × ByteArray)) (ba : List Nat) : Prop := (al = [] ∧ ba = []) ∨ ∃ a, A = some ⟨a, 0, none⟩ ∧ ba = [a] ∧ AlLay w a 0 al
theorem AlRow.same {w w' : World} {A : Option Addr} {al : List (ByteArray × ByteArray)} {ba : List Nat} (h : AlRow w A al ba) (hb : ∀ k ∈ ba, w'.heap[k]? = w.heap[k]?) : AlRow w' A al ba := by
  rcases h with h | ⟨a, h1, h2, h3⟩
  · exact Or.inl h
  · subst h2; exact Or.inr ⟨a, h1, rfl, h3.same (hb a (by simp))⟩
/-- a forest's cells in block g from o on; bl: the blocks of all that it leads to. All may be written. -/
def FoLay (w : World) (g : Nat) : Nat → Fo → List Nat → Prop
  | _, .nil, bl => bl = []
  | o, .cons k sp n t al kids rest, bl => ∃ (A K : Option Addr) (ca ck : Nat) (ba bk br : List Nat), bl = ba ++ bk ++ br ∧
    (CellW w g o (.int .i64 k) ∧ CellW w g (o + 1) (.int .i64 sp) ∧ CellW w g (o + 2) (.string n) ∧ CellW w g (o + 3) (.string t) ∧ n.size ≤ maxLen ∧ t.size ≤ maxLen) ∧
    (CellW w g (o + 4) (.slice A al.length ca) ∧ al.length ≤ ca ∧ al.length ≤ maxLen ∧ AlRow w A al ba) ∧
    (CellW w g (o + 5) (.slice K kids.len ck) ∧ kids.len ≤ ck ∧ kids.len ≤ maxLen ∧ ((kids.len = 0 ∧ bk = []) ∨ ∃ c b', K = some ⟨c, 0, none⟩ ∧ bk = c :: b' ∧ FoLay w c 0 kids b')) ∧
    FoLay w g (o + 6) rest br
theorem FoLay.same {w w' : World} : ∀ {F : Fo} {g o : Nat} {bl : List Nat}, FoLay w g o F bl → w'.heap[g]? = w.heap[g]? → (∀ k ∈ bl, w'.heap[k]? = w.heap[k]?) → FoLay w' g o F bl
  | .nil, _, _, _, h, _, _ => h
  | .cons k sp n t al kids rest, g, o, bl, ⟨A, K, ca, ck, ba, bk, br, hbl, ⟨c0, c1, c2, c3, z2, z3⟩, ⟨c4, h4, m4, r4⟩, ⟨c5, h5, m5, r5⟩, hr⟩, hg, hb => by
    subst hbl
    refine ⟨A, K, ca, ck, ba, bk, br, rfl, ⟨c0.same hg, c1.same hg, c2.same hg, c3.same hg, z2, z3⟩, ⟨c4.same hg, h4, m4, r4.same fun k hk => hb k (by simp [hk])⟩, ⟨c5.same hg, h5, m5, ?_⟩, hr.same hg fun k hk => hb k (by simp [hk])⟩
    rcases r5 with r5 | ⟨c, b', e1, e2, e3⟩
    · exact Or.inl r5
    · subst e2
      exact Or.inr ⟨c, b', e1, rfl, FoLay.same e3 (hb c (by simp)) fun k hk => hb k (by simp [hk])⟩
/-- as it is read -/
theorem FoLay.at {w : World} {lo hi : Nat} : ∀ {F : Fo} {g o : Nat} {bl : List Nat}, FoLay w g o F bl → (∀ k ∈ bl, lo ≤ k ∧ k < hi) → FoAt w lo hi g o F
  | .nil, _, _, _, _, _ => trivial
  | .cons k sp n t al kids rest, g, o, bl, ⟨A, K, ca, ck, ba, bk, br, hbl, ⟨c0, c1, c2, c3, z2, z3⟩, ⟨c4, h4, m4, r4⟩, ⟨c5, h5, m5, r5⟩, hr⟩, hb => by
    subst hbl
    refine ⟨⟨c0.1, c1.1, c2.1, c3.1, z2, z3⟩, ?_, ?_, hr.at fun k hk => hb k (by simp [hk])⟩
    · rcases r4 with ⟨e1, e2⟩ | ⟨a, e1, e2, e3⟩
      · subst e1
        exact ⟨A, ca, 0, 0, c4.1, ⟨h4, m4, fun h => absurd h (Nat.lt_irrefl _)⟩, trivial⟩
      · subst e2
        have := hb a (by simp)
        exact ⟨A, ca, a, 0, c4.1, ⟨h4, m4, fun _ => ⟨e1, this.1, this.2⟩⟩, e3.at⟩
    · rcases r5 with ⟨e1, e2⟩ | ⟨c, b', e1, e2, e3⟩
      · cases kids with
        | cons _ _ _ _ _ _ _ => simp [Fo.len] at e1
        | nil => exact ⟨K, ck, 0, 0, c5.1, ⟨h5, m5, fun h => absurd h (Nat.lt_irrefl _)⟩, trivial⟩
      · subst e2
        have := hb c (by simp)
        exact ⟨K, ck, c, 0, c5.1, ⟨h5, m5, fun _ => ⟨e1, this.1, this.2⟩⟩, FoLay.at e3 fun k hk => hb k (by simp [hk])⟩
end Go.Proofs.YthdkkpbhijlpaaaGreat
namespace Go.Proofs.YthdkkpbhijlpaaaGreat
open Go.ChangeShapes Go.WideShapes Go.ChangeAt Go.RowKit Go.Deep

theorem str_ext {a b : ByteArray} (h : a.toList = b.toList) : a = b := by
  rw [ByteArray.toList_eq, ByteArray.toList_eq] at h
  obtain ⟨⟨x⟩⟩ := a
  obtain ⟨⟨y⟩⟩ := b
  simp at h
  subst h
  rfl
theorem str_ne {a b : ByteArray} (h : ¬ a = b) : (a.toList == b.toList) = false := by
  rw [beq_eq_false_iff_ne]; exact fun e => h (str_ext e)
theorem AsAt.get {w : World} {b : Nat} : ∀ {al : List (ByteArray × ByteArray)} {o : Nat}, AsAt w b o al → ∀ i (h : i < al.length), w.cell? ⟨b, o + i * 2, none⟩ = some (.string al[i].1) ∧ w.cell? ⟨b, o + i * 2 + 1, none⟩ = some (.string al[i].2) ∧ al[i].1.size ≤ maxLen ∧ al[i].2.size ≤ maxLen
  | x :: r, o, ⟨h1, h2, h3, h4, h5⟩, 0, _ => ⟨by simpa using h1, by simpa using h2, h3, h4⟩
  | x :: r, o, ⟨h1, h2, h3, h4, h5⟩, i + 1, h => by
    have := AsAt.get h5 i (by simpa using h)
    rw [show o + (i + 1) * 2 = o + 2 + i * 2 by omega]
    simpa using this
theorem below_drewN {B : Nat} {w w' : World} (h : Below B w w') (n : Nat) : Below B w (w'.drewN n) := by
  induction n with
  | zero => exact h
  | succ n ih => exact ih.drew
/-- a right attribute, by itself -/
def AttrIs (x : ByteArray × ByteArray) : Prop := namedB small tagB x.1 = true ∧ x.2.size ≤ 40
/-- right up to place k -/
def AlTo (al : List (ByteArray × ByteArray)) (k : Nat) : Prop := ∀ i (h : i < al.length), i < k → AttrIs al[i] ∧ ∀ j (hj : j < i), al[j].1 ≠ al[i].1
def AlOK (al : List (ByteArray × ByteArray)) : Prop := al.length ≤ 6 ∧ AlTo al al.length
open Classical in
noncomputable def alB (al : List (ByteArray × ByteArray)) : Bool := decide (AlOK al)
theorem alB_true {al : List (ByteArray × ByteArray)} (h : AlOK al) : true = alB al := by simp [alB, h]
theorem alB_false {al : List (ByteArray × ByteArray)} (h : ¬ AlOK al) : false = alB al := by simp [alB, h]
theorem l03Attrs_any (al : List (ByteArray × ByteArray)) (w : World) (A : Option Addr) (c b o lo hi : Nat) (hA : RowAt lo hi A al.length b o) (hh : hi ≤ w.heap.size) (hal : AsAt w b o al) :
    Calls Tryz.prog 187 #[.slice A al.length c] w fun e w' => e = .returned (.bool (alB al)) ∧ Below w.heap.size w w' := by
  have hlen := hA.1
  unfold maxLen at hlen
  by_cases h6 : al.length ≤ 6
  · have HA := Lib.hid hA
    have HS := Lib.hid hal.get
    have HAL := Lib.hid hal
    clear hA hal
    go_enter Tryz.func187, Tryz.ntmps187
    go_wp2
    go_loopw [3] (fun i wr => ∃ (k : Nat), i = .int .i64 (k : Int) ∧ k ≤ al.length ∧ Hid (AlTo al k ∧ Below w.heap.size w wr)) (fun i wr => al.length - (intOf i).toNat)
    case atStart => exact ⟨0, rfl, Nat.zero_le _, Lib.hid ⟨fun i _ h => absurd h (Nat.not_lt_zero _), Below.refl _ _⟩⟩
    case round =>
      obtain ⟨k, rfl, hk, HH⟩ := hrel
      by_cases hlt : k < al.length
      · obtain ⟨rfl, hlo, hhi⟩ := HA.out.2 (by omega)
        have hB := HH.out.2
        obtain ⟨s1, s2, s3, s4⟩ := HS.out k hlt
        have t1 := (hB.cell (p := ⟨b, o + k * 2, none⟩) (by show b < _; omega)).trans s1
        have t2 := (hB.cell (p := ⟨b, o + k * 2 + 1, none⟩) (by show b < _; omega)).trans s2
        have HB := Lib.hid hB
        clear hB s1 s2
        generalize hx : al[k] = x at *
        obtain ⟨n, v⟩ := x
        simp only at t1 t2 s3 s4
        have HX := Lib.hid hx
        clear hx
        by_cases hn : namedB small tagB n = true
        · by_cases hv : v.size ≤ 40
          · go_wp2_with (go_at_call 163; go_loud (refine (l01Tag_any n _ s3).mono ?_; rintro e w' ⟨rfl, rfl⟩; rw [hn]))
            go_loopw [4] (fun j wq => ∃ (m : Nat), j = .int .i64 (m : Int) ∧ m ≤ k ∧ Hid ((∀ j (hj : j < m) (hj' : j < al.length), al[j].1 ≠ n) ∧ Below w.heap.size w wq)) (fun j wq => k - (intOf j).toNat)
            case atStart => exact ⟨0, rfl, Nat.zero_le _, Lib.hid ⟨fun j hj => absurd hj (Nat.not_lt_zero _), HB.out⟩⟩
            case round =>
              obtain ⟨m, rfl, hm, HM⟩ := hrel
              by_cases hmk : m < k
              · obtain ⟨q1, _, q3, _⟩ := HS.out m (by omega)
                have hQ := HM.out.2
                have p1 := (hQ.cell (p := ⟨b, o + m * 2, none⟩) (by show b < _; omega)).trans q1
                obtain ⟨r1, _, _, _⟩ := HS.out k hlt
                have p2 := (hQ.cell (p := ⟨b, o + k * 2, none⟩) (by show b < _; omega)).trans r1
                rw [HX.out] at p2
                simp only at p2
                generalize hy : al[m].1 = y at *
                have HQ := Lib.hid hQ
                have HY := Lib.hid hy
                clear hQ q1 r1 hy
                by_cases he : y = n
                · subst he
                  go_wp2
                  go_quiet (fail)
                  go_wp2
                  go_ret
                  exact ⟨ret_bool (alB_false fun h => (h.2 k hlt hlt).2 m hmk (by rw [HX.out, HY.out])), below_drewN HQ.out _⟩
                · have he' := str_ne he
                  go_wp2
                  go_quiet (fail)
                  go_wp2
                  go_roundw
                  case rel => exact ⟨m + 1, by go_num, by omega, Lib.hid ⟨fun j hj hj' => by
                    by_cases e : j = m
                    · subst e; rw [HY.out]; exact he
                    · exact HM.out.1 j (by omega) hj', below_drewN HQ.out _⟩⟩
                  case measure => simp [intOf]; omega
              · obtain rfl : m = k := by omega
                go_wp2
                go_roundw
                case rel => exact ⟨m + 1, by go_num, by omega, Lib.hid ⟨fun i hi hik => by
                  by_cases e : i = m
                  · subst e; rw [HX.out]; exact ⟨⟨hn, hv⟩, fun j hj => HM.out.1 j hj (by omega)⟩
                  · exact HH.out.1 i hi (by omega), HM.out.2⟩⟩
                case measure => simp [intOf]; omega
          · go_wp2_with (go_at_call 163; go_loud (refine (l01Tag_any n _ s3).mono ?_; rintro e w' ⟨rfl, rfl⟩; rw [hn]))
            go_ret
            exact ⟨ret_bool (alB_false fun h => hv (by have := (h.2 k hlt hlt).1.2; rw [HX.out] at this; exact this)), HB.out⟩
        · go_wp2_with (go_at_call 163; go_loud (refine (l01Tag_any n _ s3).mono ?_; rintro e w' ⟨rfl, rfl⟩; rw [Bool.eq_false_iff.2 hn]))
          go_ret
          exact ⟨ret_bool (alB_false fun h => hn (by have := (h.2 k hlt hlt).1.1; rw [HX.out] at this; exact this)), HB.out⟩
      · obtain rfl : k = al.length := by omega
        go_wp2
        go_ret
        exact ⟨ret_bool (alB_true ⟨h6, HH.out.1⟩), HH.out.2⟩
  · clear hal hA
    go_enter Tryz.func187, Tryz.ntmps187
    go_wp2
    go_ret
    exact ⟨ret_bool (alB_false fun h => h6 h.1), Below.refl _ _⟩
end Go.Proofs.YthdkkpbhijlpaaaGreat
