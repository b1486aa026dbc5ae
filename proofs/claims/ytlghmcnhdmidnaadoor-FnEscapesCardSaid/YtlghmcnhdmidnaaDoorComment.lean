
import Derived.Test.YtlghmcnhdmidnaaDoorAny2
import Derived.Lib.IndexMore
namespace Go.Proofs.YtlghmcnhdmidnaaDoor
open Go.ChangeShapes Go.WideShapes Go.ChangeAt Go.RowKit Go.Shelf

/-- '--' in it -/
def dashes (s : ByteArray) : Bool := Lib.contains s.data.toList [45, 45]
def dashFirst (s : ByteArray) : Bool := Lib.hasPrefix s.data.toList [45]
def dashLast (s : ByteArray) : Bool := Lib.hasSuffix s.data.toList [45]
def commentIn (s : ByteArray) : Bool := !hasLG s && !dashes s && !dashFirst s && !dashLast s
def commentB (s : ByteArray) : Bool := decide (s.size ≤ 65536) && commentIn s

theorem at_list {s : ByteArray} {i : Nat} (h : i < s.size) : s.data.toList[i]? = some s[i] := by
  rw [List.getElem?_eq_getElem (by simpa using h)]; rfl
theorem occ_two (l : List UInt8) (i : Nat) : Lib.occAt l [45, 45] i = true ↔ l[i]? = some 45 ∧ l[i + 1]? = some 45 := by
  unfold Lib.occAt
  rcases h : l.drop i with _ | ⟨a, _ | ⟨b, t⟩⟩
  · have h0 : l.length ≤ i := by simpa using h
    simp [List.getElem?_eq_none h0]
  · have e1 : l[i]? = some a := by rw [← List.head?_drop, h]; rfl
    have e2 : l[i + 1]? = none := by
      have := congrArg List.length h; simp at this
      exact List.getElem?_eq_none (by omega)
    simp [e2]
  · have e1 : l[i]? = some a := by rw [← List.head?_drop, h]; rfl
    have e2 : l[i + 1]? = some b := by
      rw [← List.head?_drop, ← List.drop_drop, h]; rfl
    rw [e1, e2]
    simp only [List.isPrefixOf, Bool.and_true, Bool.and_eq_true, beq_iff_eq, Option.some.injEq]
    exact ⟨fun ⟨a, b⟩ => ⟨a.symm, b.symm⟩, fun ⟨a, b⟩ => ⟨a.symm, b.symm⟩⟩
theorem dashes_hit {s : ByteArray} {j : Nat} (h : j + 1 < s.size) (h1 : s[j] = 45) (h2 : s[j + 1] = 45) : dashes s = true := by
  have ho : Lib.occAt s.data.toList [45, 45] j = true := (occ_two _ _).2 ⟨by rw [at_list (by omega), h1], by rw [at_list h, h2]⟩
  rw [dashes, Lib.contains, decide_eq_true_iff]
  rcases Lib.index_spec s.data.toList [45, 45] with ⟨_, hn⟩ | ⟨i, hi, _⟩
  · have := hn j (by simp; omega)
    rw [ho] at this; cases this
  · omega
theorem dashes_at {s : ByteArray} (h : dashes s = true) : ∃ j, ∃ (h1 : j + 1 < s.size), s[j] = 45 ∧ s[j + 1] = 45 := by
  rw [dashes, Lib.contains, decide_eq_true_iff] at h
  rcases Lib.index_spec s.data.toList [45, 45] with ⟨h0, _⟩ | ⟨i, _, _, ho, _⟩
  · omega
  · obtain ⟨e1, e2⟩ := (occ_two _ _).1 ho
    have hl : i + 1 < s.data.toList.length := (List.getElem?_eq_some_iff.1 e2).1
    have hl' : i + 1 < s.size := by simpa using hl
    rw [at_list (by omega)] at e1
    rw [at_list hl'] at e2
    exact ⟨i, hl', Option.some.inj e1, Option.some.inj e2⟩
theorem dashFirst_iff (s : ByteArray) : dashFirst s = true ↔ ∃ h : 0 < s.size, s[0] = 45 := by
  rw [dashFirst, Lib.hasPrefix]
  constructor
  · intro h
    rcases e : s.data.toList with _ | ⟨a, t⟩
    · rw [e] at h; simp at h
    · rw [e] at h
      have hl : 0 < s.size := by have := congrArg List.length e; simp at this; omega
      have := at_list hl
      rw [e] at this
      simp at h this
      exact ⟨hl, by rw [← this, ← h]⟩
  · rintro ⟨h, h0⟩
    rcases e : s.data.toList with _ | ⟨a, t⟩
    · have := congrArg List.length e; rw [List.length_nil, Array.length_toList] at this; exact absurd h (by show ¬ 0 < s.data.size; omega)
    · have := at_list h
      rw [e] at this
      simp at this
      simp [this, h0]
theorem dashLast_iff (s : ByteArray) : dashLast s = true ↔ ∃ k, ∃ h : k < s.size, k + 1 = s.size ∧ s[k] = 45 := by
  rw [dashLast, Lib.hasSuffix, List.isSuffixOf_iff_suffix]
  constructor
  · rintro ⟨t, ht⟩
    have hl := congrArg List.length ht
    simp at hl
    have hk : t.length < s.size := by omega
    refine ⟨t.length, hk, by omega, ?_⟩
    have := at_list hk
    rw [← ht] at this
    simp at this
    exact this.symm
  · rintro ⟨k, h, hk, h0⟩
    refine ⟨s.data.toList.take k, ?_⟩
    have e : s.data.toList.take (k + 1) = s.data.toList.take k ++ [s[k]] := List.take_succ_eq_append_getElem (by simpa using h)
    rw [h0] at e
    rw [← e, List.take_of_length_le (by simp; omega)]

/-- what the model looks for at place k -/
def Wrong (s : ByteArray) (k : Nat) : Prop := ∃ h : k < s.size, isLG (s[k]).toNat = true ∨ s[k] = 45 ∧ (k = 0 ∨ k + 1 = s.size ∨ ∃ j, ∃ h' : j + 1 = k, s[j]'(by omega) = 45)
def Right (s : ByteArray) (k : Nat) : Prop := ∀ j, j < k → ¬ Wrong s j
theorem Right.zero (s : ByteArray) : Right s 0 := fun _ h => by omega
theorem Right.succ {s : ByteArray} {k : Nat} (h : Right s k) (h' : ¬ Wrong s k) : Right s (k + 1) := fun j hj => by
  by_cases e : j = k
  · subst e; exact h'
  · exact h j (by omega)
theorem wrong_no {s : ByteArray} {k : Nat} (h : Wrong s k) : false = commentIn s := by
  obtain ⟨hk, h | ⟨h1, h2 | h2 | ⟨j, rfl, h2⟩⟩⟩ := h
  · simp [commentIn, hasLG_hit hk h]
  · subst h2
    simp [commentIn, (dashFirst_iff s).2 ⟨hk, h1⟩]
  · simp [commentIn, (dashLast_iff s).2 ⟨k, hk, h2, h1⟩]
  · simp [commentIn, dashes_hit hk h2 h1]
theorem right_yes {s : ByteArray} (h : Right s s.size) : true = commentIn s := by
  have h1 : hasLG s = false := hasLG_none fun j hj _ => by
    cases e : isLG (s[j]).toNat
    · rfl
    · exact absurd ⟨hj, Or.inl e⟩ (h j hj)
  have h2 : dashes s = false := by
    cases e : dashes s
    · rfl
    · obtain ⟨j, hj, e1, e2⟩ := dashes_at e
      exact absurd ⟨hj, Or.inr ⟨e2, Or.inr (Or.inr ⟨j, rfl, e1⟩)⟩⟩ (h (j + 1) hj)
  have h3 : dashFirst s = false := by
    cases e : dashFirst s
    · rfl
    · obtain ⟨hk, e1⟩ := (dashFirst_iff s).1 e
      exact absurd ⟨hk, Or.inr ⟨e1, Or.inl rfl⟩⟩ (h 0 hk)
  have h4 : dashLast s = false := by
    cases e : dashLast s
    · rfl
    · obtain ⟨k, hk, e1, e2⟩ := (dashLast_iff s).1 e
      exact absurd ⟨hk, Or.inr ⟨e2, Or.inr (Or.inl e1)⟩⟩ (h k hk)
  simp [commentIn, h1, h2, h3, h4]

theorem notWrong {s : ByteArray} {k : Nat} (h : k < s.size) (h60 : ((s[k].toNat : Int) == 60) = false) (h62 : ((s[k].toNat : Int) == 62) = false)
    (h45 : ((s[k].toNat : Int) == 45) = false ∨ (¬ k = 0 ∧ ¬ k + 1 = s.size ∧ ∀ j (h' : j + 1 = k), ((s[j]'(by omega)).toNat : Int) ≠ 45)) : ¬ Wrong s k := by
  rintro ⟨_, hw | ⟨h1, h2⟩⟩
  · simp [isLG] at hw
    simp at h60 h62
    omega
  · rcases h45 with h45 | ⟨h3, h4, h5⟩
    · rw [h1] at h45; simp at h45
    · rcases h2 with h2 | h2 | ⟨j, h', h2⟩
      · exact h3 h2
      · exact h4 h2
      · have := h5 j h'
        rw [h2] at this
        exact this rfl
theorem wrongLG {s : ByteArray} {k : Nat} (h : k < s.size) (h1 : ((s[k].toNat : Int) == 60) = true ∨ ((s[k].toNat : Int) == 62) = true) : Wrong s k := by
  refine ⟨h, Or.inl ?_⟩
  simp [isLG]
  simp at h1
  omega
theorem is45 {c : UInt8} (h : ((c.toNat : Int) == 45) = true) : c = 45 := by
  apply UInt8.toNat_inj.1
  simp at h
  simp; omega

set_option maxHeartbeats 2000000 in
theorem l02Comment_any (s : ByteArray) (w : World) (hs : s.size ≤ 65536) :
    Calls Tryd.prog 31 #[.string s] w fun e w' => e = .returned (.bool (commentIn s)) ∧ w = w' := by
  go_enter Tryd.func31, Tryd.ntmps31
  go_wp2
  go_loop [3] (fun i => ∃ k : Nat, k ≤ s.size ∧ i = .int .i64 k ∧ Right s k) (fun i => s.size - (intOf i).toNat)
  case atStart => exact ⟨0, Nat.zero_le _, rfl, Right.zero s⟩
  case round =>
    obtain ⟨k, hk, rfl, hr⟩ := hrel
    have HR := Lib.hid hr
    clear hr
    by_cases hlt : k < s.size
    · by_cases h60 : ((s[k].toNat : Int) == 60) = true
      · have HW := Lib.hid (wrongLG hlt (Or.inl h60))
        go_wp2
        go_ret
        exact ⟨ret_bool (wrong_no HW.out), rfl⟩
      · have h60' : ((s[k].toNat : Int) == 60) = false := by simpa using h60
        clear h60
        by_cases h62 : ((s[k].toNat : Int) == 62) = true
        · have HW := Lib.hid (wrongLG hlt (Or.inr h62))
          go_wp2
          go_ret
          exact ⟨ret_bool (wrong_no HW.out), rfl⟩
        · have h62' : ((s[k].toNat : Int) == 62) = false := by simpa using h62
          clear h62
          by_cases h45 : ((s[k].toNat : Int) == 45) = true
          · have H45 := Lib.hid (is45 h45)
            by_cases hk0 : k = 0
            · have HW := Lib.hid (show Wrong s k from ⟨hlt, Or.inr ⟨H45.out, Or.inl hk0⟩⟩)
              have hk0' : ((k : Int) == 0) = true := by simp [hk0]
              clear hk0
              go_wp2
              go_ret
              exact ⟨ret_bool (wrong_no HW.out), rfl⟩
            · obtain ⟨j, rfl⟩ : ∃ j, k = j + 1 := ⟨k - 1, by omega⟩
              have hk0' : ((j : Int) + 1 == 0) = false := by simp; omega
              by_cases hlast : j + 1 + 1 = s.size
              · have HW := Lib.hid (show Wrong s (j + 1) from ⟨hlt, Or.inr ⟨H45.out, Or.inr (Or.inl hlast)⟩⟩)
                have hl' : ((j : Int) + 1 == (s.size : Int) - 1) = true := by simp; omega
                clear hlast
                go_wp2
                go_ret
                exact ⟨ret_bool (wrong_no HW.out), rfl⟩
              · have hl' : ((j : Int) + 1 == (s.size : Int) - 1) = false := by simp; omega
                have HL := Lib.hid hlast
                clear hlast
                have hj : j < s.size := by omega
                by_cases hp : ((s[j].toNat : Int) == 45) = true
                · have HW := Lib.hid (show Wrong s (j + 1) from ⟨hlt, Or.inr ⟨H45.out, Or.inr (Or.inr ⟨j, rfl, is45 hp⟩)⟩⟩)
                  go_wp2
                  go_ret
                  exact ⟨ret_bool (wrong_no HW.out), rfl⟩
                · have hp' : ((s[j].toNat : Int) == 45) = false := by simpa using hp
                  clear hp
                  have hall : ∀ i (h' : i + 1 = j + 1), ((s[i]'(by omega)).toNat : Int) ≠ 45 := fun i hi => by
                    have e : i = j := by omega
                    subst e
                    simpa using hp'
                  have HW := Lib.hid (notWrong hlt h60' h62' (Or.inr ⟨hk0, HL.out, hall⟩))
                  clear hall
                  go_wp2
                  go_round
                  case rel => exact ⟨j + 1 + 1, by omega, by go_num, HR.out.succ HW.out⟩
                  case measure => simp [intOf]; omega
          · have h45' : ((s[k].toNat : Int) == 45) = false := by simpa using h45
            clear h45
            have HW := Lib.hid (notWrong hlt h60' h62' (Or.inl h45'))
            go_wp2
            go_round
            case rel => exact ⟨k + 1, by omega, by go_num, HR.out.succ HW.out⟩
            case measure => simp [intOf]; omega
    · obtain rfl : k = s.size := by omega
      go_wp2
      go_ret
      exact ⟨ret_bool (right_yes HR.out), rfl⟩

theorem specCommentOK_any (s : ByteArray) (w : World) :
    Calls Tryd.prog 15 #[.string s] w fun e w' => e = .returned (.bool (commentB s)) ∧ w = w' := by
  by_cases h : (s.size : Int) ≤ 65536
  · have h' : ¬ (65536 : Int) < s.size := by omega
    go_enter Tryd.func15, Tryd.ntmps15
    go_wp2_with (go_at_call 31; refine (l02Comment_any s _ (by omega)).mono ?_; rintro e w1 ⟨rfl, rfl⟩)
    go_ret
    exact ⟨ret_bool (by rw [commentB, decide_eq_true (by omega)]; rfl), rfl⟩
  · have h' : (65536 : Int) < s.size := by omega
    go_enter Tryd.func15, Tryd.ntmps15
    go_wp2
    go_ret
    exact ⟨ret_bool (by rw [commentB, decide_eq_false (by omega)]; rfl), rfl⟩

/-- the library's variable holds some number -/
def MaxAt (w : World) : Prop := ∃ m : Int, w.cell? ⟨0, 0, none⟩ = some (.int .i64 m)
theorem MaxAt.pos {w : World} (h : MaxAt w) : 0 < w.heap.size := by
  obtain ⟨m, h⟩ := h
  rcases Nat.eq_zero_or_pos w.heap.size with e | e
  · have e1 : w.heap[0]? = none := Array.getElem?_eq_none (by omega)
    unfold World.cell? at h
    simp [e1] at h
  · exact e
theorem MaxAt.below {w w' : World} (h : MaxAt w) (hb : Below w.heap.size w w') : MaxAt w' := by
  have hp := h.pos
  obtain ⟨m, h⟩ := h
  exact ⟨m, (hb.cell (p := ⟨0, 0, none⟩) hp).trans h⟩
theorem containsDashes (s : ByteArray) (hs : s.size ≤ 65536) (w : World) (hm : MaxAt w) :
    Calls Tryd.prog 25 #[.string s, .string ⟨#[45, 45]⟩] w fun e w' => e = .returned (.bool (dashes s)) ∧ w = w' := by
  obtain ⟨m, hm⟩ := hm
  exact (strings_Contains s ⟨#[45, 45]⟩ m w (by omega) hm).mono fun _ _ ⟨h1, h2⟩ => ⟨h1, h2.symm⟩
theorem hasPrefixDash (s : ByteArray) (w : World) : Calls Tryd.prog 29 #[.string s, .string ⟨#[45]⟩] w fun e w' => e = .returned (.bool (dashFirst s)) ∧ w = w' :=
  (strings_HasPrefix s ⟨#[45]⟩ w).mono fun _ _ ⟨h1, h2⟩ => ⟨h1, h2.symm⟩
theorem hasSuffixDash (s : ByteArray) (hs : s.size ≤ 65536) (w : World) : Calls Tryd.prog 30 #[.string s, .string ⟨#[45]⟩] w fun e w' => e = .returned (.bool (dashLast s)) ∧ w = w' :=
  (strings_HasSuffix s ⟨#[45]⟩ w (by omega)).mono fun _ _ ⟨h1, h2⟩ => ⟨h1, h2.symm⟩

set_option maxHeartbeats 2000000 in
theorem implCommentOK_any (s : ByteArray) (w : World) (hm : MaxAt w) :
    Calls Tryd.prog 14 #[.string s] w fun e w' => e = .returned (.bool (commentB s)) ∧ Below w.heap.size w w' := by
  by_cases h : (s.size : Int) ≤ 65536
  · have hs : s.size ≤ 65536 := by omega
    have HB := Lib.hid (show commentB s = commentIn s by rw [commentB, decide_eq_true hs]; rfl)
    by_cases h1 : hasLG s = true
    · have H := Lib.hid (show false = commentIn s by simp [commentIn, h1])
      go_enter Tryd.func14, Tryd.ntmps14
      go_wp2_with (go_at_call 28; refine (containsAny_any s hs _).mono ?_; rintro e w1 ⟨rfl, hb⟩; rw [h1])
      go_ret
      exact ⟨ret_bool (by rw [HB.out]; exact H.out), hb⟩
    · have h1' : hasLG s = false := by simpa using h1
      clear h1
      by_cases h2 : dashes s = true
      · have H := Lib.hid (show false = commentIn s by simp [commentIn, h2])
        go_enter Tryd.func14, Tryd.ntmps14
        go_wp2_with (first | (go_at_call 28; refine (containsAny_any s hs _).mono ?_; rintro e w1 ⟨rfl, hb⟩; rw [h1']) | (go_at_call 25; refine (containsDashes s hs _ (hm.below hb)).mono ?_; rintro e w2 ⟨rfl, rfl⟩; rw [h2]))
        go_ret
        exact ⟨ret_bool (by rw [HB.out]; exact H.out), hb⟩
      · have h2' : dashes s = false := by simpa using h2
        clear h2
        by_cases h3 : dashFirst s = true
        · have H := Lib.hid (show false = commentIn s by simp [commentIn, h3])
          go_enter Tryd.func14, Tryd.ntmps14
          go_wp2_with (first | (go_at_call 28; refine (containsAny_any s hs _).mono ?_; rintro e w1 ⟨rfl, hb⟩; rw [h1']) | (go_at_call 25; refine (containsDashes s hs _ (hm.below hb)).mono ?_; rintro e w2 ⟨rfl, rfl⟩; rw [h2']) | (go_at_call 29; refine (hasPrefixDash s _).mono ?_; rintro e w2 ⟨rfl, rfl⟩; rw [h3]))
          go_ret
          exact ⟨ret_bool (by rw [HB.out]; exact H.out), hb⟩
        · have h3' : dashFirst s = false := by simpa using h3
          clear h3
          have H := Lib.hid (show (!dashLast s) = commentIn s by simp [commentIn, h1', h2', h3'])
          go_enter Tryd.func14, Tryd.ntmps14
          go_wp2_with (first | (go_at_call 28; refine (containsAny_any s hs _).mono ?_; rintro e w1 ⟨rfl, hb⟩; rw [h1']) | (go_at_call 25; refine (containsDashes s hs _ (hm.below hb)).mono ?_; rintro e w2 ⟨rfl, rfl⟩; rw [h2']) | (go_at_call 29; refine (hasPrefixDash s _).mono ?_; rintro e w2 ⟨rfl, rfl⟩; rw [h3']) | (go_at_call 30; refine (hasSuffixDash s hs _).mono ?_; rintro e w2 ⟨rfl, rfl⟩))
          go_ret
          exact ⟨ret_bool (by rw [HB.out]; exact H.out), hb⟩
  · have h' : decide ((s.size : Int) ≤ 65536) = false := by simpa using h
    clear h
    go_enter Tryd.func14, Tryd.ntmps14
    go_wp2
    go_ret
    exact ⟨ret_bool (by rw [commentB, decide_eq_false (by simp at h'; omega)]; rfl), Below.refl _ _⟩
end Go.Proofs.YtlghmcnhdmidnaaDoor
