
import Derived.Test.YtbcbmgeoaejlmaaBytes
import Derived.Lib.Hide
namespace Go.Proofs.Ytbcbmgeoaejlmaa
open Go.ChangeShapes Go.WideShapes Go.ChangeAt Go.RowKit

/-- from place a on, up to place k, all bytes are so -/
def AllTo (F : Int → Bool) (s : ByteArray) (a k : Nat) : Prop := ∀ i (h : i < s.size), a ≤ i → i < k → F (s[i].toNat : Int) = true
def Named (B F : Int → Bool) (s : ByteArray) : Prop := ∃ h : 0 < s.size, s.size ≤ 12 ∧ B (s[0].toNat : Int) = true ∧ AllTo F s 1 s.size
open Classical in
noncomputable def namedB (B F : Int → Bool) (s : ByteArray) : Bool := decide (Named B F s)
theorem namedB_true {B F : Int → Bool} {s : ByteArray} (h : Named B F s) : true = namedB B F s := by simp [namedB, h]
theorem namedB_false {B F : Int → Bool} {s : ByteArray} (h : ¬ Named B F s) : false = namedB B F s := by simp [namedB, h]
theorem allTo_step {F : Int → Bool} {s : ByteArray} {a k : Nat} (h : AllTo F s a k) (hk : k < s.size) (hf : F (s[k].toNat : Int) = true) : AllTo F s a (k + 1) := by
  intro i hi h1 h2
  by_cases e : i = k
  · subst e; exact hf
  · exact h i hi h1 (by omega)

theorem ne_nil {s : ByteArray} (h : 0 < s.size) : ¬ s.toList = [] := by
  intro e
  have h2 : s.toList.length = s.size := by rw [ByteArray.toList_eq]; simp
  rw [e] at h2; simp at h2; omega
theorem ne_empty {s : ByteArray} (h : 0 < s.size) : s.toList.isEmpty = false := by
  rw [List.isEmpty_eq_false_iff]; exact ne_nil h
theorem is_nil {s : ByteArray} (h : ¬ 0 < s.size) : s.toList = [] := by
  have h2 : s.toList.length = s.size := by rw [ByteArray.toList_eq]; simp
  exact List.length_eq_zero_iff.mp (by omega)

set_option maxHeartbeats 400000 in
theorem isNameOf_tag (s : ByteArray) (w : World) (hs : s.size ≤ maxLen) :
    Calls Try.prog 167 #[.string s, .func (.func 168) #[] #[], .func (.func 169) #[] #[]] w fun e w' => e = .returned (.bool (namedB small tagB s)) ∧ w = w' := by
  unfold maxLen at hs
  by_cases h0 : 0 < s.size
  · have hn := ne_nil h0
    have he := ne_empty h0
    by_cases h12 : s.size ≤ 12
    · by_cases hb : small (s[0].toNat : Int) = true
      · go_enter Try.func167, Try.ntmps167
        go_wp2_with (go_at_call 168; refine (isSmall_any _ _).mono ?_; rintro e w' ⟨rfl, rfl⟩)
        go_loop [7] (fun i => ∃ k : Nat, 1 ≤ k ∧ k ≤ s.size ∧ i = .int .i64 k ∧ AllTo tagB s 1 k) (fun i => s.size - (intOf i).toNat)
        case atStart => exact ⟨1, by omega, by omega, rfl, fun i _ _ _ => by omega⟩
        case round =>
          obtain ⟨k, hk1, hk, rfl, hall⟩ := hrel
          have HA := Lib.hid hall
          clear hall
          by_cases hlt : k < s.size
          · by_cases hf : tagB (s[k].toNat : Int) = true
            · go_wp2_with (go_at_call 169; refine (followsInTag_any _ _).mono ?_; rintro e w' ⟨rfl, rfl⟩)
              go_round
              case rel => exact ⟨k + 1, by omega, by omega, by go_num, allTo_step HA.out hlt hf⟩
              case measure => simp [intOf]; omega
            · go_wp2_with (go_at_call 169; refine (followsInTag_any _ _).mono ?_; rintro e w' ⟨rfl, rfl⟩)
              go_ret
              exact ⟨ret_bool (namedB_false fun h => hf (h.2.2.2 k hlt hk1 (by omega))), rfl⟩
          · obtain rfl : k = s.size := by omega
            go_wp2
            go_ret
            exact ⟨ret_bool (namedB_true ⟨h0, h12, hb, HA.out⟩), rfl⟩
      · go_enter Try.func167, Try.ntmps167
        go_wp2_with (go_at_call 168; refine (isSmall_any _ _).mono ?_; rintro e w' ⟨rfl, rfl⟩)
        go_ret
        exact ⟨ret_bool (namedB_false fun h => hb h.2.2.1), rfl⟩
    · go_enter Try.func167, Try.ntmps167
      go_wp2
      go_ret
      exact ⟨ret_bool (namedB_false fun h => h12 h.2.1), rfl⟩
  · have hn := is_nil h0
    go_enter Try.func167, Try.ntmps167
    go_wp2
    go_ret
    exact ⟨ret_bool (namedB_false fun h => h0 h.1), rfl⟩
theorem implTagOK_any (s : ByteArray) (w : World) (hs : s.size ≤ maxLen) :
    Calls Try.prog 129 #[.string s] w fun e w' => e = .returned (.bool (namedB small tagB s)) ∧ w = w' := by
  go_enter Try.func129, Try.ntmps129
  go_wp2_with (go_at_call 167; refine (isNameOf_tag _ _ hs).mono ?_; rintro e w' ⟨rfl, rfl⟩)
  go_ret
  exact ⟨rfl, rfl⟩
theorem nameB_or (c : Int) : nameB c = (letterB c || digit c) := rfl

end Go.Proofs.Ytbcbmgeoaejlmaa
