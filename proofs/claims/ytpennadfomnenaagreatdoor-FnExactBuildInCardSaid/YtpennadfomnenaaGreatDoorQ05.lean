import Derived.Test.YtpennadfomnenaaGreatDoorQ04
set_option linter.unusedVariables false
namespace Go.Proofs.YtpennadfomnenaaGreatDoor
open Go.ChangeShapes Go.WideShapes Go.ChangeAt Go.RowKit

/-- the bytes up to place k are those of a tag's name -/
def TagTo (s : ByteArray) (k : Nat) : Prop := ∀ i (h : i < s.size), i < k → (if i = 0 then small (s[i].toNat : Int) else tagB (s[i].toNat : Int)) = true
theorem tagTo_step {s : ByteArray} {k : Nat} (h : TagTo s k) (hk : k < s.size) (hf : (if k = 0 then small (s[k].toNat : Int) else tagB (s[k].toNat : Int)) = true) : TagTo s (k + 1) := by
  intro i hi h2
  by_cases e : i = k
  · subst e; exact hf
  · exact h i hi (by omega)
theorem tagTo_named {s : ByteArray} (h0 : 0 < s.size) (h12 : s.size ≤ 12) (h : TagTo s s.size) : Named small tagB s :=
  ⟨h0, h12, by simpa using h 0 h0 h0, fun i hi h1 _ => by have := h i hi hi; rwa [if_neg (by omega)] at this⟩
theorem named_tagTo {s : ByteArray} (h : Named small tagB s) {k : Nat} (hk : k < s.size) : (if k = 0 then small (s[k].toNat : Int) else tagB (s[k].toNat : Int)) = true := by
  obtain ⟨h0, _, hb, ha⟩ := h
  by_cases e : k = 0
  · subst e; rw [if_pos rfl]; exact hb
  · rw [if_neg e]; exact ha k hk (by omega) hk
theorem small_yes {c : Int} (h : small c = true) : 97 ≤ c ∧ c ≤ 122 := by simpa [small] using h
theorem small_tag {c : Int} (h : small c = true) : tagB c = true := by simp [tagB, h]
theorem digit_tag {c : Int} (h : digit c = true) : tagB c = true := by simp [tagB, h]
theorem not_tag {c : Int} (h1 : ¬ small c = true) (h2 : ¬ digit c = true) (h3 : ¬ c = 45) : ¬ tagB c = true := by simp [tagB, h1, h2, h3]
set_option maxHeartbeats 1000000 in
theorem l01Tag_any (s : ByteArray) (w : World) (hs : s.size ≤ maxLen) :
    Calls Tryz.prog 76 #[.string s] w fun e w' => e = .returned (.bool (namedB small tagB s)) ∧ w = w' := by
  unfold maxLen at hs
  by_cases h0 : 0 < s.size
  · by_cases h12 : s.size ≤ 12
    · have hb1 : (decide ((1 : Int) ≤ s.size) && decide ((s.size : Int) ≤ 12)) = true := by simp; omega
      have HB := Lib.hid hb1
      clear hb1
      go_enter Tryz.func76, Tryz.ntmps76
      go_wp2_with (go_at_call 103; refine (l01In_any _ _ _ _).mono ?_; rintro e w' ⟨rfl, rfl⟩; rw [HB.out])
      go_loop [3, 4] (fun i b => ∃ k : Nat, k ≤ s.size ∧ i = .int .i64 k ∧ TagTo s k) (fun i _ => s.size - (intOf i).toNat)
      case atStart => exact ⟨0, by omega, rfl, fun i _ _ => by omega⟩
      case round =>
        obtain ⟨k, hk, rfl, hall⟩ := hrel
        have HA := Lib.hid hall
        clear hall
        by_cases hlt : k < s.size
        · by_cases hf : small (s[k].toNat : Int) = true
          · have HF := Lib.hid hf
            obtain ⟨f1, f2⟩ := small_yes hf
            clear hf
            go_wp2
            go_round
            case rel => exact ⟨k + 1, by omega, by go_num, tagTo_step HA.out hlt (by split; exact HF.out; exact small_tag HF.out)⟩
            case measure => simp [intOf]; omega
          · have hf2 : (s[k].toNat : Int) < 97 ∨ (97 ≤ (s[k].toNat : Int) ∧ decide ((s[k].toNat : Int) ≤ 122) = false) := by
              simp [small] at hf
              by_cases q : (s[k].toNat : Int) < 97
              · exact Or.inl q
              · exact Or.inr ⟨by omega, by simp; omega⟩
            have HF := Lib.hid hf
            clear hf
            by_cases e0 : k = 0
            · subst e0
              rcases hf2 with f | ⟨f, fd⟩
              all_goals
                go_wp2
                go_ret
                exact ⟨ret_bool (namedB_false fun h => HF.out (by simpa using named_tagTo h hlt)), rfl⟩
            · have e0' : ((k : Int) == 0) = false := by simp; omega
              by_cases hd : digit (s[k].toNat : Int) = true
              · rcases hf2 with f | ⟨f, fd⟩
                all_goals
                  go_wp2_with (go_at_call 146; refine (l00Digit_any _ _).mono ?_; rintro e w' ⟨rfl, rfl⟩)
                  go_round
                  case rel => exact ⟨k + 1, by omega, by go_num, tagTo_step HA.out hlt (by rw [if_neg e0]; exact digit_tag hd)⟩
                  case measure => simp [intOf]; omega
              · by_cases hm : ((s[k].toNat : Int) != 45) = true
                · rcases hf2 with f | ⟨f, fd⟩
                  all_goals
                    go_wp2_with (go_at_call 146; refine (l00Digit_any _ _).mono ?_; rintro e w' ⟨rfl, rfl⟩)
                    go_ret
                    exact ⟨ret_bool (namedB_false fun h => not_tag HF.out hd (by simpa using hm) (by have := named_tagTo h hlt; rwa [if_neg e0] at this)), rfl⟩
                · have hm' : ((s[k].toNat : Int) != 45) = false := by simpa using hm
                  clear hm
                  rcases hf2 with f | ⟨f, fd⟩
                  all_goals
                    go_wp2_with (go_at_call 146; refine (l00Digit_any _ _).mono ?_; rintro e w' ⟨rfl, rfl⟩)
                    go_round
                    case rel => exact ⟨k + 1, by omega, by go_num, tagTo_step HA.out hlt (by rw [if_neg e0, tagB]; simp at hm'; simp [hm'])⟩
                    case measure => simp [intOf]; omega
        · obtain rfl : k = s.size := by omega
          go_wp2
          go_ret
          exact ⟨ret_bool (namedB_true (tagTo_named h0 h12 HA.out)), rfl⟩
    · have hb1 : (decide ((1 : Int) ≤ s.size) && decide ((s.size : Int) ≤ 12)) = false := by simp; omega
      have HB := Lib.hid hb1
      clear hb1
      go_enter Tryz.func76, Tryz.ntmps76
      go_wp2_with (go_at_call 103; refine (l01In_any _ _ _ _).mono ?_; rintro e w' ⟨rfl, rfl⟩; rw [HB.out])
      go_ret
      exact ⟨ret_bool (namedB_false fun h => h12 h.2.1), rfl⟩
  · have hb1 : (decide ((1 : Int) ≤ s.size) && decide ((s.size : Int) ≤ 12)) = false := by simp; omega
    have HB := Lib.hid hb1
    clear hb1
    go_enter Tryz.func76, Tryz.ntmps76
    go_wp2_with (go_at_call 103; refine (l01In_any _ _ _ _).mono ?_; rintro e w' ⟨rfl, rfl⟩; rw [HB.out])
    go_ret
    exact ⟨ret_bool (namedB_false fun h => h0 h.1), rfl⟩
end Go.Proofs.YtpennadfomnenaaGreatDoor
