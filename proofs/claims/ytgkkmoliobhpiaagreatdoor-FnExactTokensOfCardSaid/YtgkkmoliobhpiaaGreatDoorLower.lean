import Derived.Test.YtgkkmoliobhpiaaGreatDoorBuf
import Derived.Test.YtgkkmoliobhpiaaGreatDoorBad
namespace Go.Proofs.YtgkkmoliobhpiaaGreatDoor
open Go.ChangeShapes Go.WideShapes Go.ChangeAt Go.RowKit

def lowU (c : UInt8) : UInt8 := if 65 ≤ c ∧ c ≤ 90 then c + 32 else c
theorem lowU_nat (c : UInt8) : ((lowU c).toNat : Int) = lowB (c.toNat : Int) := by
  unfold lowU lowB great
  by_cases h : 65 ≤ c ∧ c ≤ 90
  · rw [if_pos h]
    obtain ⟨h1, h2⟩ := h
    rw [UInt8.le_iff_toNat_le] at h1 h2
    simp at h1 h2
    rw [if_pos (by simp; omega), UInt8.toNat_add]
    simp; omega
  · rw [if_neg h, if_neg]
    intro e; apply h
    simp at e
    rw [UInt8.le_iff_toNat_le, UInt8.le_iff_toNat_le]; simp; omega

theorem OwnB.empty (w : World) : OwnB w (w.alloc (.cells #[] 5)) (.slice (some ⟨w.heap.size, 0, none⟩) 0 0) [] :=
  ⟨World.ownsRow_lit w #[] 0 (Nat.le_refl _) (by decide) rfl, (Below.refl _ _).alloc (Nat.le_refl _) _⟩
theorem take_map_snoc {s : ByteArray} {k : Nat} (f : UInt8 → UInt8) (h : k < s.size) : (s.data.toList.take (k + 1)).map f = (s.data.toList.take k).map f ++ [f s[k]] := by
  rw [List.take_succ_eq_append_getElem (by simpa using h), List.map_append]; rfl
theorem take_len {s : ByteArray} {k : Nat} (f : UInt8 → UInt8) : ((s.data.toList.take k).map f).length ≤ k := by simp; omega

set_option maxHeartbeats 1000000 in
theorem l01Lower_any (s : ByteArray) (w : World) (hs : s.size ≤ 65536) :
    Calls Tryz.prog 63 #[.string s] w fun e w' => e = .returned (.string ⟨(s.data.toList.map lowU).toArray⟩) ∧ Below w.heap.size w w' := by
  go_enter Tryz.func63, Tryz.ntmps63
  go_wp2
  go_loopw [4, 3, 5] (fun i v _ wr => ∃ k : Nat, k ≤ s.size ∧ i = .int .i64 k ∧ OwnB w wr v ((s.data.toList.take k).map lowU)) (fun i _ _ _ => s.size - (intOf i).toNat)
  case atStart => exact ⟨0, by omega, rfl, OwnB.empty w⟩
  case round =>
    obtain ⟨k, hk, rfl, hown⟩ := hrel
    by_cases hlt : k < s.size
    · have HB := Lib.hid (lowU_nat s[k])
      have HL := Lib.hid (take_len (s := s) (k := k) lowU)
      by_cases hg : 65 ≤ (s[k].toNat : Int) ∧ (s[k].toNat : Int) ≤ 90
      · obtain ⟨g1, g2⟩ := hg
        go_wp2_with (at_builtin; refine wpList_append_byte w _ rfl (.tmp 24) (.tmp 26) rfl _ _ _ (lowU s[k]) rfl rfl hown ?c1 ?c2 ?_)
        case c1 => have := HL.out; omega
        case c2 => rw [HB.out, low_great g1 g2]
        intro v' w1 hown1
        clear hown
        go_wp2
        go_roundw
        case rel => exact ⟨k + 1, by omega, by go_num, by rw [take_map_snoc _ hlt, List.map_take]; exact hown1⟩
        case measure => simp [intOf]; omega
      · have HG := Lib.hid hg
        have hg' : (s[k].toNat : Int) < 65 ∨ (65 ≤ (s[k].toNat : Int) ∧ decide ((s[k].toNat : Int) ≤ 90) = false) := by
          by_cases q : (s[k].toNat : Int) < 65
          · exact Or.inl q
          · exact Or.inr ⟨by omega, by simp; omega⟩
        clear hg
        rcases hg' with q3 | ⟨q3, q4⟩
        all_goals
          go_wp2_with (at_builtin; refine wpList_append_byte w _ rfl (.tmp 24) (.tmp 26) rfl _ _ _ (lowU s[k]) rfl rfl hown ?c1 ?c2 ?_)
          case c1 => have := HL.out; omega
          case c2 => rw [HB.out, low_other HG.out]
          intro v' w1 hown1
          clear hown
          go_wp2
          go_roundw
          case rel => exact ⟨k + 1, by omega, by go_num, by rw [take_map_snoc _ hlt, List.map_take]; exact hown1⟩
          case measure => simp [intOf]; omega
    · obtain rfl : k = s.size := by omega
      rw [List.take_of_length_le (by simp)] at hown
      go_wp2_with (refine wpList_string_own w _ rfl (.tmp 28) rfl _ _ rfl hown ?_)
      go_ret
      exact ⟨rfl, hown.2⟩
end Go.Proofs.YtgkkmoliobhpiaaGreatDoor
