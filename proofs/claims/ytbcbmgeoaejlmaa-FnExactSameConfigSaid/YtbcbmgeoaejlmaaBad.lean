
import Derived.Test.YtbcbmgeoaejlmaaSwitch
namespace Go.Proofs.Ytbcbmgeoaejlmaa
open Go.ChangeShapes Go.WideShapes Go.ChangeAt Go.RowKit

abbrev wantS : ByteArray := { data := #[106, 97, 118, 97, 115, 99, 114, 105, 112, 116, 58] }
def wantI (k : Nat) : Int := if h : k < wantS.size then (wantS[k].toNat : Int) else 0
def skipB (c : Int) (k : Nat) : Bool := c == 9 || c == 10 || c == 13 || (k == 0 && decide (c ≤ 32))
/-- from a place on, k bytes of the scheme having been met -/
def badL : List UInt8 → Nat → Bool
  | [], k => k == 11
  | c :: r, k => if 11 ≤ k then true else if skipB (c.toNat : Int) k = true then badL r k else if lowB (c.toNat : Int) = wantI k then badL r (k + 1) else false
theorem badL_full (l : List UInt8) : badL l 11 = true := by cases l <;> simp [badL]
theorem drop_cons {s : ByteArray} {n : Nat} (h : n < s.size) : s.data.toList.drop n = s[n] :: s.data.toList.drop (n + 1) := by
  rw [List.drop_eq_getElem_cons (by simpa using h)]; rfl
theorem badL_skip {s : ByteArray} {n m : Nat} {b : Bool} (h : n < s.size) (hm : m < 11) (hk : skipB (s[n].toNat : Int) m = true) (hb : badL (s.data.toList.drop n) m = b) : badL (s.data.toList.drop (n + 1)) m = b := by
  rw [drop_cons h, badL, if_neg (by omega), if_pos hk] at hb; exact hb
theorem badL_hit {s : ByteArray} {n m : Nat} {b : Bool} (h : n < s.size) (hm : m < 11) (hk : skipB (s[n].toNat : Int) m = false) (he : lowB (s[n].toNat : Int) = wantI m) (hb : badL (s.data.toList.drop n) m = b) : badL (s.data.toList.drop (n + 1)) (m + 1) = b := by
  rw [drop_cons h, badL, if_neg (by omega), if_neg (by simp [hk]), if_pos he] at hb; exact hb
theorem badL_miss {s : ByteArray} {n m : Nat} {b : Bool} (h : n < s.size) (hm : m < 11) (hk : skipB (s[n].toNat : Int) m = false) (he : ¬ lowB (s[n].toNat : Int) = wantI m) (hb : badL (s.data.toList.drop n) m = b) : false = b := by
  rw [drop_cons h, badL, if_neg (by omega), if_neg (by simp [hk]), if_neg he] at hb; exact hb
theorem badL_end {s : ByteArray} {m : Nat} {b : Bool} (hb : badL (s.data.toList.drop s.size) m = b) : ((m : Int) == 11) = b := by
  rw [List.drop_of_length_le (by simp), badL] at hb; rw [← hb, Bool.eq_iff_iff]; simp; omega
theorem wantI_in {m : Nat} (h : m < wantS.size) : wantI m = (wantS[m].toNat : Int) := by rw [wantI, dif_pos h]
theorem size_want : wantS.size = 11 := rfl
theorem low_great {c : Int} (h1 : 65 ≤ c) (h2 : c ≤ 90) : lowB c = c + 32 := by simp [lowB, great, h1, h2]
theorem low_other {c : Int} (h : ¬ (65 ≤ c ∧ c ≤ 90)) : lowB c = c := by rw [lowB, if_neg (by simp [great]; omega)]
theorem want_eq {m : Nat} {x : Int} (h : m < wantS.size) (e : (x != (wantS[m].toNat : Int)) = false) : x = wantI m := by rw [wantI_in h]; simpa using e
theorem want_ne {m : Nat} {x : Int} (h : m < wantS.size) (e : (x != (wantS[m].toNat : Int)) = true) : ¬ x = wantI m := by rw [wantI_in h]; simpa using e

set_option maxHeartbeats 2000000 in
theorem l01Bad_any (s : ByteArray) (w : World) (hs : s.size ≤ maxLen) :
    Calls Try.prog 124 #[.string s] w fun e w' => e = .returned (.bool (badL s.data.toList 0)) ∧ w = w' := by
  unfold maxLen at hs
  go_enter Try.func124, Try.ntmps124
  go_wp2
  go_loop [5, 4, 6] (fun i k _ => ∃ n m : Nat, n ≤ s.size ∧ m ≤ 11 ∧ i = .int .i64 n ∧ k = .int .i64 m ∧ badL (s.data.toList.drop n) m = badL s.data.toList 0) (fun i _ _ => s.size - (intOf i).toNat)
  case atStart => exact ⟨0, 0, by omega, by omega, rfl, rfl, rfl⟩
  case round =>
    obtain ⟨n, m, hn, hm, rfl, rfl, hall⟩ := hrel
    have HA := Lib.hid hall
    clear hall
    by_cases hlt : n < s.size
    · by_cases hm2 : m < 11
      · by_cases h9 : ((s[n].toNat : Int) == 9) = true
        · have HK := Lib.hid (show skipB (s[n].toNat : Int) m = true by simp [skipB, h9])
          go_wp2
          go_round
          case rel => exact ⟨n + 1, m, by omega, by omega, by go_num, rfl, badL_skip hlt hm2 HK.out HA.out⟩
          case measure => simp [intOf]; omega
        · have h9' : ((s[n].toNat : Int) == 9) = false := by simpa using h9
          clear h9
          by_cases h10 : ((s[n].toNat : Int) == 10) = true
          · have HK := Lib.hid (show skipB (s[n].toNat : Int) m = true by simp [skipB, h10])
            go_wp2
            go_round
            case rel => exact ⟨n + 1, m, by omega, by omega, by go_num, rfl, badL_skip hlt hm2 HK.out HA.out⟩
            case measure => simp [intOf]; omega
          · have h10' : ((s[n].toNat : Int) == 10) = false := by simpa using h10
            clear h10
            by_cases h13 : ((s[n].toNat : Int) == 13) = true
            · have HK := Lib.hid (show skipB (s[n].toNat : Int) m = true by simp [skipB, h13])
              go_wp2
              go_round
              case rel => exact ⟨n + 1, m, by omega, by omega, by go_num, rfl, badL_skip hlt hm2 HK.out HA.out⟩
              case measure => simp [intOf]; omega
            · have h13' : ((s[n].toNat : Int) == 13) = false := by simpa using h13
              clear h13
              by_cases h32 : m = 0 ∧ (s[n].toNat : Int) ≤ 32
              · obtain ⟨hm0, h32⟩ := h32
                have HK := Lib.hid (show skipB (s[n].toNat : Int) m = true by simp [skipB, h32, hm0])
                have hm0' : ((m : Int) == 0) = true := by simp [hm0]
                clear hm0
                go_wp2
                go_round
                case rel => exact ⟨n + 1, m, by omega, by omega, by go_num, rfl, badL_skip hlt hm2 HK.out HA.out⟩
                case measure => simp [intOf]; omega
              · have HK := Lib.hid (show skipB (s[n].toNat : Int) m = false by simp [skipB]; simp at h9' h10' h13'; omega)
                have h32' : ((m : Int) == 0) = false ∨ (((m : Int) == 0) = true ∧ 32 < (s[n].toNat : Int)) := by
                  by_cases q : m = 0
                  · exact Or.inr ⟨by simp [q], by omega⟩
                  · exact Or.inl (by simp; omega)
                clear h32
                have hw : m < wantS.size := by rw [size_want]; exact hm2
                have HW := Lib.hid hw
                clear hw
                rcases h32' with q | ⟨q, q2⟩
                all_goals
                  by_cases hg : 65 ≤ (s[n].toNat : Int) ∧ (s[n].toNat : Int) ≤ 90
                  · obtain ⟨g1, g2⟩ := hg
                    go_wp2
                    · go_ret
                      exact ⟨ret_bool (badL_miss hlt hm2 HK.out (by rw [low_great g1 g2]; exact want_ne HW.out (by assumption)) HA.out), rfl⟩
                    · go_round
                      case rel => exact ⟨n + 1, m + 1, by omega, by omega, by go_num, by go_num, badL_hit hlt hm2 HK.out (by rw [low_great g1 g2]; exact want_eq HW.out (by assumption)) HA.out⟩
                      case measure => simp [intOf]; omega
                  · have HG := Lib.hid hg
                    have hg' : (s[n].toNat : Int) < 65 ∨ (65 ≤ (s[n].toNat : Int) ∧ decide ((s[n].toNat : Int) ≤ 90) = false) := by
                      by_cases q : (s[n].toNat : Int) < 65
                      · exact Or.inl q
                      · exact Or.inr ⟨by omega, by simp; omega⟩
                    clear hg
                    rcases hg' with q3 | ⟨q3, q4⟩
                    all_goals
                      go_wp2
                      · go_ret
                        exact ⟨ret_bool (badL_miss hlt hm2 HK.out (by rw [low_other HG.out]; exact want_ne HW.out (by assumption)) HA.out), rfl⟩
                      · go_round
                        case rel => exact ⟨n + 1, m + 1, by omega, by omega, by go_num, by go_num, badL_hit hlt hm2 HK.out (by rw [low_other HG.out]; exact want_eq HW.out (by assumption)) HA.out⟩
                        case measure => simp [intOf]; omega
      · obtain rfl : m = 11 := by omega
        go_wp2
        go_ret
        exact ⟨ret_bool (by rw [← HA.out, badL_full]), rfl⟩
    · obtain rfl : n = s.size := by omega
      go_wp2
      go_ret
      exact ⟨ret_bool (badL_end HA.out), rfl⟩
end Go.Proofs.Ytbcbmgeoaejlmaa
