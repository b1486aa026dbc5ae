
import Derived.Test.YtbcbmgeoaejlmaaBad
import Derived.WalkSmall
namespace Go.Proofs.Ytbcbmgeoaejlmaa
open Go.ChangeShapes Go.WideShapes Go.ChangeAt Go.RowKit

theorem lowerByte_q (c : Int) (h0 : 0 ≤ c) (h1 : c ≤ 255) (w : World) :
    Calls Try.prog 191 #[.int .u8 c] w fun e w' => e = .returned (.int .u8 (lowB c)) ∧ w' = w :=
  (lowerByte_any c h0 h1 w).mono fun _ _ ⟨a, b⟩ => ⟨a, b.symm⟩
def Drawn (w wr : World) : Prop := ∃ q, wr = w.drewN q
theorem Drawn.refl (w : World) : Drawn w w := ⟨0, rfl⟩
theorem Drawn.more {w wr : World} (h : Drawn w wr) (n : Nat) : Drawn w (wr.drewN n) := by obtain ⟨q, rfl⟩ := h; exact ⟨q + n, by rw [World.drewN_drewN]⟩
theorem byte_lo (b : UInt8) : (0 : Int) ≤ (b.toNat : Int) := by omega
theorem byte_hi (b : UInt8) : (b.toNat : Int) ≤ 255 := by have := b.toNat_lt; omega
def badB (s : ByteArray) : Bool := decide (s.size ≤ 65536) && badL s.data.toList 0

set_option maxHeartbeats 2000000 in
theorem implBadLink_any (s : ByteArray) (w : World) (hs : s.size ≤ maxLen) :
    Calls Try.prog 172 #[.string s] w fun e w' => e = .returned (.bool (badB s)) ∧ Drawn w w' := by
  unfold maxLen at hs
  by_cases hlen : (s.size : Int) ≤ 65536
  · have HB := Lib.hid (show badB s = badL s.data.toList 0 by rw [badB, decide_eq_true (by omega : s.size ≤ 65536)]; rfl)
    go_enter Try.func172, Try.ntmps172
    go_wp2
    go_loopw [4, 3, 5, 22, 29] (fun i k _ _ _ wr => ∃ n m : Nat, n ≤ s.size ∧ m ≤ 11 ∧ i = .int .i64 n ∧ k = .int .i64 m ∧ badL (s.data.toList.drop n) m = badL s.data.toList 0 ∧ Drawn w wr) (fun i _ _ _ _ _ => s.size - (intOf i).toNat)
    case atStart => exact ⟨0, 0, by omega, by omega, rfl, rfl, rfl, Drawn.refl _⟩
    case round =>
      obtain ⟨n, m, hn, hm, rfl, rfl, hall, hdr⟩ := hrel
      have HA := Lib.hid hall
      clear hall
      by_cases hlt : n < s.size
      · by_cases hm2 : m < 11
        · by_cases h9 : ((s[n].toNat : Int) == 9) = true
          · have HK := Lib.hid (show skipB (s[n].toNat : Int) m = true by simp [skipB, h9])
            go_wp2
            go_roundw
            case rel => exact ⟨n + 1, m, by omega, by omega, by go_num, rfl, badL_skip hlt hm2 HK.out HA.out, hdr⟩
            case measure => simp [intOf]; omega
          · have h9' : ((s[n].toNat : Int) == 9) = false := by simpa using h9
            clear h9
            by_cases h10 : ((s[n].toNat : Int) == 10) = true
            · have HK := Lib.hid (show skipB (s[n].toNat : Int) m = true by simp [skipB, h10])
              go_wp2
              go_roundw
              case rel => exact ⟨n + 1, m, by omega, by omega, by go_num, rfl, badL_skip hlt hm2 HK.out HA.out, hdr⟩
              case measure => simp [intOf]; omega
            · have h10' : ((s[n].toNat : Int) == 10) = false := by simpa using h10
              clear h10
              by_cases h13 : ((s[n].toNat : Int) == 13) = true
              · have HK := Lib.hid (show skipB (s[n].toNat : Int) m = true by simp [skipB, h13])
                go_wp2
                go_roundw
                case rel => exact ⟨n + 1, m, by omega, by omega, by go_num, rfl, badL_skip hlt hm2 HK.out HA.out, hdr⟩
                case measure => simp [intOf]; omega
              · have h13' : ((s[n].toNat : Int) == 13) = false := by simpa using h13
                clear h13
                by_cases h32 : (s[n].toNat : Int) ≤ 32
                · by_cases hm0 : m = 0
                  · have hm0' : ((m : Int) == 0) = true := by simp [hm0]
                    have HK := Lib.hid (show skipB (s[n].toNat : Int) m = true by simp [skipB, h32, hm0])
                    clear hm0
                    go_wp2
                    go_roundw
                    case rel => exact ⟨n + 1, m, by omega, by omega, by go_num, rfl, badL_skip hlt hm2 HK.out HA.out, hdr⟩
                    case measure => simp [intOf]; omega
                  · have hm0' : ((m : Int) == 0) = false := by simp; omega
                    have HK := Lib.hid (show skipB (s[n].toNat : Int) m = false by simp [skipB]; simp at h9' h10' h13'; omega)
                    have HW := Lib.hid (show m < wantS.size by rw [size_want]; exact hm2)
                    go_wp2
                    go_quiet ((go_at_call 191; exact Calls.quiet_of_same (lowerByte_q _ (byte_lo _) (byte_hi _) _)))
                    go_wp2
                    · go_ret
                      exact ⟨ret_bool (by rw [HB.out]; exact badL_miss hlt hm2 HK.out (want_ne HW.out (by assumption)) HA.out), hdr.more _⟩
                    · go_roundw
                      case rel => exact ⟨n + 1, m + 1, by omega, by omega, by go_num, by go_num, badL_hit hlt hm2 HK.out (want_eq HW.out (by assumption)) HA.out, hdr.more _⟩
                      case measure => simp [intOf]; omega
                · have HK := Lib.hid (show skipB (s[n].toNat : Int) m = false by simp [skipB]; simp at h9' h10' h13'; omega)
                  have HW := Lib.hid (show m < wantS.size by rw [size_want]; exact hm2)
                  go_wp2
                  go_quiet ((go_at_call 191; exact Calls.quiet_of_same (lowerByte_q _ (byte_lo _) (byte_hi _) _)))
                  go_wp2
                  · go_ret
                    exact ⟨ret_bool (by rw [HB.out]; exact badL_miss hlt hm2 HK.out (want_ne HW.out (by assumption)) HA.out), hdr.more _⟩
                  · go_roundw
                    case rel => exact ⟨n + 1, m + 1, by omega, by omega, by go_num, by go_num, badL_hit hlt hm2 HK.out (want_eq HW.out (by assumption)) HA.out, hdr.more _⟩
                    case measure => simp [intOf]; omega
        · obtain rfl : m = 11 := by omega
          go_wp2
          go_ret
          exact ⟨ret_bool (by rw [HB.out, ← HA.out, badL_full]), hdr⟩
      · obtain rfl : n = s.size := by omega
        go_wp2
        go_ret
        exact ⟨ret_bool (by rw [HB.out]; exact badL_end HA.out), hdr⟩
  · go_enter Try.func172, Try.ntmps172
    go_wp2
    go_ret
    exact ⟨ret_bool (by rw [badB, decide_eq_false (by omega)]; rfl), Drawn.refl _⟩
theorem Drawn.below {w wr : World} (h : Drawn w wr) (B : Nat) : Below B w wr := by obtain ⟨q, rfl⟩ := h; exact below_drewN (Below.refl _ _) q
end Go.Proofs.Ytbcbmgeoaejlmaa
