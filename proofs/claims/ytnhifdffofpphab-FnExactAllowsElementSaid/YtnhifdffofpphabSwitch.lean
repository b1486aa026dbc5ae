
import Derived.Test.YtnhifdffofpphabHas
namespace Go.Proofs.Ytnhifdffofpphab
open Go.ChangeShapes Go.WideShapes Go.ChangeAt Go.RowKit

theorem beq_flip (a b : List UInt8) : (a == b) = (b == a) := by rw [Bool.eq_iff_iff, beq_iff_eq, beq_iff_eq]; exact eq_comm

def spaceI (s : ByteArray) : Int := if ([115, 118, 103] == s.toList) = true then 1 else if ([109, 97, 116, 104] == s.toList) = true then 2 else 0
/-- 'on' and something behind it -/
def handlerB (s : ByteArray) : Bool := decide (s.size ≤ 65536) && decide (2 < s.size) && ((s.extract 0 2).toList == [111, 110])
theorem implIsHandler_any (s : ByteArray) (w : World) (hs : s.size ≤ maxLen) :
    Calls Try.prog 77 #[.string s] w fun e w' => e = .returned (.bool (handlerB s)) ∧ w = w' := by
  unfold maxLen at hs
  by_cases h : s.size ≤ 65536
  · by_cases h2 : 2 < s.size
    · go_enter Try.func77, Try.ntmps77
      go_wp2
      go_ret
      exact ⟨ret_bool (by simp [handlerB, h, h2]), rfl⟩
    · go_enter Try.func77, Try.ntmps77
      go_wp2
      go_ret
      exact ⟨ret_bool (by simp [handlerB, h, h2]), rfl⟩
  · go_enter Try.func77, Try.ntmps77
    go_wp2
    go_ret
    exact ⟨ret_bool (by simp [handlerB, h]), rfl⟩
theorem l01Handler_any (s : ByteArray) (w : World) (hs : s.size ≤ 65536) :
    Calls Try.prog 53 #[.string s] w fun e w' => e = .returned (.bool (handlerB s)) ∧ w = w' := by
  by_cases h2 : 2 < s.size
  · go_enter Try.func53, Try.ntmps53
    go_wp2
    go_ret
    exact ⟨ret_bool (by simp [handlerB, hs, h2]), rfl⟩
  · go_enter Try.func53, Try.ntmps53
    go_wp2
    go_ret
    exact ⟨ret_bool (by simp [handlerB, hs, h2]), rfl⟩
end Go.Proofs.Ytnhifdffofpphab
