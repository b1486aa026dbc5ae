
import Derived.Test.YtbcbmgeoaejlmaaHas
namespace Go.Proofs.Ytbcbmgeoaejlmaa
open Go.ChangeShapes Go.WideShapes Go.ChangeAt Go.RowKit

theorem beq_flip (a b : List UInt8) : (a == b) = (b == a) := by rw [Bool.eq_iff_iff, beq_iff_eq, beq_iff_eq]; exact eq_comm

theorem implIsVoid_any (s : ByteArray) (w : World) :
    Calls Try.prog 188 #[.string s] w fun e w' => e = .returned (.bool (inL voidL s)) ∧ w = w' := by
  go_enter Try.func188, Try.ntmps188
  go_wp2
  all_goals (go_ret; exact ⟨ret_bool (by first | (simp only [inL, voidL, List.any_cons, List.any_nil, beq_flip _ s.toList, *]; rfl) | (exfalso; simp_all; done)), rfl⟩)
theorem implIsRaw_any (s : ByteArray) (w : World) :
    Calls Try.prog 187 #[.string s] w fun e w' => e = .returned (.bool (inL rawL s)) ∧ w = w' := by
  go_enter Try.func187, Try.ntmps187
  go_wp2
  all_goals (go_ret; exact ⟨ret_bool (by first | (simp only [inL, rawL, List.any_cons, List.any_nil, beq_flip _ s.toList, *]; rfl) | (exfalso; simp_all; done)), rfl⟩)
def spaceI (s : ByteArray) : Int := if ([115, 118, 103] == s.toList) = true then 1 else if ([109, 97, 116, 104] == s.toList) = true then 2 else 0
/-- 'on' and something behind it -/
def handlerB (s : ByteArray) : Bool := decide (s.size ≤ 65536) && decide (2 < s.size) && ((s.extract 0 2).toList == [111, 110])
theorem implIsHandler_any (s : ByteArray) (w : World) (hs : s.size ≤ maxLen) :
    Calls Try.prog 170 #[.string s] w fun e w' => e = .returned (.bool (handlerB s)) ∧ w = w' := by
  unfold maxLen at hs
  by_cases h : s.size ≤ 65536
  · by_cases h2 : 2 < s.size
    · go_enter Try.func170, Try.ntmps170
      go_wp2
      go_ret
      exact ⟨ret_bool (by simp [handlerB, h, h2]), rfl⟩
    · go_enter Try.func170, Try.ntmps170
      go_wp2
      go_ret
      exact ⟨ret_bool (by simp [handlerB, h, h2]), rfl⟩
  · go_enter Try.func170, Try.ntmps170
    go_wp2
    go_ret
    exact ⟨ret_bool (by simp [handlerB, h]), rfl⟩
theorem l01Handler_any (s : ByteArray) (w : World) (hs : s.size ≤ 65536) :
    Calls Try.prog 122 #[.string s] w fun e w' => e = .returned (.bool (handlerB s)) ∧ w = w' := by
  by_cases h2 : 2 < s.size
  · go_enter Try.func122, Try.ntmps122
    go_wp2
    go_ret
    exact ⟨ret_bool (by simp [handlerB, hs, h2]), rfl⟩
  · go_enter Try.func122, Try.ntmps122
    go_wp2
    go_ret
    exact ⟨ret_bool (by simp [handlerB, hs, h2]), rfl⟩
end Go.Proofs.Ytbcbmgeoaejlmaa
