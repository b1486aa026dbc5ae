
import Derived.Test.YtgkpoimapmdogaaHas
namespace Go.Proofs.Ytgkpoimapmdogaa
open Go.ChangeShapes Go.WideShapes Go.ChangeAt Go.RowKit

theorem beq_flip (a b : List UInt8) : (a == b) = (b == a) := by rw [Bool.eq_iff_iff, beq_iff_eq, beq_iff_eq]; exact eq_comm

def spaceI (s : ByteArray) : Int := if ([115, 118, 103] == s.toList) = true then 1 else if ([109, 97, 116, 104] == s.toList) = true then 2 else 0
theorem implSpaceOf_any (s : ByteArray) (w : World) :
    Calls Try.prog 50 #[.string s] w fun e w' => e = .returned (.int .i64 (spaceI s)) ∧ w = w' := by
  go_enter Try.func50, Try.ntmps50
  go_wp2
  all_goals (go_ret; exact ⟨ret_int (by first | (simp only [spaceI, beq_flip _ s.toList, *]; rfl) | (exfalso; simp_all; done)), rfl⟩)
theorem l01Space_any (s : ByteArray) (w : World) :
    Calls Try.prog 35 #[.string s] w fun e w' => e = .returned (.int .i64 (spaceI s)) ∧ w = w' := by
  go_enter Try.func35, Try.ntmps35
  go_wp2
  all_goals (go_ret; exact ⟨ret_int (by first | (simp only [spaceI, beq_flip _ s.toList, *]; rfl) | (exfalso; simp_all; done)), rfl⟩)
/-- 'on' and something behind it -/
def handlerB (s : ByteArray) : Bool := decide (s.size ≤ 65536) && decide (2 < s.size) && ((s.extract 0 2).toList == [111, 110])
end Go.Proofs.Ytgkpoimapmdogaa
