
import Derived.Test.YtnhifdffofpphaaHas
namespace Go.Proofs.Ytnhifdffofpphaa
open Go.ChangeShapes Go.WideShapes Go.ChangeAt Go.RowKit

theorem beq_flip (a b : List UInt8) : (a == b) = (b == a) := by rw [Bool.eq_iff_iff, beq_iff_eq, beq_iff_eq]; exact eq_comm

def spaceI (s : ByteArray) : Int := if ([115, 118, 103] == s.toList) = true then 1 else if ([109, 97, 116, 104] == s.toList) = true then 2 else 0
/-- 'on' and something behind it -/
def handlerB (s : ByteArray) : Bool := decide (s.size ≤ 65536) && decide (2 < s.size) && ((s.extract 0 2).toList == [111, 110])
end Go.Proofs.Ytnhifdffofpphaa
