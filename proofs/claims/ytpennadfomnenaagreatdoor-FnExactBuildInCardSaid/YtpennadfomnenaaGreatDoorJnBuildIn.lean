import Derived.Test.YtpennadfomnenaaGreatDoorRows
import Derived.WalkKit
import Derived.ProofKit
import Derived.JoinedCond
namespace Go.Proofs.YtpennadfomnenaaGreatDoor.fnExactBuildIn
open Go.ChangeShapes Go.WideShapes

set_option maxHeartbeats 20000000 in
/-- the row's closed cells are what the program has -/
theorem joined : joinedFacts Tryz.prog 8 Tryz.f8 (OpenSpec.ofChange Rows.fnExactBuildInSpec).bare Rows.fnExactBuildInRow = true := by
  simp only [joinedFacts, Bool.and_eq_true]
  repeat' apply And.intro
  all_goals (as_aux_lemma => kernel_rfl)
end Go.Proofs.YtpennadfomnenaaGreatDoor.fnExactBuildIn
