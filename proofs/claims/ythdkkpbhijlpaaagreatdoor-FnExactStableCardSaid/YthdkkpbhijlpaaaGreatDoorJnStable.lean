import Derived.Test.YthdkkpbhijlpaaaGreatDoorRows
import Derived.WalkKit
import Derived.ProofKit
import Derived.JoinedCond
namespace Go.Proofs.YthdkkpbhijlpaaaGreatDoor.fnExactStable
open Go.ChangeShapes Go.WideShapes
set_option maxHeartbeats 20000000 in
theorem joined:joinedFacts Tryz.prog 5 Tryz.f5 (OpenSpec.ofChange Rows.fnExactStableSpec).bare Rows.fnExactStableRow=true:=by
 simp only[joinedFacts,Bool.and_eq_true]
 repeat' apply And.intro
 all_goals (as_aux_lemma=>kernel_rfl)
end Go.Proofs.YthdkkpbhijlpaaaGreatDoor.fnExactStable
