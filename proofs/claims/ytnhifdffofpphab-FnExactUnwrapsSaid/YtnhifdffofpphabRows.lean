/-
  No cell of these rows narrows 'for every input' (looked for: loops, veiled, ifaces, maps, wideKeys, modest, calm, conditions, laid).
  DERIVED. THE GIVEN ROWS OF THIS SEAT. 4 by the template 'for every input the law returns true; each argument reads behind the call as it read before'; 0 by the template 'total and deterministic' (their statements: YtnhifdffofpphabTotals.lean).
  GIVEN WITH THE SEED: the statements are not yours to turn. If you find one false, say at which input.
  Laid BY PROGRAM, IN A SANDBOX (cutbox-rows.mjs): the forced cells as the released guide's own fill.sh prints them over the translation 90147da836c1dbfc… (all of the seat's roots in one cut). By AI agents, Wed Nov 11 2026. No macro, syntax, notation, axiom, sorry.
-/
import Derived.Test.YtnhifdffofpphabChecked
import GoSem.Claim
import GoSem.ClaimJoined
import GoSem.ClaimMapViews
import Derived.JoinedTies
import Derived.KernelRfl
namespace Go.Proofs.Ytnhifdffofpphab
/- THE CELL 'sum', in the pinned program and in every row, IS THE sha256 OF THE DUMP (.gsa) THAT YtnhifdffofpphabProg.lean LOADS. Nothing in Lean hashes anything: it is a label: what it is worth is what the hold of that sum in a sandbox is worth. -/
noncomputable def Try.pinned : Pinned := { name := "ytnhifdffofpphab", sum := "90147da836c1dbfcae6a2e41d4d7f271115cd5111dc4556ed745e7867d41370d", checked := Try.checked }
namespace Rows
def none {H : Type} : Left H := { results := [], args := [] }

/-- 'laws.FnExactAllowsElement': WHATEVER THE INPUT: true; the input reads as it did. -/
def fnExactAllowsElementSpec : ChangeSpec := { name := "fnExactAllowsElement", fn := fun _ => fun
  | [d1, d2, d3] => { results := [.lit (.bool true)], args := [d1, d2, d3] }
  | _ => none }
def fnExactAllowsElementRow : OpenClaim := { program := "ytnhifdffofpphab", sum := "90147da836c1dbfcae6a2e41d4d7f271115cd5111dc4556ed745e7867d41370d", func := "loop.example/g00788/laws.FnExactAllowsElement", spec := "fnExactAllowsElement", unfollowed := true, recurses := true, plainKeys := false, apart := false }
def FnExactAllowsElementSaid : Prop := fnExactAllowsElementRow.holds Try.pinned (OpenSpec.ofChange fnExactAllowsElementSpec)

/-- ITS FALSE NEIGHBOUR: 'it returns false'. Refute it at one input. -/
def fnExactAllowsElementWrong : ChangeSpec := { name := "fnExactAllowsElement", fn := fun _ => fun
  | [d1, d2, d3] => { results := [.lit (.bool false)], args := [d1, d2, d3] }
  | _ => none }
def FnExactAllowsElementWrongFalsely : Prop := fnExactAllowsElementRow.holds Try.pinned (OpenSpec.ofChange fnExactAllowsElementWrong)

/-- 'laws.FnExactAllowsAttr': WHATEVER THE INPUT: true; the input reads as it did. -/
def fnExactAllowsAttrSpec : ChangeSpec := { name := "fnExactAllowsAttr", fn := fun _ => fun
  | [d1, d2, d3, d4] => { results := [.lit (.bool true)], args := [d1, d2, d3, d4] }
  | _ => none }
def fnExactAllowsAttrRow : OpenClaim := { program := "ytnhifdffofpphab", sum := "90147da836c1dbfcae6a2e41d4d7f271115cd5111dc4556ed745e7867d41370d", func := "loop.example/g00788/laws.FnExactAllowsAttr", spec := "fnExactAllowsAttr", unfollowed := true, recurses := true, plainKeys := false, apart := false }
def FnExactAllowsAttrSaid : Prop := fnExactAllowsAttrRow.holds Try.pinned (OpenSpec.ofChange fnExactAllowsAttrSpec)

/-- ITS FALSE NEIGHBOUR: 'it returns false'. Refute it at one input. -/
def fnExactAllowsAttrWrong : ChangeSpec := { name := "fnExactAllowsAttr", fn := fun _ => fun
  | [d1, d2, d3, d4] => { results := [.lit (.bool false)], args := [d1, d2, d3, d4] }
  | _ => none }
def FnExactAllowsAttrWrongFalsely : Prop := fnExactAllowsAttrRow.holds Try.pinned (OpenSpec.ofChange fnExactAllowsAttrWrong)

/-- 'laws.FnExactUnwraps': WHATEVER THE INPUT: true; the input reads as it did. -/
def fnExactUnwrapsSpec : ChangeSpec := { name := "fnExactUnwraps", fn := fun _ => fun
  | [d1, d2, d3] => { results := [.lit (.bool true)], args := [d1, d2, d3] }
  | _ => none }
def fnExactUnwrapsRow : OpenClaim := { program := "ytnhifdffofpphab", sum := "90147da836c1dbfcae6a2e41d4d7f271115cd5111dc4556ed745e7867d41370d", func := "loop.example/g00788/laws.FnExactUnwraps", spec := "fnExactUnwraps", unfollowed := true, recurses := true, plainKeys := false, apart := false }
def FnExactUnwrapsSaid : Prop := fnExactUnwrapsRow.holds Try.pinned (OpenSpec.ofChange fnExactUnwrapsSpec)

/-- ITS FALSE NEIGHBOUR: 'it returns false'. Refute it at one input. -/
def fnExactUnwrapsWrong : ChangeSpec := { name := "fnExactUnwraps", fn := fun _ => fun
  | [d1, d2, d3] => { results := [.lit (.bool false)], args := [d1, d2, d3] }
  | _ => none }
def FnExactUnwrapsWrongFalsely : Prop := fnExactUnwrapsRow.holds Try.pinned (OpenSpec.ofChange fnExactUnwrapsWrong)

/-- 'laws.FnExactSameConfig': WHATEVER THE INPUT: true; the input reads as it did. -/
def fnExactSameConfigSpec : ChangeSpec := { name := "fnExactSameConfig", fn := fun _ => fun
  | [d1, d2] => { results := [.lit (.bool true)], args := [d1, d2] }
  | _ => none }
def fnExactSameConfigRow : OpenClaim := { program := "ytnhifdffofpphab", sum := "90147da836c1dbfcae6a2e41d4d7f271115cd5111dc4556ed745e7867d41370d", func := "loop.example/g00788/laws.FnExactSameConfig", spec := "fnExactSameConfig", unfollowed := true, recurses := true, plainKeys := false, apart := false }
def FnExactSameConfigSaid : Prop := fnExactSameConfigRow.holds Try.pinned (OpenSpec.ofChange fnExactSameConfigSpec)

/-- ITS FALSE NEIGHBOUR: 'it returns false'. Refute it at one input. -/
def fnExactSameConfigWrong : ChangeSpec := { name := "fnExactSameConfig", fn := fun _ => fun
  | [d1, d2] => { results := [.lit (.bool false)], args := [d1, d2] }
  | _ => none }
def FnExactSameConfigWrongFalsely : Prop := fnExactSameConfigRow.holds Try.pinned (OpenSpec.ofChange fnExactSameConfigWrong)

/- THE SECOND FORM. 'bulk': how many values and letters a reading holds, each counted each time it is reached (what is shared counts as often as it is met; a slice's spare places count too). A statement '..UptoSaid' is the law's where the arguments, and the package variables that the reading takes, are together of bulk at most 1048576: NARROWER than '..Said'. Prove '..Said' where nothing that the law and all that it calls make is longer than what came in: it says more and counts as full. Else prove '..UptoSaid'. A law counts once. -/
mutual
def uptoBulk {H : Type} : DataW H → Nat
  | .lit (.string bytes) => bytes.length + 1
  | .lit _ => 1
  | .nil => 1
  | .ptr d => uptoBulk d + 1
  | .slice elems spare => uptoBulkAll elems + uptoBulkAll spare + 1
  | .agg parts => uptoBulkAll parts + 1
  | .iface _ d => uptoBulk d + 1
  | .map entries => uptoBulkEntries entries + 1
  | .held _ => 1
def uptoBulkAll {H : Type} : List (DataW H) → Nat
  | [] => 0
  | d :: r => uptoBulk d + uptoBulkAll r
def uptoBulkEntries {H : Type} : List (Lit × DataW H) → Nat
  | [] => 0
  | x :: r => uptoBulkEntry x + uptoBulkEntries r
def uptoBulkEntry {H : Type} : Lit × DataW H → Nat
  | (.string bytes, d) => bytes.length + uptoBulk d + 1
  | (_, d) => uptoBulk d + 1
 end
def uptoSmall : (H : Type) → List (DataW H) → Bool := fun _ ds => decide (uptoBulkAll ds ≤ 1048576)
def OpenSpec.upto (s : _root_.Go.ChangeSpec) : _root_.Go.OpenSpec := { _root_.Go.OpenSpec.ofChange s with cond := some uptoSmall }

/-- 'laws.FnExactAllowsElement', WHERE WHAT IT READS IS OF BULK AT MOST 1048576: true; the input reads as it did. -/
def fnExactAllowsElementUptoRow : OpenClaim := { program := "ytnhifdffofpphab", sum := "90147da836c1dbfcae6a2e41d4d7f271115cd5111dc4556ed745e7867d41370d", func := "loop.example/g00788/laws.FnExactAllowsElement", spec := "fnExactAllowsElement", unfollowed := true, recurses := true, plainKeys := false, apart := false, narrowed := true }
def FnExactAllowsElementUptoSaid : Prop := fnExactAllowsElementUptoRow.holds Try.pinned (OpenSpec.upto fnExactAllowsElementSpec)

/-- 'laws.FnExactAllowsAttr', WHERE WHAT IT READS IS OF BULK AT MOST 1048576: true; the input reads as it did. -/
def fnExactAllowsAttrUptoRow : OpenClaim := { program := "ytnhifdffofpphab", sum := "90147da836c1dbfcae6a2e41d4d7f271115cd5111dc4556ed745e7867d41370d", func := "loop.example/g00788/laws.FnExactAllowsAttr", spec := "fnExactAllowsAttr", unfollowed := true, recurses := true, plainKeys := false, apart := false, narrowed := true }
def FnExactAllowsAttrUptoSaid : Prop := fnExactAllowsAttrUptoRow.holds Try.pinned (OpenSpec.upto fnExactAllowsAttrSpec)

/-- 'laws.FnExactUnwraps', WHERE WHAT IT READS IS OF BULK AT MOST 1048576: true; the input reads as it did. -/
def fnExactUnwrapsUptoRow : OpenClaim := { program := "ytnhifdffofpphab", sum := "90147da836c1dbfcae6a2e41d4d7f271115cd5111dc4556ed745e7867d41370d", func := "loop.example/g00788/laws.FnExactUnwraps", spec := "fnExactUnwraps", unfollowed := true, recurses := true, plainKeys := false, apart := false, narrowed := true }
def FnExactUnwrapsUptoSaid : Prop := fnExactUnwrapsUptoRow.holds Try.pinned (OpenSpec.upto fnExactUnwrapsSpec)

/-- 'laws.FnExactSameConfig', WHERE WHAT IT READS IS OF BULK AT MOST 1048576: true; the input reads as it did. -/
def fnExactSameConfigUptoRow : OpenClaim := { program := "ytnhifdffofpphab", sum := "90147da836c1dbfcae6a2e41d4d7f271115cd5111dc4556ed745e7867d41370d", func := "loop.example/g00788/laws.FnExactSameConfig", spec := "fnExactSameConfig", unfollowed := true, recurses := true, plainKeys := false, apart := false, narrowed := true }
def FnExactSameConfigUptoSaid : Prop := fnExactSameConfigUptoRow.holds Try.pinned (OpenSpec.upto fnExactSameConfigSpec)

end Rows
end Go.Proofs.Ytnhifdffofpphab
