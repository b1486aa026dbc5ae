/-
  NARROWER THAN 'FOR EVERY INPUT', by the rows' own cells (each row's printed sentence says how): FnExactHarmless: loops · FnExactFirstHarm: loops · FnExactTreeOK: loops · FnExactCountOf: loops · FnExactDepthOf: loops · FnExactNamesIn: loops · FnExactSameTree: loops · FnExactTextOf: loops · FnExactNodeAt: loops.
  DERIVED. THE GIVEN ROWS OF THIS SEAT. 12 by the template 'for every input the law returns true; each argument reads behind the call as it read before'; 0 by the template 'total and deterministic' (their statements: YtbcbmgeoaejlmaaTotals.lean).
  GIVEN WITH THE SEED: the statements are not yours to turn. If you find one false, say at which input.
  Laid BY PROGRAM, IN A SANDBOX (cutbox-rows.mjs): the forced cells as the released guide's own fill.sh prints them over the translation fd8d5a785f0480bb… (all of the seat's roots in one cut). By AI agents, Wed Nov 11 2026. No macro, syntax, notation, axiom, sorry.
-/
import Derived.Test.YtbcbmgeoaejlmaaChecked
import GoSem.Claim
import GoSem.ClaimJoined
import GoSem.ClaimMapViews
import Derived.JoinedTies
import Derived.KernelRfl
namespace Go.Proofs.Ytbcbmgeoaejlmaa
/- THE CELL 'sum', in the pinned program and in every row, IS THE sha256 OF THE DUMP (.gsa) THAT YtbcbmgeoaejlmaaProg.lean LOADS. Nothing in Lean hashes anything: it is a label: what it is worth is what the hold of that sum in a sandbox is worth. -/
noncomputable def Try.pinned : Pinned := { name := "ytbcbmgeoaejlmaa", sum := "fd8d5a785f0480bb330da53da9cd77dd436329439ab986c7c454a4394742979c", checked := Try.checked }
namespace Rows
def none {H : Type} : Left H := { results := [], args := [] }

/-- 'laws.FnExactAllowsAttr': WHATEVER THE INPUT: true; the input reads as it did. -/
def fnExactAllowsAttrSpec : ChangeSpec := { name := "fnExactAllowsAttr", fn := fun _ => fun
  | [d1, d2, d3, d4] => { results := [.lit (.bool true)], args := [d1, d2, d3, d4] }
  | _ => none }
def fnExactAllowsAttrRow : OpenClaim := { program := "ytbcbmgeoaejlmaa", sum := "fd8d5a785f0480bb330da53da9cd77dd436329439ab986c7c454a4394742979c", func := "loop.example/g00788/laws.FnExactAllowsAttr", spec := "fnExactAllowsAttr", unfollowed := true, recurses := true, plainKeys := false, apart := false }
def FnExactAllowsAttrSaid : Prop := fnExactAllowsAttrRow.holds Try.pinned (OpenSpec.ofChange fnExactAllowsAttrSpec)

/-- ITS FALSE NEIGHBOUR: 'it returns false'. Refute it at one input. -/
def fnExactAllowsAttrWrong : ChangeSpec := { name := "fnExactAllowsAttr", fn := fun _ => fun
  | [d1, d2, d3, d4] => { results := [.lit (.bool false)], args := [d1, d2, d3, d4] }
  | _ => none }
def FnExactAllowsAttrWrongFalsely : Prop := fnExactAllowsAttrRow.holds Try.pinned (OpenSpec.ofChange fnExactAllowsAttrWrong)

/-- 'laws.FnExactSameConfig': WHATEVER THE INPUT: true; the input reads as it did. -/
def fnExactSameConfigSpec : ChangeSpec := { name := "fnExactSameConfig", fn := fun _ => fun
  | [d1, d2] => { results := [.lit (.bool true)], args := [d1, d2] }
  | _ => none }
def fnExactSameConfigRow : OpenClaim := { program := "ytbcbmgeoaejlmaa", sum := "fd8d5a785f0480bb330da53da9cd77dd436329439ab986c7c454a4394742979c", func := "loop.example/g00788/laws.FnExactSameConfig", spec := "fnExactSameConfig", unfollowed := true, recurses := true, plainKeys := false, apart := false }
def FnExactSameConfigSaid : Prop := fnExactSameConfigRow.holds Try.pinned (OpenSpec.ofChange fnExactSameConfigSpec)

/-- ITS FALSE NEIGHBOUR: 'it returns false'. Refute it at one input. -/
def fnExactSameConfigWrong : ChangeSpec := { name := "fnExactSameConfig", fn := fun _ => fun
  | [d1, d2] => { results := [.lit (.bool false)], args := [d1, d2] }
  | _ => none }
def FnExactSameConfigWrongFalsely : Prop := fnExactSameConfigRow.holds Try.pinned (OpenSpec.ofChange fnExactSameConfigWrong)

/-- 'laws.FnExactDefaultConfig': WHATEVER THE INPUT: true; the input reads as it did. -/
def fnExactDefaultConfigSpec : ChangeSpec := { name := "fnExactDefaultConfig", fn := fun _ => fun
  | [] => { results := [.lit (.bool true)], args := [] }
  | _ => none }
def fnExactDefaultConfigRow : OpenClaim := { program := "ytbcbmgeoaejlmaa", sum := "fd8d5a785f0480bb330da53da9cd77dd436329439ab986c7c454a4394742979c", func := "loop.example/g00788/laws.FnExactDefaultConfig", spec := "fnExactDefaultConfig", plainKeys := false, apart := false }
def FnExactDefaultConfigSaid : Prop := fnExactDefaultConfigRow.holds Try.pinned (OpenSpec.ofChange fnExactDefaultConfigSpec)

/-- ITS FALSE NEIGHBOUR: 'it returns false'. Refute it at one input. -/
def fnExactDefaultConfigWrong : ChangeSpec := { name := "fnExactDefaultConfig", fn := fun _ => fun
  | [] => { results := [.lit (.bool false)], args := [] }
  | _ => none }
def FnExactDefaultConfigWrongFalsely : Prop := fnExactDefaultConfigRow.holds Try.pinned (OpenSpec.ofChange fnExactDefaultConfigWrong)

/-- 'laws.FnExactHarmless': WHATEVER THE INPUT: true; the input reads as it did. -/
def fnExactHarmlessSpec : ChangeSpec := { name := "fnExactHarmless", fn := fun _ => fun
  | [d] => { results := [.lit (.bool true)], args := [d] }
  | _ => none }
def fnExactHarmlessRow : OpenClaim := { program := "ytbcbmgeoaejlmaa", sum := "fd8d5a785f0480bb330da53da9cd77dd436329439ab986c7c454a4394742979c", func := "loop.example/g00788/laws.FnExactHarmless", spec := "fnExactHarmless", unfollowed := true, recurses := true, loops := true, plainKeys := false, apart := false }
def FnExactHarmlessSaid : Prop := fnExactHarmlessRow.holds Try.pinned (OpenSpec.ofChange fnExactHarmlessSpec)

/-- ITS FALSE NEIGHBOUR: 'it returns false'. Refute it at one input. -/
def fnExactHarmlessWrong : ChangeSpec := { name := "fnExactHarmless", fn := fun _ => fun
  | [d] => { results := [.lit (.bool false)], args := [d] }
  | _ => none }
def FnExactHarmlessWrongFalsely : Prop := fnExactHarmlessRow.holds Try.pinned (OpenSpec.ofChange fnExactHarmlessWrong)

/-- 'laws.FnExactFirstHarm': WHATEVER THE INPUT: true; the input reads as it did. -/
def fnExactFirstHarmSpec : ChangeSpec := { name := "fnExactFirstHarm", fn := fun _ => fun
  | [d] => { results := [.lit (.bool true)], args := [d] }
  | _ => none }
def fnExactFirstHarmRow : OpenClaim := { program := "ytbcbmgeoaejlmaa", sum := "fd8d5a785f0480bb330da53da9cd77dd436329439ab986c7c454a4394742979c", func := "loop.example/g00788/laws.FnExactFirstHarm", spec := "fnExactFirstHarm", unfollowed := true, recurses := true, loops := true, plainKeys := false, apart := false }
def FnExactFirstHarmSaid : Prop := fnExactFirstHarmRow.holds Try.pinned (OpenSpec.ofChange fnExactFirstHarmSpec)

/-- ITS FALSE NEIGHBOUR: 'it returns false'. Refute it at one input. -/
def fnExactFirstHarmWrong : ChangeSpec := { name := "fnExactFirstHarm", fn := fun _ => fun
  | [d] => { results := [.lit (.bool false)], args := [d] }
  | _ => none }
def FnExactFirstHarmWrongFalsely : Prop := fnExactFirstHarmRow.holds Try.pinned (OpenSpec.ofChange fnExactFirstHarmWrong)

/-- 'laws.FnExactTreeOK': WHATEVER THE INPUT: true; the input reads as it did. -/
def fnExactTreeOKSpec : ChangeSpec := { name := "fnExactTreeOK", fn := fun _ => fun
  | [d] => { results := [.lit (.bool true)], args := [d] }
  | _ => none }
def fnExactTreeOKRow : OpenClaim := { program := "ytbcbmgeoaejlmaa", sum := "fd8d5a785f0480bb330da53da9cd77dd436329439ab986c7c454a4394742979c", func := "loop.example/g00788/laws.FnExactTreeOK", spec := "fnExactTreeOK", unfollowed := true, recurses := true, loops := true, plainKeys := false, apart := false }
def FnExactTreeOKSaid : Prop := fnExactTreeOKRow.holds Try.pinned (OpenSpec.ofChange fnExactTreeOKSpec)

/-- ITS FALSE NEIGHBOUR: 'it returns false'. Refute it at one input. -/
def fnExactTreeOKWrong : ChangeSpec := { name := "fnExactTreeOK", fn := fun _ => fun
  | [d] => { results := [.lit (.bool false)], args := [d] }
  | _ => none }
def FnExactTreeOKWrongFalsely : Prop := fnExactTreeOKRow.holds Try.pinned (OpenSpec.ofChange fnExactTreeOKWrong)

/-- 'laws.FnExactCountOf': WHATEVER THE INPUT: true; the input reads as it did. -/
def fnExactCountOfSpec : ChangeSpec := { name := "fnExactCountOf", fn := fun _ => fun
  | [d] => { results := [.lit (.bool true)], args := [d] }
  | _ => none }
def fnExactCountOfRow : OpenClaim := { program := "ytbcbmgeoaejlmaa", sum := "fd8d5a785f0480bb330da53da9cd77dd436329439ab986c7c454a4394742979c", func := "loop.example/g00788/laws.FnExactCountOf", spec := "fnExactCountOf", unfollowed := true, recurses := true, loops := true, plainKeys := false, apart := false }
def FnExactCountOfSaid : Prop := fnExactCountOfRow.holds Try.pinned (OpenSpec.ofChange fnExactCountOfSpec)

/-- ITS FALSE NEIGHBOUR: 'it returns false'. Refute it at one input. -/
def fnExactCountOfWrong : ChangeSpec := { name := "fnExactCountOf", fn := fun _ => fun
  | [d] => { results := [.lit (.bool false)], args := [d] }
  | _ => none }
def FnExactCountOfWrongFalsely : Prop := fnExactCountOfRow.holds Try.pinned (OpenSpec.ofChange fnExactCountOfWrong)

/-- 'laws.FnExactDepthOf': WHATEVER THE INPUT: true; the input reads as it did. -/
def fnExactDepthOfSpec : ChangeSpec := { name := "fnExactDepthOf", fn := fun _ => fun
  | [d] => { results := [.lit (.bool true)], args := [d] }
  | _ => none }
def fnExactDepthOfRow : OpenClaim := { program := "ytbcbmgeoaejlmaa", sum := "fd8d5a785f0480bb330da53da9cd77dd436329439ab986c7c454a4394742979c", func := "loop.example/g00788/laws.FnExactDepthOf", spec := "fnExactDepthOf", unfollowed := true, recurses := true, loops := true, plainKeys := false, apart := false }
def FnExactDepthOfSaid : Prop := fnExactDepthOfRow.holds Try.pinned (OpenSpec.ofChange fnExactDepthOfSpec)

/-- ITS FALSE NEIGHBOUR: 'it returns false'. Refute it at one input. -/
def fnExactDepthOfWrong : ChangeSpec := { name := "fnExactDepthOf", fn := fun _ => fun
  | [d] => { results := [.lit (.bool false)], args := [d] }
  | _ => none }
def FnExactDepthOfWrongFalsely : Prop := fnExactDepthOfRow.holds Try.pinned (OpenSpec.ofChange fnExactDepthOfWrong)

/-- 'laws.FnExactNamesIn': WHATEVER THE INPUT: true; the input reads as it did. -/
def fnExactNamesInSpec : ChangeSpec := { name := "fnExactNamesIn", fn := fun _ => fun
  | [d] => { results := [.lit (.bool true)], args := [d] }
  | _ => none }
def fnExactNamesInRow : OpenClaim := { program := "ytbcbmgeoaejlmaa", sum := "fd8d5a785f0480bb330da53da9cd77dd436329439ab986c7c454a4394742979c", func := "loop.example/g00788/laws.FnExactNamesIn", spec := "fnExactNamesIn", unfollowed := true, recurses := true, loops := true, plainKeys := false, apart := false }
def FnExactNamesInSaid : Prop := fnExactNamesInRow.holds Try.pinned (OpenSpec.ofChange fnExactNamesInSpec)

/-- ITS FALSE NEIGHBOUR: 'it returns false'. Refute it at one input. -/
def fnExactNamesInWrong : ChangeSpec := { name := "fnExactNamesIn", fn := fun _ => fun
  | [d] => { results := [.lit (.bool false)], args := [d] }
  | _ => none }
def FnExactNamesInWrongFalsely : Prop := fnExactNamesInRow.holds Try.pinned (OpenSpec.ofChange fnExactNamesInWrong)

/-- 'laws.FnExactSameTree': WHATEVER THE INPUT: true; the input reads as it did. -/
def fnExactSameTreeSpec : ChangeSpec := { name := "fnExactSameTree", fn := fun _ => fun
  | [d1, d2] => { results := [.lit (.bool true)], args := [d1, d2] }
  | _ => none }
def fnExactSameTreeRow : OpenClaim := { program := "ytbcbmgeoaejlmaa", sum := "fd8d5a785f0480bb330da53da9cd77dd436329439ab986c7c454a4394742979c", func := "loop.example/g00788/laws.FnExactSameTree", spec := "fnExactSameTree", unfollowed := true, recurses := true, loops := true, plainKeys := false, apart := false }
def FnExactSameTreeSaid : Prop := fnExactSameTreeRow.holds Try.pinned (OpenSpec.ofChange fnExactSameTreeSpec)

/-- ITS FALSE NEIGHBOUR: 'it returns false'. Refute it at one input. -/
def fnExactSameTreeWrong : ChangeSpec := { name := "fnExactSameTree", fn := fun _ => fun
  | [d1, d2] => { results := [.lit (.bool false)], args := [d1, d2] }
  | _ => none }
def FnExactSameTreeWrongFalsely : Prop := fnExactSameTreeRow.holds Try.pinned (OpenSpec.ofChange fnExactSameTreeWrong)

/-- 'laws.FnExactTextOf': WHATEVER THE INPUT: true; the input reads as it did. -/
def fnExactTextOfSpec : ChangeSpec := { name := "fnExactTextOf", fn := fun _ => fun
  | [d] => { results := [.lit (.bool true)], args := [d] }
  | _ => none }
def fnExactTextOfRow : OpenClaim := { program := "ytbcbmgeoaejlmaa", sum := "fd8d5a785f0480bb330da53da9cd77dd436329439ab986c7c454a4394742979c", func := "loop.example/g00788/laws.FnExactTextOf", spec := "fnExactTextOf", inPlace := ["internal/abi.NoEscape"], unfollowed := true, recurses := true, loops := true, plainKeys := false, apart := false }
def FnExactTextOfSaid : Prop := fnExactTextOfRow.holds Try.pinned (OpenSpec.ofChange fnExactTextOfSpec)

/-- ITS FALSE NEIGHBOUR: 'it returns false'. Refute it at one input. -/
def fnExactTextOfWrong : ChangeSpec := { name := "fnExactTextOf", fn := fun _ => fun
  | [d] => { results := [.lit (.bool false)], args := [d] }
  | _ => none }
def FnExactTextOfWrongFalsely : Prop := fnExactTextOfRow.holds Try.pinned (OpenSpec.ofChange fnExactTextOfWrong)

/-- 'laws.FnExactNodeAt': WHATEVER THE INPUT: true; the input reads as it did. -/
def fnExactNodeAtSpec : ChangeSpec := { name := "fnExactNodeAt", fn := fun _ => fun
  | [d1, d2] => { results := [.lit (.bool true)], args := [d1, d2] }
  | _ => none }
def fnExactNodeAtRow : OpenClaim := { program := "ytbcbmgeoaejlmaa", sum := "fd8d5a785f0480bb330da53da9cd77dd436329439ab986c7c454a4394742979c", func := "loop.example/g00788/laws.FnExactNodeAt", spec := "fnExactNodeAt", unfollowed := true, recurses := true, loops := true, plainKeys := false, apart := false }
def FnExactNodeAtSaid : Prop := fnExactNodeAtRow.holds Try.pinned (OpenSpec.ofChange fnExactNodeAtSpec)

/-- ITS FALSE NEIGHBOUR: 'it returns false'. Refute it at one input. -/
def fnExactNodeAtWrong : ChangeSpec := { name := "fnExactNodeAt", fn := fun _ => fun
  | [d1, d2] => { results := [.lit (.bool false)], args := [d1, d2] }
  | _ => none }
def FnExactNodeAtWrongFalsely : Prop := fnExactNodeAtRow.holds Try.pinned (OpenSpec.ofChange fnExactNodeAtWrong)

/- THE SECOND FORM. 'bulk': how many values and letters a reading holds, each counted each time it is reached (what is shared counts as often as it is met; a slice's spare places count too). A statement '..UptoSaid' is the law's where the arguments, and the package variables that the reading takes, are together of bulk at most 1048576: NARROWER than '..Said'. Prove '..Said' where nothing that the law and all that it calls make is longer than what came in: it says more and counts as full. Else prove '..UptoSaid'. A law counts once. -/
mutual
def uptoBulk {H : Type} : DataW H → Nat
  | .lit (.string bytes) => bytes.length + 1
  | .lit _ => 1
  | .nil => 1
  | .ptr d => uptoBulk d + 1
  | .slice elems spare => uptoBulkAll elems + uptoBulkAll spare + 1
  | .agg parts => uptoBulkAll parts + 1
  | .iface _ d => uptoBulk d + 1
  | .map entries => uptoBulkEntries entries + 1
  | .held _ => 1
def uptoBulkAll {H : Type} : List (DataW H) → Nat
  | [] => 0
  | d :: r => uptoBulk d + uptoBulkAll r
def uptoBulkEntries {H : Type} : List (Lit × DataW H) → Nat
  | [] => 0
  | x :: r => uptoBulkEntry x + uptoBulkEntries r
def uptoBulkEntry {H : Type} : Lit × DataW H → Nat
  | (.string bytes, d) => bytes.length + uptoBulk d + 1
  | (_, d) => uptoBulk d + 1
 end
def uptoSmall : (H : Type) → List (DataW H) → Bool := fun _ ds => decide (uptoBulkAll ds ≤ 1048576)
def OpenSpec.upto (s : _root_.Go.ChangeSpec) : _root_.Go.OpenSpec := { _root_.Go.OpenSpec.ofChange s with cond := some uptoSmall }

/-- 'laws.FnExactAllowsAttr', WHERE WHAT IT READS IS OF BULK AT MOST 1048576: true; the input reads as it did. -/
def fnExactAllowsAttrUptoRow : OpenClaim := { program := "ytbcbmgeoaejlmaa", sum := "fd8d5a785f0480bb330da53da9cd77dd436329439ab986c7c454a4394742979c", func := "loop.example/g00788/laws.FnExactAllowsAttr", spec := "fnExactAllowsAttr", unfollowed := true, recurses := true, plainKeys := false, apart := false, narrowed := true }
def FnExactAllowsAttrUptoSaid : Prop := fnExactAllowsAttrUptoRow.holds Try.pinned (OpenSpec.upto fnExactAllowsAttrSpec)

/-- 'laws.FnExactSameConfig', WHERE WHAT IT READS IS OF BULK AT MOST 1048576: true; the input reads as it did. -/
def fnExactSameConfigUptoRow : OpenClaim := { program := "ytbcbmgeoaejlmaa", sum := "fd8d5a785f0480bb330da53da9cd77dd436329439ab986c7c454a4394742979c", func := "loop.example/g00788/laws.FnExactSameConfig", spec := "fnExactSameConfig", unfollowed := true, recurses := true, plainKeys := false, apart := false, narrowed := true }
def FnExactSameConfigUptoSaid : Prop := fnExactSameConfigUptoRow.holds Try.pinned (OpenSpec.upto fnExactSameConfigSpec)

/-- 'laws.FnExactDefaultConfig', WHERE WHAT IT READS IS OF BULK AT MOST 1048576: true; the input reads as it did. -/
def fnExactDefaultConfigUptoRow : OpenClaim := { program := "ytbcbmgeoaejlmaa", sum := "fd8d5a785f0480bb330da53da9cd77dd436329439ab986c7c454a4394742979c", func := "loop.example/g00788/laws.FnExactDefaultConfig", spec := "fnExactDefaultConfig", plainKeys := false, apart := false, narrowed := true }
def FnExactDefaultConfigUptoSaid : Prop := fnExactDefaultConfigUptoRow.holds Try.pinned (OpenSpec.upto fnExactDefaultConfigSpec)

/-- 'laws.FnExactHarmless', WHERE WHAT IT READS IS OF BULK AT MOST 1048576: true; the input reads as it did. -/
def fnExactHarmlessUptoRow : OpenClaim := { program := "ytbcbmgeoaejlmaa", sum := "fd8d5a785f0480bb330da53da9cd77dd436329439ab986c7c454a4394742979c", func := "loop.example/g00788/laws.FnExactHarmless", spec := "fnExactHarmless", unfollowed := true, recurses := true, loops := true, plainKeys := false, apart := false, narrowed := true }
def FnExactHarmlessUptoSaid : Prop := fnExactHarmlessUptoRow.holds Try.pinned (OpenSpec.upto fnExactHarmlessSpec)

/-- 'laws.FnExactFirstHarm', WHERE WHAT IT READS IS OF BULK AT MOST 1048576: true; the input reads as it did. -/
def fnExactFirstHarmUptoRow : OpenClaim := { program := "ytbcbmgeoaejlmaa", sum := "fd8d5a785f0480bb330da53da9cd77dd436329439ab986c7c454a4394742979c", func := "loop.example/g00788/laws.FnExactFirstHarm", spec := "fnExactFirstHarm", unfollowed := true, recurses := true, loops := true, plainKeys := false, apart := false, narrowed := true }
def FnExactFirstHarmUptoSaid : Prop := fnExactFirstHarmUptoRow.holds Try.pinned (OpenSpec.upto fnExactFirstHarmSpec)

/-- 'laws.FnExactTreeOK', WHERE WHAT IT READS IS OF BULK AT MOST 1048576: true; the input reads as it did. -/
def fnExactTreeOKUptoRow : OpenClaim := { program := "ytbcbmgeoaejlmaa", sum := "fd8d5a785f0480bb330da53da9cd77dd436329439ab986c7c454a4394742979c", func := "loop.example/g00788/laws.FnExactTreeOK", spec := "fnExactTreeOK", unfollowed := true, recurses := true, loops := true, plainKeys := false, apart := false, narrowed := true }
def FnExactTreeOKUptoSaid : Prop := fnExactTreeOKUptoRow.holds Try.pinned (OpenSpec.upto fnExactTreeOKSpec)

/-- 'laws.FnExactCountOf', WHERE WHAT IT READS IS OF BULK AT MOST 1048576: true; the input reads as it did. -/
def fnExactCountOfUptoRow : OpenClaim := { program := "ytbcbmgeoaejlmaa", sum := "fd8d5a785f0480bb330da53da9cd77dd436329439ab986c7c454a4394742979c", func := "loop.example/g00788/laws.FnExactCountOf", spec := "fnExactCountOf", unfollowed := true, recurses := true, loops := true, plainKeys := false, apart := false, narrowed := true }
def FnExactCountOfUptoSaid : Prop := fnExactCountOfUptoRow.holds Try.pinned (OpenSpec.upto fnExactCountOfSpec)

/-- 'laws.FnExactDepthOf', WHERE WHAT IT READS IS OF BULK AT MOST 1048576: true; the input reads as it did. -/
def fnExactDepthOfUptoRow : OpenClaim := { program := "ytbcbmgeoaejlmaa", sum := "fd8d5a785f0480bb330da53da9cd77dd436329439ab986c7c454a4394742979c", func := "loop.example/g00788/laws.FnExactDepthOf", spec := "fnExactDepthOf", unfollowed := true, recurses := true, loops := true, plainKeys := false, apart := false, narrowed := true }
def FnExactDepthOfUptoSaid : Prop := fnExactDepthOfUptoRow.holds Try.pinned (OpenSpec.upto fnExactDepthOfSpec)

/-- 'laws.FnExactNamesIn', WHERE WHAT IT READS IS OF BULK AT MOST 1048576: true; the input reads as it did. -/
def fnExactNamesInUptoRow : OpenClaim := { program := "ytbcbmgeoaejlmaa", sum := "fd8d5a785f0480bb330da53da9cd77dd436329439ab986c7c454a4394742979c", func := "loop.example/g00788/laws.FnExactNamesIn", spec := "fnExactNamesIn", unfollowed := true, recurses := true, loops := true, plainKeys := false, apart := false, narrowed := true }
def FnExactNamesInUptoSaid : Prop := fnExactNamesInUptoRow.holds Try.pinned (OpenSpec.upto fnExactNamesInSpec)

/-- 'laws.FnExactSameTree', WHERE WHAT IT READS IS OF BULK AT MOST 1048576: true; the input reads as it did. -/
def fnExactSameTreeUptoRow : OpenClaim := { program := "ytbcbmgeoaejlmaa", sum := "fd8d5a785f0480bb330da53da9cd77dd436329439ab986c7c454a4394742979c", func := "loop.example/g00788/laws.FnExactSameTree", spec := "fnExactSameTree", unfollowed := true, recurses := true, loops := true, plainKeys := false, apart := false, narrowed := true }
def FnExactSameTreeUptoSaid : Prop := fnExactSameTreeUptoRow.holds Try.pinned (OpenSpec.upto fnExactSameTreeSpec)

/-- 'laws.FnExactTextOf', WHERE WHAT IT READS IS OF BULK AT MOST 1048576: true; the input reads as it did. -/
def fnExactTextOfUptoRow : OpenClaim := { program := "ytbcbmgeoaejlmaa", sum := "fd8d5a785f0480bb330da53da9cd77dd436329439ab986c7c454a4394742979c", func := "loop.example/g00788/laws.FnExactTextOf", spec := "fnExactTextOf", inPlace := ["internal/abi.NoEscape"], unfollowed := true, recurses := true, loops := true, plainKeys := false, apart := false, narrowed := true }
def FnExactTextOfUptoSaid : Prop := fnExactTextOfUptoRow.holds Try.pinned (OpenSpec.upto fnExactTextOfSpec)

/-- 'laws.FnExactNodeAt', WHERE WHAT IT READS IS OF BULK AT MOST 1048576: true; the input reads as it did. -/
def fnExactNodeAtUptoRow : OpenClaim := { program := "ytbcbmgeoaejlmaa", sum := "fd8d5a785f0480bb330da53da9cd77dd436329439ab986c7c454a4394742979c", func := "loop.example/g00788/laws.FnExactNodeAt", spec := "fnExactNodeAt", unfollowed := true, recurses := true, loops := true, plainKeys := false, apart := false, narrowed := true }
def FnExactNodeAtUptoSaid : Prop := fnExactNodeAtUptoRow.holds Try.pinned (OpenSpec.upto fnExactNodeAtSpec)

end Rows
end Go.Proofs.Ytbcbmgeoaejlmaa
