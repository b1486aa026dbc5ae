/-
  No cell of these rows narrows 'for every input' (looked for: loops, veiled, ifaces, maps, wideKeys, modest, calm, conditions, laid).
  DERIVED. THE GIVEN ROWS OF THIS SEAT. 13 by the template 'for every input the law returns true; each argument reads behind the call as it read before'; 0 by the template 'total and deterministic' (their statements: YtmijagdlbpepcaaTotals.lean).
  GIVEN WITH THE SEED: the statements are not yours to turn. If you find one false, say at which input.
  Laid BY PROGRAM, IN A SANDBOX (cutbox-rows.mjs): the forced cells as the released guide's own fill.sh prints them over the translation 105067bbd4a67dad… (all of the seat's roots in one cut). By AI agents, Wed Nov 11 2026. No macro, syntax, notation, axiom, sorry.
-/
import Derived.Test.YtmijagdlbpepcaaChecked
import GoSem.Claim
import GoSem.ClaimJoined
import GoSem.ClaimMapViews
import Derived.JoinedTies
import Derived.KernelRfl
namespace Go.Proofs.Ytmijagdlbpepcaa
/- THE CELL 'sum', in the pinned program and in every row, IS THE sha256 OF THE DUMP (.gsa) THAT YtmijagdlbpepcaaProg.lean LOADS. Nothing in Lean hashes anything: it is a label: what it is worth is what the hold of that sum in a sandbox is worth. -/
noncomputable def Try.pinned : Pinned := { name := "ytmijagdlbpepcaa", sum := "105067bbd4a67dad06e10fc97673393f02da788261f2b5cb639e503869b88d20", checked := Try.checked }
namespace Rows
def none {H : Type} : Left H := { results := [], args := [] }

/-- 'laws.FnNames': WHATEVER THE INPUT: true; the input reads as it did. -/
def fnNamesSpec : ChangeSpec := { name := "fnNames", fn := fun _ => fun
  | [d1, d2] => { results := [.lit (.bool true)], args := [d1, d2] }
  | _ => none }
def fnNamesRow : OpenClaim := { program := "ytmijagdlbpepcaa", sum := "105067bbd4a67dad06e10fc97673393f02da788261f2b5cb639e503869b88d20", func := "loop.example/g00788/laws.FnNames", spec := "fnNames", unfollowed := true, recurses := true, apart := false }
def FnNamesSaid : Prop := fnNamesRow.holds Try.pinned (OpenSpec.ofChange fnNamesSpec)

/-- ITS FALSE NEIGHBOUR: 'it returns false'. Refute it at one input. -/
def fnNamesWrong : ChangeSpec := { name := "fnNames", fn := fun _ => fun
  | [d1, d2] => { results := [.lit (.bool false)], args := [d1, d2] }
  | _ => none }
def FnNamesWrongFalsely : Prop := fnNamesRow.holds Try.pinned (OpenSpec.ofChange fnNamesWrong)

/-- 'laws.FnLinks': WHATEVER THE INPUT: true; the input reads as it did. -/
def fnLinksSpec : ChangeSpec := { name := "fnLinks", fn := fun _ => fun
  | [d1, d2] => { results := [.lit (.bool true)], args := [d1, d2] }
  | _ => none }
def fnLinksRow : OpenClaim := { program := "ytmijagdlbpepcaa", sum := "105067bbd4a67dad06e10fc97673393f02da788261f2b5cb639e503869b88d20", func := "loop.example/g00788/laws.FnLinks", spec := "fnLinks", apart := false }
def FnLinksSaid : Prop := fnLinksRow.holds Try.pinned (OpenSpec.ofChange fnLinksSpec)

/-- ITS FALSE NEIGHBOUR: 'it returns false'. Refute it at one input. -/
def fnLinksWrong : ChangeSpec := { name := "fnLinks", fn := fun _ => fun
  | [d1, d2] => { results := [.lit (.bool false)], args := [d1, d2] }
  | _ => none }
def FnLinksWrongFalsely : Prop := fnLinksRow.holds Try.pinned (OpenSpec.ofChange fnLinksWrong)

/-- 'laws.FnExactNameOK': WHATEVER THE INPUT: true; the input reads as it did. -/
def fnExactNameOKSpec : ChangeSpec := { name := "fnExactNameOK", fn := fun _ => fun
  | [d] => { results := [.lit (.bool true)], args := [d] }
  | _ => none }
def fnExactNameOKRow : OpenClaim := { program := "ytmijagdlbpepcaa", sum := "105067bbd4a67dad06e10fc97673393f02da788261f2b5cb639e503869b88d20", func := "loop.example/g00788/laws.FnExactNameOK", spec := "fnExactNameOK", unfollowed := true, recurses := true, apart := false }
def FnExactNameOKSaid : Prop := fnExactNameOKRow.holds Try.pinned (OpenSpec.ofChange fnExactNameOKSpec)

/-- ITS FALSE NEIGHBOUR: 'it returns false'. Refute it at one input. -/
def fnExactNameOKWrong : ChangeSpec := { name := "fnExactNameOK", fn := fun _ => fun
  | [d] => { results := [.lit (.bool false)], args := [d] }
  | _ => none }
def FnExactNameOKWrongFalsely : Prop := fnExactNameOKRow.holds Try.pinned (OpenSpec.ofChange fnExactNameOKWrong)

/-- 'laws.FnExactTagOK': WHATEVER THE INPUT: true; the input reads as it did. -/
def fnExactTagOKSpec : ChangeSpec := { name := "fnExactTagOK", fn := fun _ => fun
  | [d] => { results := [.lit (.bool true)], args := [d] }
  | _ => none }
def fnExactTagOKRow : OpenClaim := { program := "ytmijagdlbpepcaa", sum := "105067bbd4a67dad06e10fc97673393f02da788261f2b5cb639e503869b88d20", func := "loop.example/g00788/laws.FnExactTagOK", spec := "fnExactTagOK", unfollowed := true, recurses := true, apart := false }
def FnExactTagOKSaid : Prop := fnExactTagOKRow.holds Try.pinned (OpenSpec.ofChange fnExactTagOKSpec)

/-- ITS FALSE NEIGHBOUR: 'it returns false'. Refute it at one input. -/
def fnExactTagOKWrong : ChangeSpec := { name := "fnExactTagOK", fn := fun _ => fun
  | [d] => { results := [.lit (.bool false)], args := [d] }
  | _ => none }
def FnExactTagOKWrongFalsely : Prop := fnExactTagOKRow.holds Try.pinned (OpenSpec.ofChange fnExactTagOKWrong)

/-- 'laws.FnExactLowerOf': WHATEVER THE INPUT: true; the input reads as it did. -/
def fnExactLowerOfSpec : ChangeSpec := { name := "fnExactLowerOf", fn := fun _ => fun
  | [d] => { results := [.lit (.bool true)], args := [d] }
  | _ => none }
def fnExactLowerOfRow : OpenClaim := { program := "ytmijagdlbpepcaa", sum := "105067bbd4a67dad06e10fc97673393f02da788261f2b5cb639e503869b88d20", func := "loop.example/g00788/laws.FnExactLowerOf", spec := "fnExactLowerOf", apart := false }
def FnExactLowerOfSaid : Prop := fnExactLowerOfRow.holds Try.pinned (OpenSpec.ofChange fnExactLowerOfSpec)

/-- ITS FALSE NEIGHBOUR: 'it returns false'. Refute it at one input. -/
def fnExactLowerOfWrong : ChangeSpec := { name := "fnExactLowerOf", fn := fun _ => fun
  | [d] => { results := [.lit (.bool false)], args := [d] }
  | _ => none }
def FnExactLowerOfWrongFalsely : Prop := fnExactLowerOfRow.holds Try.pinned (OpenSpec.ofChange fnExactLowerOfWrong)

/-- 'laws.FnExactIsVoid': WHATEVER THE INPUT: true; the input reads as it did. -/
def fnExactIsVoidSpec : ChangeSpec := { name := "fnExactIsVoid", fn := fun _ => fun
  | [d] => { results := [.lit (.bool true)], args := [d] }
  | _ => none }
def fnExactIsVoidRow : OpenClaim := { program := "ytmijagdlbpepcaa", sum := "105067bbd4a67dad06e10fc97673393f02da788261f2b5cb639e503869b88d20", func := "loop.example/g00788/laws.FnExactIsVoid", spec := "fnExactIsVoid", apart := false }
def FnExactIsVoidSaid : Prop := fnExactIsVoidRow.holds Try.pinned (OpenSpec.ofChange fnExactIsVoidSpec)

/-- ITS FALSE NEIGHBOUR: 'it returns false'. Refute it at one input. -/
def fnExactIsVoidWrong : ChangeSpec := { name := "fnExactIsVoid", fn := fun _ => fun
  | [d] => { results := [.lit (.bool false)], args := [d] }
  | _ => none }
def FnExactIsVoidWrongFalsely : Prop := fnExactIsVoidRow.holds Try.pinned (OpenSpec.ofChange fnExactIsVoidWrong)

/-- 'laws.FnExactIsRaw': WHATEVER THE INPUT: true; the input reads as it did. -/
def fnExactIsRawSpec : ChangeSpec := { name := "fnExactIsRaw", fn := fun _ => fun
  | [d] => { results := [.lit (.bool true)], args := [d] }
  | _ => none }
def fnExactIsRawRow : OpenClaim := { program := "ytmijagdlbpepcaa", sum := "105067bbd4a67dad06e10fc97673393f02da788261f2b5cb639e503869b88d20", func := "loop.example/g00788/laws.FnExactIsRaw", spec := "fnExactIsRaw", apart := false }
def FnExactIsRawSaid : Prop := fnExactIsRawRow.holds Try.pinned (OpenSpec.ofChange fnExactIsRawSpec)

/-- ITS FALSE NEIGHBOUR: 'it returns false'. Refute it at one input. -/
def fnExactIsRawWrong : ChangeSpec := { name := "fnExactIsRaw", fn := fun _ => fun
  | [d] => { results := [.lit (.bool false)], args := [d] }
  | _ => none }
def FnExactIsRawWrongFalsely : Prop := fnExactIsRawRow.holds Try.pinned (OpenSpec.ofChange fnExactIsRawWrong)

/-- 'laws.FnExactBreaksOut': WHATEVER THE INPUT: true; the input reads as it did. -/
def fnExactBreaksOutSpec : ChangeSpec := { name := "fnExactBreaksOut", fn := fun _ => fun
  | [d] => { results := [.lit (.bool true)], args := [d] }
  | _ => none }
def fnExactBreaksOutRow : OpenClaim := { program := "ytmijagdlbpepcaa", sum := "105067bbd4a67dad06e10fc97673393f02da788261f2b5cb639e503869b88d20", func := "loop.example/g00788/laws.FnExactBreaksOut", spec := "fnExactBreaksOut", apart := false }
def FnExactBreaksOutSaid : Prop := fnExactBreaksOutRow.holds Try.pinned (OpenSpec.ofChange fnExactBreaksOutSpec)

/-- ITS FALSE NEIGHBOUR: 'it returns false'. Refute it at one input. -/
def fnExactBreaksOutWrong : ChangeSpec := { name := "fnExactBreaksOut", fn := fun _ => fun
  | [d] => { results := [.lit (.bool false)], args := [d] }
  | _ => none }
def FnExactBreaksOutWrongFalsely : Prop := fnExactBreaksOutRow.holds Try.pinned (OpenSpec.ofChange fnExactBreaksOutWrong)

/-- 'laws.FnExactIsBanned': WHATEVER THE INPUT: true; the input reads as it did. -/
def fnExactIsBannedSpec : ChangeSpec := { name := "fnExactIsBanned", fn := fun _ => fun
  | [d] => { results := [.lit (.bool true)], args := [d] }
  | _ => none }
def fnExactIsBannedRow : OpenClaim := { program := "ytmijagdlbpepcaa", sum := "105067bbd4a67dad06e10fc97673393f02da788261f2b5cb639e503869b88d20", func := "loop.example/g00788/laws.FnExactIsBanned", spec := "fnExactIsBanned", apart := false }
def FnExactIsBannedSaid : Prop := fnExactIsBannedRow.holds Try.pinned (OpenSpec.ofChange fnExactIsBannedSpec)

/-- ITS FALSE NEIGHBOUR: 'it returns false'. Refute it at one input. -/
def fnExactIsBannedWrong : ChangeSpec := { name := "fnExactIsBanned", fn := fun _ => fun
  | [d] => { results := [.lit (.bool false)], args := [d] }
  | _ => none }
def FnExactIsBannedWrongFalsely : Prop := fnExactIsBannedRow.holds Try.pinned (OpenSpec.ofChange fnExactIsBannedWrong)

/-- 'laws.FnExactIsHandler': WHATEVER THE INPUT: true; the input reads as it did. -/
def fnExactIsHandlerSpec : ChangeSpec := { name := "fnExactIsHandler", fn := fun _ => fun
  | [d] => { results := [.lit (.bool true)], args := [d] }
  | _ => none }
def fnExactIsHandlerRow : OpenClaim := { program := "ytmijagdlbpepcaa", sum := "105067bbd4a67dad06e10fc97673393f02da788261f2b5cb639e503869b88d20", func := "loop.example/g00788/laws.FnExactIsHandler", spec := "fnExactIsHandler", apart := false }
def FnExactIsHandlerSaid : Prop := fnExactIsHandlerRow.holds Try.pinned (OpenSpec.ofChange fnExactIsHandlerSpec)

/-- ITS FALSE NEIGHBOUR: 'it returns false'. Refute it at one input. -/
def fnExactIsHandlerWrong : ChangeSpec := { name := "fnExactIsHandler", fn := fun _ => fun
  | [d] => { results := [.lit (.bool false)], args := [d] }
  | _ => none }
def FnExactIsHandlerWrongFalsely : Prop := fnExactIsHandlerRow.holds Try.pinned (OpenSpec.ofChange fnExactIsHandlerWrong)

/-- 'laws.FnExactIsLink': WHATEVER THE INPUT: true; the input reads as it did. -/
def fnExactIsLinkSpec : ChangeSpec := { name := "fnExactIsLink", fn := fun _ => fun
  | [d] => { results := [.lit (.bool true)], args := [d] }
  | _ => none }
def fnExactIsLinkRow : OpenClaim := { program := "ytmijagdlbpepcaa", sum := "105067bbd4a67dad06e10fc97673393f02da788261f2b5cb639e503869b88d20", func := "loop.example/g00788/laws.FnExactIsLink", spec := "fnExactIsLink", apart := false }
def FnExactIsLinkSaid : Prop := fnExactIsLinkRow.holds Try.pinned (OpenSpec.ofChange fnExactIsLinkSpec)

/-- ITS FALSE NEIGHBOUR: 'it returns false'. Refute it at one input. -/
def fnExactIsLinkWrong : ChangeSpec := { name := "fnExactIsLink", fn := fun _ => fun
  | [d] => { results := [.lit (.bool false)], args := [d] }
  | _ => none }
def FnExactIsLinkWrongFalsely : Prop := fnExactIsLinkRow.holds Try.pinned (OpenSpec.ofChange fnExactIsLinkWrong)

/-- 'laws.FnExactBadLink': WHATEVER THE INPUT: true; the input reads as it did. -/
def fnExactBadLinkSpec : ChangeSpec := { name := "fnExactBadLink", fn := fun _ => fun
  | [d] => { results := [.lit (.bool true)], args := [d] }
  | _ => none }
def fnExactBadLinkRow : OpenClaim := { program := "ytmijagdlbpepcaa", sum := "105067bbd4a67dad06e10fc97673393f02da788261f2b5cb639e503869b88d20", func := "loop.example/g00788/laws.FnExactBadLink", spec := "fnExactBadLink", apart := false }
def FnExactBadLinkSaid : Prop := fnExactBadLinkRow.holds Try.pinned (OpenSpec.ofChange fnExactBadLinkSpec)

/-- ITS FALSE NEIGHBOUR: 'it returns false'. Refute it at one input. -/
def fnExactBadLinkWrong : ChangeSpec := { name := "fnExactBadLink", fn := fun _ => fun
  | [d] => { results := [.lit (.bool false)], args := [d] }
  | _ => none }
def FnExactBadLinkWrongFalsely : Prop := fnExactBadLinkRow.holds Try.pinned (OpenSpec.ofChange fnExactBadLinkWrong)

/-- 'laws.FnExactSpaceOf': WHATEVER THE INPUT: true; the input reads as it did. -/
def fnExactSpaceOfSpec : ChangeSpec := { name := "fnExactSpaceOf", fn := fun _ => fun
  | [d] => { results := [.lit (.bool true)], args := [d] }
  | _ => none }
def fnExactSpaceOfRow : OpenClaim := { program := "ytmijagdlbpepcaa", sum := "105067bbd4a67dad06e10fc97673393f02da788261f2b5cb639e503869b88d20", func := "loop.example/g00788/laws.FnExactSpaceOf", spec := "fnExactSpaceOf", apart := false }
def FnExactSpaceOfSaid : Prop := fnExactSpaceOfRow.holds Try.pinned (OpenSpec.ofChange fnExactSpaceOfSpec)

/-- ITS FALSE NEIGHBOUR: 'it returns false'. Refute it at one input. -/
def fnExactSpaceOfWrong : ChangeSpec := { name := "fnExactSpaceOf", fn := fun _ => fun
  | [d] => { results := [.lit (.bool false)], args := [d] }
  | _ => none }
def FnExactSpaceOfWrongFalsely : Prop := fnExactSpaceOfRow.holds Try.pinned (OpenSpec.ofChange fnExactSpaceOfWrong)

/- THE SECOND FORM. 'bulk': how many values and letters a reading holds, each counted each time it is reached (what is shared counts as often as it is met; a slice's spare places count too). A statement '..UptoSaid' is the law's where the arguments, and the package variables that the reading takes, are together of bulk at most 1048576: NARROWER than '..Said'. Prove '..Said' where nothing that the law and all that it calls make is longer than what came in: it says more and counts as full. Else prove '..UptoSaid'. A law counts once. -/
mutual
def uptoBulk {H : Type} : DataW H → Nat
  | .lit (.string bytes) => bytes.length + 1
  | .lit _ => 1
  | .nil => 1
  | .ptr d => uptoBulk d + 1
  | .slice elems spare => uptoBulkAll elems + uptoBulkAll spare + 1
  | .agg parts => uptoBulkAll parts + 1
  | .iface _ d => uptoBulk d + 1
  | .map entries => uptoBulkEntries entries + 1
  | .held _ => 1
def uptoBulkAll {H : Type} : List (DataW H) → Nat
  | [] => 0
  | d :: r => uptoBulk d + uptoBulkAll r
def uptoBulkEntries {H : Type} : List (Lit × DataW H) → Nat
  | [] => 0
  | x :: r => uptoBulkEntry x + uptoBulkEntries r
def uptoBulkEntry {H : Type} : Lit × DataW H → Nat
  | (.string bytes, d) => bytes.length + uptoBulk d + 1
  | (_, d) => uptoBulk d + 1
 end
def uptoSmall : (H : Type) → List (DataW H) → Bool := fun _ ds => decide (uptoBulkAll ds ≤ 1048576)
def OpenSpec.upto (s : _root_.Go.ChangeSpec) : _root_.Go.OpenSpec := { _root_.Go.OpenSpec.ofChange s with cond := some uptoSmall }

/-- 'laws.FnNames', WHERE WHAT IT READS IS OF BULK AT MOST 1048576: true; the input reads as it did. -/
def fnNamesUptoRow : OpenClaim := { program := "ytmijagdlbpepcaa", sum := "105067bbd4a67dad06e10fc97673393f02da788261f2b5cb639e503869b88d20", func := "loop.example/g00788/laws.FnNames", spec := "fnNames", unfollowed := true, recurses := true, apart := false, narrowed := true }
def FnNamesUptoSaid : Prop := fnNamesUptoRow.holds Try.pinned (OpenSpec.upto fnNamesSpec)

/-- 'laws.FnLinks', WHERE WHAT IT READS IS OF BULK AT MOST 1048576: true; the input reads as it did. -/
def fnLinksUptoRow : OpenClaim := { program := "ytmijagdlbpepcaa", sum := "105067bbd4a67dad06e10fc97673393f02da788261f2b5cb639e503869b88d20", func := "loop.example/g00788/laws.FnLinks", spec := "fnLinks", apart := false, narrowed := true }
def FnLinksUptoSaid : Prop := fnLinksUptoRow.holds Try.pinned (OpenSpec.upto fnLinksSpec)

/-- 'laws.FnExactNameOK', WHERE WHAT IT READS IS OF BULK AT MOST 1048576: true; the input reads as it did. -/
def fnExactNameOKUptoRow : OpenClaim := { program := "ytmijagdlbpepcaa", sum := "105067bbd4a67dad06e10fc97673393f02da788261f2b5cb639e503869b88d20", func := "loop.example/g00788/laws.FnExactNameOK", spec := "fnExactNameOK", unfollowed := true, recurses := true, apart := false, narrowed := true }
def FnExactNameOKUptoSaid : Prop := fnExactNameOKUptoRow.holds Try.pinned (OpenSpec.upto fnExactNameOKSpec)

/-- 'laws.FnExactTagOK', WHERE WHAT IT READS IS OF BULK AT MOST 1048576: true; the input reads as it did. -/
def fnExactTagOKUptoRow : OpenClaim := { program := "ytmijagdlbpepcaa", sum := "105067bbd4a67dad06e10fc97673393f02da788261f2b5cb639e503869b88d20", func := "loop.example/g00788/laws.FnExactTagOK", spec := "fnExactTagOK", unfollowed := true, recurses := true, apart := false, narrowed := true }
def FnExactTagOKUptoSaid : Prop := fnExactTagOKUptoRow.holds Try.pinned (OpenSpec.upto fnExactTagOKSpec)

/-- 'laws.FnExactLowerOf', WHERE WHAT IT READS IS OF BULK AT MOST 1048576: true; the input reads as it did. -/
def fnExactLowerOfUptoRow : OpenClaim := { program := "ytmijagdlbpepcaa", sum := "105067bbd4a67dad06e10fc97673393f02da788261f2b5cb639e503869b88d20", func := "loop.example/g00788/laws.FnExactLowerOf", spec := "fnExactLowerOf", apart := false, narrowed := true }
def FnExactLowerOfUptoSaid : Prop := fnExactLowerOfUptoRow.holds Try.pinned (OpenSpec.upto fnExactLowerOfSpec)

/-- 'laws.FnExactIsVoid', WHERE WHAT IT READS IS OF BULK AT MOST 1048576: true; the input reads as it did. -/
def fnExactIsVoidUptoRow : OpenClaim := { program := "ytmijagdlbpepcaa", sum := "105067bbd4a67dad06e10fc97673393f02da788261f2b5cb639e503869b88d20", func := "loop.example/g00788/laws.FnExactIsVoid", spec := "fnExactIsVoid", apart := false, narrowed := true }
def FnExactIsVoidUptoSaid : Prop := fnExactIsVoidUptoRow.holds Try.pinned (OpenSpec.upto fnExactIsVoidSpec)

/-- 'laws.FnExactIsRaw', WHERE WHAT IT READS IS OF BULK AT MOST 1048576: true; the input reads as it did. -/
def fnExactIsRawUptoRow : OpenClaim := { program := "ytmijagdlbpepcaa", sum := "105067bbd4a67dad06e10fc97673393f02da788261f2b5cb639e503869b88d20", func := "loop.example/g00788/laws.FnExactIsRaw", spec := "fnExactIsRaw", apart := false, narrowed := true }
def FnExactIsRawUptoSaid : Prop := fnExactIsRawUptoRow.holds Try.pinned (OpenSpec.upto fnExactIsRawSpec)

/-- 'laws.FnExactBreaksOut', WHERE WHAT IT READS IS OF BULK AT MOST 1048576: true; the input reads as it did. -/
def fnExactBreaksOutUptoRow : OpenClaim := { program := "ytmijagdlbpepcaa", sum := "105067bbd4a67dad06e10fc97673393f02da788261f2b5cb639e503869b88d20", func := "loop.example/g00788/laws.FnExactBreaksOut", spec := "fnExactBreaksOut", apart := false, narrowed := true }
def FnExactBreaksOutUptoSaid : Prop := fnExactBreaksOutUptoRow.holds Try.pinned (OpenSpec.upto fnExactBreaksOutSpec)

/-- 'laws.FnExactIsBanned', WHERE WHAT IT READS IS OF BULK AT MOST 1048576: true; the input reads as it did. -/
def fnExactIsBannedUptoRow : OpenClaim := { program := "ytmijagdlbpepcaa", sum := "105067bbd4a67dad06e10fc97673393f02da788261f2b5cb639e503869b88d20", func := "loop.example/g00788/laws.FnExactIsBanned", spec := "fnExactIsBanned", apart := false, narrowed := true }
def FnExactIsBannedUptoSaid : Prop := fnExactIsBannedUptoRow.holds Try.pinned (OpenSpec.upto fnExactIsBannedSpec)

/-- 'laws.FnExactIsHandler', WHERE WHAT IT READS IS OF BULK AT MOST 1048576: true; the input reads as it did. -/
def fnExactIsHandlerUptoRow : OpenClaim := { program := "ytmijagdlbpepcaa", sum := "105067bbd4a67dad06e10fc97673393f02da788261f2b5cb639e503869b88d20", func := "loop.example/g00788/laws.FnExactIsHandler", spec := "fnExactIsHandler", apart := false, narrowed := true }
def FnExactIsHandlerUptoSaid : Prop := fnExactIsHandlerUptoRow.holds Try.pinned (OpenSpec.upto fnExactIsHandlerSpec)

/-- 'laws.FnExactIsLink', WHERE WHAT IT READS IS OF BULK AT MOST 1048576: true; the input reads as it did. -/
def fnExactIsLinkUptoRow : OpenClaim := { program := "ytmijagdlbpepcaa", sum := "105067bbd4a67dad06e10fc97673393f02da788261f2b5cb639e503869b88d20", func := "loop.example/g00788/laws.FnExactIsLink", spec := "fnExactIsLink", apart := false, narrowed := true }
def FnExactIsLinkUptoSaid : Prop := fnExactIsLinkUptoRow.holds Try.pinned (OpenSpec.upto fnExactIsLinkSpec)

/-- 'laws.FnExactBadLink', WHERE WHAT IT READS IS OF BULK AT MOST 1048576: true; the input reads as it did. -/
def fnExactBadLinkUptoRow : OpenClaim := { program := "ytmijagdlbpepcaa", sum := "105067bbd4a67dad06e10fc97673393f02da788261f2b5cb639e503869b88d20", func := "loop.example/g00788/laws.FnExactBadLink", spec := "fnExactBadLink", apart := false, narrowed := true }
def FnExactBadLinkUptoSaid : Prop := fnExactBadLinkUptoRow.holds Try.pinned (OpenSpec.upto fnExactBadLinkSpec)

/-- 'laws.FnExactSpaceOf', WHERE WHAT IT READS IS OF BULK AT MOST 1048576: true; the input reads as it did. -/
def fnExactSpaceOfUptoRow : OpenClaim := { program := "ytmijagdlbpepcaa", sum := "105067bbd4a67dad06e10fc97673393f02da788261f2b5cb639e503869b88d20", func := "loop.example/g00788/laws.FnExactSpaceOf", spec := "fnExactSpaceOf", apart := false, narrowed := true }
def FnExactSpaceOfUptoSaid : Prop := fnExactSpaceOfUptoRow.holds Try.pinned (OpenSpec.upto fnExactSpaceOfSpec)

end Rows
end Go.Proofs.Ytmijagdlbpepcaa
