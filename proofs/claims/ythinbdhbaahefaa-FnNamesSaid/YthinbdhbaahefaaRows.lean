/-
  No cell of these rows narrows 'for every input' (looked for: loops, veiled, ifaces, maps, wideKeys, modest, calm, conditions, laid).
  DERIVED. THE GIVEN ROWS OF THIS SEAT. 6 by the template 'for every input the law returns true; each argument reads behind the call as it read before'; 0 by the template 'total and deterministic' (their statements: YthinbdhbaahefaaTotals.lean).
  GIVEN WITH THE SEED: the statements are not yours to turn. If you find one false, say at which input.
  Laid BY PROGRAM, IN A SANDBOX (cutbox-rows.mjs): the forced cells as the released guide's own fill.sh prints them over the translation 2324502e95955167… (all of the seat's roots in one cut). By AI agents, Wed Nov 11 2026. No macro, syntax, notation, axiom, sorry.
-/
import Derived.Test.YthinbdhbaahefaaChecked
import GoSem.Claim
import GoSem.ClaimJoined
import GoSem.ClaimMapViews
import Derived.JoinedTies
import Derived.KernelRfl
namespace Go.Proofs.Ythinbdhbaahefaa
/- THE CELL 'sum', in the pinned program and in every row, IS THE sha256 OF THE DUMP (.gsa) THAT YthinbdhbaahefaaProg.lean LOADS. Nothing in Lean hashes anything: it is a label: what it is worth is what the hold of that sum in a sandbox is worth. -/
noncomputable def Try.pinned : Pinned := { name := "ythinbdhbaahefaa", sum := "2324502e9595516723e37394c40a67fb9e4bdabb4f778663ba46f4ce3526e922", checked := Try.checked }
namespace Rows
def none {H : Type} : Left H := { results := [], args := [] }

/-- 'laws.FnNames': WHATEVER THE INPUT: true; the input reads as it did. -/
def fnNamesSpec : ChangeSpec := { name := "fnNames", fn := fun _ => fun
  | [d1, d2] => { results := [.lit (.bool true)], args := [d1, d2] }
  | _ => none }
def fnNamesRow : OpenClaim := { program := "ythinbdhbaahefaa", sum := "2324502e9595516723e37394c40a67fb9e4bdabb4f778663ba46f4ce3526e922", func := "loop.example/g00788/laws.FnNames", spec := "fnNames", unfollowed := true, recurses := true, apart := false }
def FnNamesSaid : Prop := fnNamesRow.holds Try.pinned (OpenSpec.ofChange fnNamesSpec)

/-- ITS FALSE NEIGHBOUR: 'it returns false'. Refute it at one input. -/
def fnNamesWrong : ChangeSpec := { name := "fnNames", fn := fun _ => fun
  | [d1, d2] => { results := [.lit (.bool false)], args := [d1, d2] }
  | _ => none }
def FnNamesWrongFalsely : Prop := fnNamesRow.holds Try.pinned (OpenSpec.ofChange fnNamesWrong)

/-- 'laws.FnLinks': WHATEVER THE INPUT: true; the input reads as it did. -/
def fnLinksSpec : ChangeSpec := { name := "fnLinks", fn := fun _ => fun
  | [d1, d2] => { results := [.lit (.bool true)], args := [d1, d2] }
  | _ => none }
def fnLinksRow : OpenClaim := { program := "ythinbdhbaahefaa", sum := "2324502e9595516723e37394c40a67fb9e4bdabb4f778663ba46f4ce3526e922", func := "loop.example/g00788/laws.FnLinks", spec := "fnLinks", apart := false }
def FnLinksSaid : Prop := fnLinksRow.holds Try.pinned (OpenSpec.ofChange fnLinksSpec)

/-- ITS FALSE NEIGHBOUR: 'it returns false'. Refute it at one input. -/
def fnLinksWrong : ChangeSpec := { name := "fnLinks", fn := fun _ => fun
  | [d1, d2] => { results := [.lit (.bool false)], args := [d1, d2] }
  | _ => none }
def FnLinksWrongFalsely : Prop := fnLinksRow.holds Try.pinned (OpenSpec.ofChange fnLinksWrong)

/-- 'laws.FnExactEscapeText': WHATEVER THE INPUT: true; the input reads as it did. -/
def fnExactEscapeTextSpec : ChangeSpec := { name := "fnExactEscapeText", fn := fun _ => fun
  | [d] => { results := [.lit (.bool true)], args := [d] }
  | _ => none }
def fnExactEscapeTextRow : OpenClaim := { program := "ythinbdhbaahefaa", sum := "2324502e9595516723e37394c40a67fb9e4bdabb4f778663ba46f4ce3526e922", func := "loop.example/g00788/laws.FnExactEscapeText", spec := "fnExactEscapeText", inPlace := ["internal/abi.NoEscape"], apart := false }
def FnExactEscapeTextSaid : Prop := fnExactEscapeTextRow.holds Try.pinned (OpenSpec.ofChange fnExactEscapeTextSpec)

/-- ITS FALSE NEIGHBOUR: 'it returns false'. Refute it at one input. -/
def fnExactEscapeTextWrong : ChangeSpec := { name := "fnExactEscapeText", fn := fun _ => fun
  | [d] => { results := [.lit (.bool false)], args := [d] }
  | _ => none }
def FnExactEscapeTextWrongFalsely : Prop := fnExactEscapeTextRow.holds Try.pinned (OpenSpec.ofChange fnExactEscapeTextWrong)

/-- 'laws.FnExactEscapeValue': WHATEVER THE INPUT: true; the input reads as it did. -/
def fnExactEscapeValueSpec : ChangeSpec := { name := "fnExactEscapeValue", fn := fun _ => fun
  | [d] => { results := [.lit (.bool true)], args := [d] }
  | _ => none }
def fnExactEscapeValueRow : OpenClaim := { program := "ythinbdhbaahefaa", sum := "2324502e9595516723e37394c40a67fb9e4bdabb4f778663ba46f4ce3526e922", func := "loop.example/g00788/laws.FnExactEscapeValue", spec := "fnExactEscapeValue", inPlace := ["internal/abi.NoEscape"], apart := false }
def FnExactEscapeValueSaid : Prop := fnExactEscapeValueRow.holds Try.pinned (OpenSpec.ofChange fnExactEscapeValueSpec)

/-- ITS FALSE NEIGHBOUR: 'it returns false'. Refute it at one input. -/
def fnExactEscapeValueWrong : ChangeSpec := { name := "fnExactEscapeValue", fn := fun _ => fun
  | [d] => { results := [.lit (.bool false)], args := [d] }
  | _ => none }
def FnExactEscapeValueWrongFalsely : Prop := fnExactEscapeValueRow.holds Try.pinned (OpenSpec.ofChange fnExactEscapeValueWrong)

/-- 'laws.FnExactHasMarkup': WHATEVER THE INPUT: true; the input reads as it did. -/
def fnExactHasMarkupSpec : ChangeSpec := { name := "fnExactHasMarkup", fn := fun _ => fun
  | [d] => { results := [.lit (.bool true)], args := [d] }
  | _ => none }
def fnExactHasMarkupRow : OpenClaim := { program := "ythinbdhbaahefaa", sum := "2324502e9595516723e37394c40a67fb9e4bdabb4f778663ba46f4ce3526e922", func := "loop.example/g00788/laws.FnExactHasMarkup", spec := "fnExactHasMarkup", inPlace := ["internal/bytealg.IndexByteString", "internal/bytealg.IndexString"], named := ["internal/bytealg.MaxLen"], apart := false }
def FnExactHasMarkupSaid : Prop := fnExactHasMarkupRow.holds Try.pinned (OpenSpec.ofChange fnExactHasMarkupSpec)

/-- ITS FALSE NEIGHBOUR: 'it returns false'. Refute it at one input. -/
def fnExactHasMarkupWrong : ChangeSpec := { name := "fnExactHasMarkup", fn := fun _ => fun
  | [d] => { results := [.lit (.bool false)], args := [d] }
  | _ => none }
def FnExactHasMarkupWrongFalsely : Prop := fnExactHasMarkupRow.holds Try.pinned (OpenSpec.ofChange fnExactHasMarkupWrong)

/-- 'laws.FnExactCommentOK': WHATEVER THE INPUT: true; the input reads as it did. -/
def fnExactCommentOKSpec : ChangeSpec := { name := "fnExactCommentOK", fn := fun _ => fun
  | [d] => { results := [.lit (.bool true)], args := [d] }
  | _ => none }
def fnExactCommentOKRow : OpenClaim := { program := "ythinbdhbaahefaa", sum := "2324502e9595516723e37394c40a67fb9e4bdabb4f778663ba46f4ce3526e922", func := "loop.example/g00788/laws.FnExactCommentOK", spec := "fnExactCommentOK", inPlace := ["internal/bytealg.IndexByteString", "internal/bytealg.IndexString"], named := ["internal/bytealg.MaxLen"], apart := false }
def FnExactCommentOKSaid : Prop := fnExactCommentOKRow.holds Try.pinned (OpenSpec.ofChange fnExactCommentOKSpec)

/-- ITS FALSE NEIGHBOUR: 'it returns false'. Refute it at one input. -/
def fnExactCommentOKWrong : ChangeSpec := { name := "fnExactCommentOK", fn := fun _ => fun
  | [d] => { results := [.lit (.bool false)], args := [d] }
  | _ => none }
def FnExactCommentOKWrongFalsely : Prop := fnExactCommentOKRow.holds Try.pinned (OpenSpec.ofChange fnExactCommentOKWrong)

/- THE SECOND FORM. 'bulk': how many values and letters a reading holds, each counted each time it is reached (what is shared counts as often as it is met; a slice's spare places count too). A statement '..UptoSaid' is the law's where the arguments, and the package variables that the reading takes, are together of bulk at most 1048576: NARROWER than '..Said'. Prove '..Said' where nothing that the law and all that it calls make is longer than what came in: it says more and counts as full. Else prove '..UptoSaid'. A law counts once. -/
mutual
def uptoBulk {H : Type} : DataW H → Nat
  | .lit (.string bytes) => bytes.length + 1
  | .lit _ => 1
  | .nil => 1
  | .ptr d => uptoBulk d + 1
  | .slice elems spare => uptoBulkAll elems + uptoBulkAll spare + 1
  | .agg parts => uptoBulkAll parts + 1
  | .iface _ d => uptoBulk d + 1
  | .map entries => uptoBulkEntries entries + 1
  | .held _ => 1
def uptoBulkAll {H : Type} : List (DataW H) → Nat
  | [] => 0
  | d :: r => uptoBulk d + uptoBulkAll r
def uptoBulkEntries {H : Type} : List (Lit × DataW H) → Nat
  | [] => 0
  | x :: r => uptoBulkEntry x + uptoBulkEntries r
def uptoBulkEntry {H : Type} : Lit × DataW H → Nat
  | (.string bytes, d) => bytes.length + uptoBulk d + 1
  | (_, d) => uptoBulk d + 1
 end
def uptoSmall : (H : Type) → List (DataW H) → Bool := fun _ ds => decide (uptoBulkAll ds ≤ 1048576)
def OpenSpec.upto (s : _root_.Go.ChangeSpec) : _root_.Go.OpenSpec := { _root_.Go.OpenSpec.ofChange s with cond := some uptoSmall }

/-- 'laws.FnNames', WHERE WHAT IT READS IS OF BULK AT MOST 1048576: true; the input reads as it did. -/
def fnNamesUptoRow : OpenClaim := { program := "ythinbdhbaahefaa", sum := "2324502e9595516723e37394c40a67fb9e4bdabb4f778663ba46f4ce3526e922", func := "loop.example/g00788/laws.FnNames", spec := "fnNames", unfollowed := true, recurses := true, apart := false, narrowed := true }
def FnNamesUptoSaid : Prop := fnNamesUptoRow.holds Try.pinned (OpenSpec.upto fnNamesSpec)

/-- 'laws.FnLinks', WHERE WHAT IT READS IS OF BULK AT MOST 1048576: true; the input reads as it did. -/
def fnLinksUptoRow : OpenClaim := { program := "ythinbdhbaahefaa", sum := "2324502e9595516723e37394c40a67fb9e4bdabb4f778663ba46f4ce3526e922", func := "loop.example/g00788/laws.FnLinks", spec := "fnLinks", apart := false, narrowed := true }
def FnLinksUptoSaid : Prop := fnLinksUptoRow.holds Try.pinned (OpenSpec.upto fnLinksSpec)

/-- 'laws.FnExactEscapeText', WHERE WHAT IT READS IS OF BULK AT MOST 1048576: true; the input reads as it did. -/
def fnExactEscapeTextUptoRow : OpenClaim := { program := "ythinbdhbaahefaa", sum := "2324502e9595516723e37394c40a67fb9e4bdabb4f778663ba46f4ce3526e922", func := "loop.example/g00788/laws.FnExactEscapeText", spec := "fnExactEscapeText", inPlace := ["internal/abi.NoEscape"], apart := false, narrowed := true }
def FnExactEscapeTextUptoSaid : Prop := fnExactEscapeTextUptoRow.holds Try.pinned (OpenSpec.upto fnExactEscapeTextSpec)

/-- 'laws.FnExactEscapeValue', WHERE WHAT IT READS IS OF BULK AT MOST 1048576: true; the input reads as it did. -/
def fnExactEscapeValueUptoRow : OpenClaim := { program := "ythinbdhbaahefaa", sum := "2324502e9595516723e37394c40a67fb9e4bdabb4f778663ba46f4ce3526e922", func := "loop.example/g00788/laws.FnExactEscapeValue", spec := "fnExactEscapeValue", inPlace := ["internal/abi.NoEscape"], apart := false, narrowed := true }
def FnExactEscapeValueUptoSaid : Prop := fnExactEscapeValueUptoRow.holds Try.pinned (OpenSpec.upto fnExactEscapeValueSpec)

/-- 'laws.FnExactHasMarkup', WHERE WHAT IT READS IS OF BULK AT MOST 1048576: true; the input reads as it did. -/
def fnExactHasMarkupUptoRow : OpenClaim := { program := "ythinbdhbaahefaa", sum := "2324502e9595516723e37394c40a67fb9e4bdabb4f778663ba46f4ce3526e922", func := "loop.example/g00788/laws.FnExactHasMarkup", spec := "fnExactHasMarkup", inPlace := ["internal/bytealg.IndexByteString", "internal/bytealg.IndexString"], named := ["internal/bytealg.MaxLen"], apart := false, narrowed := true }
def FnExactHasMarkupUptoSaid : Prop := fnExactHasMarkupUptoRow.holds Try.pinned (OpenSpec.upto fnExactHasMarkupSpec)

/-- 'laws.FnExactCommentOK', WHERE WHAT IT READS IS OF BULK AT MOST 1048576: true; the input reads as it did. -/
def fnExactCommentOKUptoRow : OpenClaim := { program := "ythinbdhbaahefaa", sum := "2324502e9595516723e37394c40a67fb9e4bdabb4f778663ba46f4ce3526e922", func := "loop.example/g00788/laws.FnExactCommentOK", spec := "fnExactCommentOK", inPlace := ["internal/bytealg.IndexByteString", "internal/bytealg.IndexString"], named := ["internal/bytealg.MaxLen"], apart := false, narrowed := true }
def FnExactCommentOKUptoSaid : Prop := fnExactCommentOKUptoRow.holds Try.pinned (OpenSpec.upto fnExactCommentOKSpec)

end Rows
end Go.Proofs.Ythinbdhbaahefaa
