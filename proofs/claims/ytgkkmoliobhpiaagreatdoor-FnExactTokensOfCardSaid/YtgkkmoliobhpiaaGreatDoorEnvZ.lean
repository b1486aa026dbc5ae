import Derived.Test.YtgkkmoliobhpiaaGreatDoorUnA
import Derived.Test.YtgkkmoliobhpiaaGreatDoorRdA
import Derived.Test.YtgkkmoliobhpiaaGreatDoorTie
import Derived.Lib.LaidTab
import Derived.Stop.LaidErr
import Derived.LaidLaws
import Derived.Deep.DeepWitnessRowRef
import Derived.Deep.DeepHandedRow
import Derived.ProofKit
namespace Go.Proofs.YtgkkmoliobhpiaaGreatDoor
open Go.ChangeShapes Go.WideShapes Go.ChangeAt Go.RowKit Go.Shelf

/-! What the list of laid variables gives, and a world that has it. -/
abbrev laidL : List (String × DataW Unit) := [("math/bits.deBruijn32tab", Rows.laid_math_bits_deBruijn32tab), ("math/bits.deBruijn64tab", Rows.laid_math_bits_deBruijn64tab), ("internal/strconv.uint64pow10", Rows.laid_internal_strconv_uint64pow10), ("unicode/utf8.acceptRanges", Rows.laid_unicode_utf8_acceptRanges), ("strconv.ErrRange", Rows.laid_strconv_ErrRange), ("strconv.ErrSyntax", Rows.laid_strconv_ErrSyntax), ("unicode/utf8.first", Rows.laid_unicode_utf8_first)]
theorem starErr : "*" ++ "errors.errorString" = "*errors.errorString" := by decide
theorem rowErr (u : TypeId) (h : Tryz.prog.typeName? 3 u = some "*errors.errorString") : u = 144 :=
  typeName_ptr_named (nm := "errors.errorString") (by rw [starErr]; kernel_rfl) (by kernel_rfl) (by decide) u (by rw [starErr]; exact h)

theorem laid_size {W : World} {n : String} {d : DataW Unit} {r : List (String × DataW Unit)} {g : Nat} (h : laidMet Tryz.prog ((n, d) :: r) W) (hg : Tryz.prog.globalNamed n = some g) : g < W.heap.size := by
  obtain ⟨ps, ⟨g', t', cs, fuel, p, q, hg', ht', hvar, _⟩, _⟩ := h
  obtain rfl := Option.some.inj (hg.symm.trans hg')
  unfold World.var? at hvar
  rw [hg] at hvar
  simp only [Option.bind_some] at hvar
  split at hvar
  · rename_i cs' t fr hb
    exact (Array.getElem?_eq_some_iff.1 hb).1
  · cases hvar
theorem env_of {W : World} (h : laidMet Tryz.prog laidL W) : Env W := by
  refine ⟨?_, ?_, ?_⟩
  · obtain ⟨a, s, hv, hc, _, _⟩ := laid_sentinel (g := 3) h.tail.tail.tail.tail.tail (by kernel_rfl) (by kernel_rfl) Tryz.underlying95 rowErr Tryz.underlying144 Tryz.underlying146 rfl rfl Tryz.underlying9 (by kernel_rfl) (by kernel_rfl)
    exact ⟨_, by simpa using World.var?_cell (g := 3) (by kernel_rfl) hv 0, Or.inr ⟨_, _, rfl⟩⟩
  · have h3 : laidMet Tryz.prog (("internal/strconv.uint64pow10", Lib.tabData .u64 Lib.pow10Tab) :: _) W := h.tail.tail
    exact Lib.tabIs_of_head gPow (by kernel_rfl) Tryz.underlying148 Tryz.underlying133 (by kernel_rfl) (by kernel_rfl) h3
  · have h7 := laid_size (g := 7) h.tail (by kernel_rfl)
    omega

/-- a table's cells -/
def intsOf (d : DataW Unit) : Array Value := match d with
  | .agg ds => (ds.flatMap fun x => match x with | .lit (.int k z) => [Value.int k z] | .agg es => es.filterMap fun y => (match y with | .lit (.int k z) => some (Value.int k z) | _ => none) | _ => []).toArray
  | _ => #[]
def textOf' (d : DataW Unit) : ByteArray := match d with
  | .iface _ (.ptr (.agg [.lit (.string s)])) => ⟨s.toArray⟩
  | _ => ⟨#[]⟩
/-- A WORLD FOR THE WITNESS: the settled one with two blocks more, the five variables holding what their initialisers lay. -/
noncomputable def laidWorld (os : Os) : World :=
  let N := (World.settled Tryz.prog os).heap.size
  let w0 := World.holding Tryz.prog os ⟨#[.cells #[.string (textOf' Rows.laid_strconv_ErrSyntax)] 146, .cells #[.string (textOf' Rows.laid_strconv_ErrRange)] 146], #[], []⟩
  let put (h : Array Obj) (g : Nat) (cs : Array Value) : Array Obj := h.modify g fun
    | .cells _ t frozen => .cells cs t frozen
    | o => o
  let h1 := put w0.heap 3 #[.iface 144 (.pointer (some ⟨N, 0, none⟩))]
  let h2 := put h1 4 #[.iface 144 (.pointer (some ⟨N + 1, 0, none⟩))]
  let h3 := put h2 5 (intsOf Rows.laid_internal_strconv_uint64pow10)
  let h4 := put h3 6 (intsOf Rows.laid_math_bits_deBruijn32tab)
  let h5 := put h4 7 (intsOf Rows.laid_math_bits_deBruijn64tab)
  let h6 := put h5 2 (intsOf Rows.laid_unicode_utf8_acceptRanges)
  let h7 := put h6 1 (intsOf Rows.laid_unicode_utf8_first)
  { w0 with heap := h7 }
theorem laid_met (os : Os) (args : Array Value) : laidMet Tryz.prog laidL ((laidWorld os).forCall (fun _ _ => 0) ⟨#[], args, []⟩).memory :=
  laidMet_of_run' 8 (by kernel_rfl) (by kernel_rfl)
theorem env2_of {W : World} (h : laidMet Tryz.prog laidL W) (hsh : W.ShapedOpen Tryz.prog) : Env2 W := ⟨env_of h, laysM145.s1_3 W hsh⟩
end Go.Proofs.YtgkkmoliobhpiaaGreatDoor
