import Derived.Test.YtpennadfomnenaaGreatDoorTie
import Derived.Lib.LaidTab
import Derived.Stop.LaidErr
import Derived.LaidLaws
import Derived.Deep.DeepWitnessRowRef
import Derived.Deep.DeepHandedRow
import Derived.ProofKit
import Derived.Deep.RegionWith
import Derived.Deep.Draws
import Derived.Maps.Own
import Derived.Maps.OwnOps
import Derived.Maps.Views
import Derived.Test.YtpennadfomnenaaGreatDoorQ03
import Derived.Test.YtpennadfomnenaaGreatDoorQ17
import Derived.Test.YtpennadfomnenaaGreatDoorQ08
import Derived.Test.YtpennadfomnenaaGreatDoorQ04
import Derived.Test.YtpennadfomnenaaGreatDoorQ05
set_option linter.unusedVariables false
namespace Go.Proofs.YtpennadfomnenaaGreatDoor
open Go.ChangeShapes Go.WideShapes Go.ChangeAt Go.RowKit Go.Shelf

/-! What the list of laid variables gives, and a world that has it. -/
abbrev laidL : List (String × DataW Unit) := [("math/bits.deBruijn32tab", Rows.laid_math_bits_deBruijn32tab), ("math/bits.deBruijn64tab", Rows.laid_math_bits_deBruijn64tab), ("internal/strconv.uint64pow10", Rows.laid_internal_strconv_uint64pow10), ("unicode/utf8.acceptRanges", Rows.laid_unicode_utf8_acceptRanges), ("strconv.ErrRange", Rows.laid_strconv_ErrRange), ("strconv.ErrSyntax", Rows.laid_strconv_ErrSyntax), ("unicode/utf8.first", Rows.laid_unicode_utf8_first)]
theorem starErr : "*" ++ "errors.errorString" = "*errors.errorString" := by decide
theorem rowErr (u : TypeId) (h : Tryz.prog.typeName? 3 u = some "*errors.errorString") : u = 304 :=
  typeName_ptr_named (nm := "errors.errorString") (by rw [starErr]; kernel_rfl) (by kernel_rfl) (by decide) u (by rw [starErr]; exact h)
theorem laid_size {W : World} {n : String} {d : DataW Unit} {r : List (String × DataW Unit)} {g : Nat} (h : laidMet Tryz.prog ((n, d) :: r) W) (hg : Tryz.prog.globalNamed n = some g) : g < W.heap.size := by
  obtain ⟨ps, ⟨g', t', cs, fuel, p, q, hg', ht', hvar, _⟩, _⟩ := h
  obtain rfl := Option.some.inj (hg.symm.trans hg')
  unfold World.var? at hvar
  rw [hg] at hvar
  simp only [Option.bind_some] at hvar
  split at hvar
  · rename_i cs' t fr hb
    exact (Array.getElem?_eq_some_iff.1 hb).1
  · cases hvar
theorem env_of {W : World} (h : laidMet Tryz.prog laidL W) : Env W := by
  refine ⟨?_, ?_, ?_⟩
  · obtain ⟨a, s, hv, hc, _, _⟩ := laid_sentinel (g := 4) h.tail.tail.tail.tail.tail (by kernel_rfl) (by kernel_rfl) Tryz.underlying123 rowErr Tryz.underlying304 Tryz.underlying306 rfl rfl Tryz.underlying9 (by kernel_rfl) (by kernel_rfl)
    exact ⟨_, by simpa using World.var?_cell (g := 4) (by kernel_rfl) hv 0, Or.inr ⟨_, _, rfl⟩⟩
  · have h3 : laidMet Tryz.prog (("internal/strconv.uint64pow10", Lib.tabData .u64 Lib.pow10Tab) :: _) W := h.tail.tail
    exact Lib.tabIs_of_head gPow (by kernel_rfl) Tryz.underlying308 Tryz.underlying293 (by kernel_rfl) (by kernel_rfl) h3
  · have h7 := laid_size (g := 8) h.tail (by kernel_rfl)
    omega
/-- a table's cells -/
def intsOf (d : DataW Unit) : Array Value := match d with
  | .agg ds => (ds.flatMap fun x => match x with | .lit (.int k z) => [Value.int k z] | .agg es => es.filterMap fun y => (match y with | .lit (.int k z) => some (Value.int k z) | _ => none) | _ => []).toArray
  | _ => #[]
def textOf' (d : DataW Unit) : ByteArray := match d with
  | .iface _ (.ptr (.agg [.lit (.string s)])) => ⟨s.toArray⟩
  | _ => ⟨#[]⟩
/-- A WORLD FOR THE WITNESS: the settled one with two blocks more, the five variables holding what their initialisers lay. -/
noncomputable def laidWorld (os : Os) : World :=
  let N := (World.settled Tryz.prog os).heap.size
  let w0 := World.holding Tryz.prog os ⟨#[.cells #[.string (textOf' Rows.laid_strconv_ErrSyntax)] 306, .cells #[.string (textOf' Rows.laid_strconv_ErrRange)] 306], #[], []⟩
  let put (h : Array Obj) (g : Nat) (cs : Array Value) : Array Obj := h.modify g fun
    | .cells _ t frozen => .cells cs t frozen
    | o => o
  let h1 := put w0.heap 4 #[.iface 304 (.pointer (some ⟨N, 0, none⟩))]
  let h2 := put h1 5 #[.iface 304 (.pointer (some ⟨N + 1, 0, none⟩))]
  let h3 := put h2 6 (intsOf Rows.laid_internal_strconv_uint64pow10)
  let h4 := put h3 7 (intsOf Rows.laid_math_bits_deBruijn32tab)
  let h5 := put h4 8 (intsOf Rows.laid_math_bits_deBruijn64tab)
  let h6 := put h5 3 (intsOf Rows.laid_unicode_utf8_acceptRanges)
  let h7 := put h6 2 (intsOf Rows.laid_unicode_utf8_first)
  { w0 with heap := h7 }
theorem laid_met (os : Os) (args : Array Value) : laidMet Tryz.prog laidL ((laidWorld os).forCall (fun _ _ => 0) ⟨#[], args, []⟩).memory :=
  laidMet_of_run' 8 (by kernel_rfl) (by kernel_rfl)
theorem env2_of {W : World} (h : laidMet Tryz.prog laidL W) (hsh : W.ShapedOpen Tryz.prog) : Env2 W := ⟨env_of h, laysM145.s1_3 W hsh⟩
end Go.Proofs.YtpennadfomnenaaGreatDoor
namespace Go.Proofs.YtpennadfomnenaaGreatDoor
open Go.ChangeShapes Go.WideShapes Go.ChangeAt Go.RowKit Go.Deep

/-- opens from ⟨b, o⟩ on: a name, a space -/
def OsAt (w : World) (b : Nat) : Nat → List (ByteArray × Int) → Prop
  | _, [] => True
  | o, x :: r => w.cell? ⟨b, o, none⟩ = some (.string x.1) ∧ w.cell? ⟨b, o + 1, none⟩ = some (.int .i64 x.2) ∧ x.1.size ≤ maxLen ∧ OsAt w b (o + 2) r
theorem OsAt.carry {w w' : World} {b : Nat} : ∀ {l : List (ByteArray × Int)} {o : Nat}, OsAt w b o l → (∀ j, j < 2 * l.length → w'.cell? ⟨b, o + j, none⟩ = w.cell? ⟨b, o + j, none⟩) → OsAt w' b o l
  | [], _, _, _ => trivial
  | x :: r, o, ⟨h1, h2, h3, h5⟩, hs => ⟨(hs 0 (by simp)).trans h1, (hs 1 (by simp; omega)).trans h2, h3, OsAt.carry h5 fun j hj => by
      have := hs (2 + j) (by simp; omega)
      rwa [← Nat.add_assoc] at this⟩
theorem OsAt.left {w : World} {b : Nat} : ∀ {p q : List (ByteArray × Int)} {o : Nat}, OsAt w b o (p ++ q) → OsAt w b o p
  | [], _, _, _ => trivial
  | x :: p, q, o, ⟨h1, h2, h3, h5⟩ => ⟨h1, h2, h3, OsAt.left h5⟩
theorem OsAt.get {w : World} {b : Nat} : ∀ {l : List (ByteArray × Int)} {o : Nat}, OsAt w b o l → ∀ k (h : k < l.length), w.cell? ⟨b, o + k * 2, none⟩ = some (.string l[k].1) ∧ w.cell? ⟨b, o + k * 2 + 1, none⟩ = some (.int .i64 l[k].2) ∧ l[k].1.size ≤ maxLen
  | [], _, _, k, h => absurd h (Nat.not_lt_zero _)
  | x :: r, o, ⟨h1, h2, h3, _⟩, 0, _ => ⟨by simpa using h1, by simpa using h2, by simpa using h3⟩
  | x :: r, o, ⟨_, _, _, h5⟩, k + 1, h => by
    have := OsAt.get h5 k (by simpa using h)
    simpa [show o + 2 + k * 2 = o + (k + 1) * 2 by omega] using this
/-- opens that stand somewhere -/
def OsIn (w : World) (A : Option Addr) (b o : Nat) (l : List (ByteArray × Int)) : Prop := RowAt 0 w.heap.size A l.length b o ∧ OsAt w b o l
theorem OsIn.next {w w' : World} {A : Option Addr} {b o : Nat} {l : List (ByteArray × Int)} (h : OsIn w A b o l) (hB : Below w.heap.size w w') : OsIn w' A b o l := by
  refine ⟨h.1.mono (Nat.le_refl _) hB.size, ?_⟩
  cases l with
  | nil => trivial
  | cons x r => exact h.2.carry fun j _ => hB.cell (p := ⟨b, o + j, none⟩) (by have := (h.1.2 (by simp)).2.2; show b < _; omega)
/-- .. the k-th -/
theorem OsIn.get {w : World} {A : Option Addr} {b o : Nat} {l : List (ByteArray × Int)} (h : OsIn w A b o l) (k : Nat) (hk : k < l.length) : A = some ⟨b, o, none⟩ ∧ b < w.heap.size ∧ w.cell? ⟨b, o + k * 2, none⟩ = some (.string l[k].1) ∧ w.cell? ⟨b, o + k * 2 + 1, none⟩ = some (.int .i64 l[k].2) ∧ l[k].1.size ≤ maxLen :=
  ⟨(h.1.2 (by omega)).1, (h.1.2 (by omega)).2.2, h.2.get k hk⟩
theorem OsIn.take {w : World} {A : Option Addr} {b o : Nat} {l : List (ByteArray × Int)} (h : OsIn w A b o l) (k : Nat) : OsIn w A b o (l.take k) := by
  refine ⟨⟨by have := h.1.1; simp; omega, fun hk => h.1.2 (by simp at hk; omega)⟩, ?_⟩
  have := h.2
  rw [← List.take_append_drop k l] at this
  exact this.left
end Go.Proofs.YtpennadfomnenaaGreatDoor
namespace Go.Proofs.YtpennadfomnenaaGreatDoor
open Go.ChangeShapes Go.WideShapes Go.ChangeAt Go.RowKit Go.Maps

theorem keysLaw : Keyed Tryz.prog 9 := string_keyed Tryz.underlying9
theorem zero4 (w : World) : (zeroValue 4).run Tryz.prog w = .ok (.bool false) w := by kernel_rfl
/-- block b of w is a map of texts to true, of at most n entries, just those of ls; of what lay in w0 nothing has turned -/
def SetFrom (w0 w : World) (b n : Nat) (ls : List (List UInt8)) : Prop :=
  (∃ D : DataW Unit, IsMap D ∧ w.ownsMap Tryz.prog 9 (plainElem Tryz.prog 4) b n D ∧
    ∀ l : List UInt8, D.atKey (.string l) (.lit (.bool false)) = .lit (.bool (ls.any fun x => x == l))) ∧
  Below w0.heap.size w0 w ∧ w0.heap.size ≤ b
theorem setFrom_made (w : World) : SetFrom w (w.alloc (.map #[] 0)) w.heap.size 0 [] :=
  ⟨⟨.map [], isMap_empty, World.ownsMap_made _ _ _ _, fun _ => rfl⟩, (Below.refl _ _).alloc (Nat.le_refl _) _, Nat.le_refl _⟩
theorem key_string (s : ByteArray) (h : s.size ≤ maxLen) : keyOf Tryz.prog 9 (.string s) = some (.string s.data.toList) := WideMaps.keyOf_string_mk Tryz.underlying9 h
theorem isKey_string (l : List UInt8) : WideAt.IsKeyLit (.string l) := by simp [WideAt.IsKeyLit]
theorem setFrom_put {w0 w : World} {b n : Nat} {ls : List (List UInt8)} (h : SetFrom w0 w b n ls) (hn : n < maxLen) (l : List UInt8) (hl : l.length ≤ maxLen) :
    ∃ w', (Instr.mapUpdate 269 (.map (some b)) (.string ⟨l.toArray⟩) (.bool true)).run Tryz.prog w = .ok () w' ∧ SetFrom w0 w' b (n + 1) (ls ++ [l]) := by
  obtain ⟨⟨D, hD, hown, hat⟩, hb, hle⟩ := h
  obtain ⟨w', hrun, hown', hg⟩ := hown.update keysLaw Tryz.underlying269 hn (key_string ⟨l.toArray⟩ (by simpa [ByteArray.size] using hl)) (plainElem_bool Tryz.underlying4 true)
  refine ⟨w', hrun, ⟨_, hD.put _ _, hown', fun k => ?_⟩, hb.grown hg hb.size (fun k hk => by cases hk; exact hle), hle⟩
  by_cases e : k = l
  · subst e
    rw [atKey_put_same hD (isKey_string _)]; simp
  · rw [atKey_put_other (by simpa using e), hat k]
    have e2 : (l == k) = false := by rw [beq_eq_false_iff_ne]; exact fun x => e x.symm
    rw [List.any_append]; simp [e2]
theorem wpList_insert_set {ops : Array Oper} {rest : List Oper} {o : Oper} {a : Act} {Q : Exit → Act → World → Prop} (w0 w : World)
    (hg : o.guard = none) (m x v : Operand) (hop : o.op = Op.insert 269 m x v) (b n : Nat) (ls : List (List UInt8)) (l : List UInt8)
    (hm : a.eval m = .map (some b)) (hx : a.eval x = .string ⟨l.toArray⟩) (hv : a.eval v = .bool true) (h : SetFrom w0 w b n ls) (hn : n < maxLen) (hl : l.length ≤ maxLen)
    (hK : ∀ w', SetFrom w0 w' b (n + 1) (ls ++ [l]) → wpList Tryz.prog ops Q rest (a.put o.dst undef) w') :
    wpList Tryz.prog ops Q (o :: rest) a w := by
  refine wpList_plain hg fun K' hK' => ?_
  obtain ⟨w', hrun, r⟩ := setFrom_put h hn l hl
  unfold Oper.wp
  simp [execOp, hop, hm, hx, hv, hrun, Result.andThen]
  exact hK' _ _ (hK w' r)
set_option maxRecDepth 100000 in
theorem wpList_lookup_set {ops : Array Oper} {rest : List Oper} {o : Oper} {a : Act} {Q : Exit → Act → World → Prop} (w0 w : World)
    (hg : o.guard = none) (m x : Operand) (hop : o.op = Op.lookup 269 m x false) (b n : Nat) (ls : List (List UInt8)) (s : ByteArray)
    (hm : a.eval m = .map (some b)) (hx : a.eval x = .string s) (h : SetFrom w0 w b n ls) (hs : s.size ≤ maxLen)
    (hK : wpList Tryz.prog ops Q rest (a.put o.dst (.bool (inL ls s))) w) :
    wpList Tryz.prog ops Q (o :: rest) a w := by
  refine wpList_plain hg fun K' hK' => ?_
  obtain ⟨⟨D, hD, hown, hat⟩, _⟩ := h
  obtain ⟨u, ps, hrun, hu⟩ := hown.lookup keysLaw Tryz.underlying269 (zero4 w) (plainElem_bool Tryz.underlying4 false) (key_string s hs)
  rw [hat, ← ByteArray.toList_eq] at hu
  have hu' : u = .bool (inL ls s) := by
    unfold plainElem at hu
    rw [Tryz.underlying4] at hu
    cases u <;> simp at hu
    rw [hu.1]; rfl
  subst hu'
  unfold Oper.wp
  simp [execOp, hop, hm, hx, hrun, Result.andThen]
  exact hK' _ _ hK
set_option maxHeartbeats 1000000 in
theorem implBreaksOut_any (s : ByteArray) (w : World) (hs : s.size ≤ maxLen) :
    Calls Tryz.prog 255 #[.string s] w fun e w' => e = .returned (.bool (inL outL s)) ∧ Below w.heap.size w w' := by
  have hmm := @run_makeMap Tryz.prog
  have hset := setFrom_made w
  have HS := Lib.hid hs
  clear hs
  go_enter Tryz.func255, Tryz.ntmps255
  go_wp2_with (first | (refine wpList_insert_set w _ rfl _ _ _ rfl _ _ _ _ rfl rfl rfl (by assumption) (by decide) (by decide) ?_; clear hset; intro w1 hset) | (refine wpList_lookup_set w _ rfl _ _ rfl _ _ _ _ rfl rfl hset HS.out ?_))
  go_ret
  exact ⟨rfl, hset.2.1⟩
end Go.Proofs.YtpennadfomnenaaGreatDoor
namespace Go.Proofs.YtpennadfomnenaaGreatDoor
open Go.ChangeShapes Go.WideShapes Go.ChangeAt Go.RowKit Go.Deep

/-- how many are left up to the last one, of the first k, that is so -/
def cutTo (p : ByteArray × Int → Bool) (l : List (ByteArray × Int)) : Nat → Nat
  | 0 => 0
  | k + 1 => match l[k]? with
    | some x => if p x = true then k + 1 else cutTo p l k
    | none => cutTo p l k
def cutOf (p : ByteArray × Int → Bool) (l : List (ByteArray × Int)) : Nat := cutTo p l l.length
theorem cutTo_no {p : ByteArray × Int → Bool} {l : List (ByteArray × Int)} {k : Nat} (hk : k < l.length) (h : p l[k] = false) : cutTo p l (k + 1) = cutTo p l k := by
  simp only [cutTo, List.getElem?_eq_getElem hk, h]; rfl
theorem cutTo_yes {p : ByteArray × Int → Bool} {l : List (ByteArray × Int)} {k : Nat} (hk : k < l.length) (h : p l[k] = true) : cutTo p l (k + 1) = k + 1 := by
  simp only [cutTo, List.getElem?_eq_getElem hk, h]; rfl
theorem cutTo_le (p : ByteArray × Int → Bool) (l : List (ByteArray × Int)) : ∀ k, cutTo p l k ≤ k
  | 0 => Nat.le_refl _
  | k + 1 => by
    simp only [cutTo]
    have := cutTo_le p l k
    split
    · split <;> omega
    · omega
theorem cutOf_le (p : ByteArray × Int → Bool) (l : List (ByteArray × Int)) : cutOf p l ≤ l.length := cutTo_le p l _
def htmlB (x : ByteArray × Int) : Bool := x.2 == 0
def nameIs (n : ByteArray) (x : ByteArray × Int) : Bool := x.1.toList == n.toList
theorem leftOpen1_any (x : ByteArray × Int) (w : World) :
    Calls Tryz.prog 257 #[.agg #[.string x.1, .int .i64 x.2]] w fun e w' => e = .returned (.bool (htmlB x)) ∧ Below w.heap.size w w' := by
  obtain ⟨n, v⟩ := x
  go_enter Tryz.func257, Tryz.ntmps257
  go_wp2
  go_ret
  exact ⟨rfl, (Below.refl w.heap.size w).alloc (Nat.le_refl _) _⟩
theorem placeHtml_any (l : List (ByteArray × Int)) (w : World) (A : Option Addr) (c b o : Nat) (hl : OsIn w A b o l) :
    Calls Tryz.prog 256 #[.slice A l.length c, .func (.func 257) #[] #[]] w fun e w' => e = .returned (.int .i64 ((cutOf htmlB l : Nat) - 1)) ∧ Below w.heap.size w w' := by
  have hml := hl.1.1
  unfold maxLen at hml
  have HL := Lib.hid hl
  clear hl
  go_enter Tryz.func256, Tryz.ntmps256
  go_wp2
  go_loopw [5] (fun i wr => ∃ z : Int, i = .int .i64 z ∧ -1 ≤ z ∧ z < l.length ∧ Hid (cutTo htmlB l (z + 1).toNat = cutOf htmlB l ∧ Below w.heap.size w wr)) (fun i wr => (intOf i + 1).toNat)
  case atStart => exact ⟨_, rfl, by omega, by omega, Lib.hid ⟨by rw [show ((l.length : Int) - 1 + 1).toNat = l.length by omega]; rfl, Below.refl _ _⟩⟩
  case round =>
    obtain ⟨z, rfl, hz1, hz2, HH⟩ := hrel
    by_cases hz : 0 ≤ z
    · obtain ⟨k, rfl⟩ := Int.eq_ofNat_of_zero_le hz
      have hkl : k < l.length := by omega
      obtain ⟨rfl, hlt, t1, t2, t3⟩ := (HL.out.next HH.out.2).get k hkl
      by_cases ho : htmlB l[k] = true
      · have HO := Lib.hid ho
        have HC : Hid (k + 1 = cutOf htmlB l) := Lib.hid (by have := HH.out.1; rw [show ((k : Int) + 1).toNat = k + 1 by omega, cutTo_yes hkl ho] at this; exact this)
        clear ho
        go_wp2_with (go_at_call 257; refine (leftOpen1_any l[k] _).mono ?_; rintro e w' ⟨rfl, hB⟩; rw [HO.out]; have HB := Lib.hid hB; clear hB)
        go_ret
        exact ⟨ret_int (by rw [← HC.out]; try omega), HH.out.2.trans (HB.out.mono HH.out.2.size)⟩
      · have ho' : htmlB l[k] = false := by simpa using ho
        have HO := Lib.hid ho'
        have HC : Hid (cutTo htmlB l k = cutOf htmlB l) := Lib.hid (by have := HH.out.1; rw [show ((k : Int) + 1).toNat = k + 1 by omega, cutTo_no hkl ho'] at this; exact this)
        clear ho ho'
        go_wp2_with (go_at_call 257; refine (leftOpen1_any l[k] _).mono ?_; rintro e w' ⟨rfl, hB⟩; rw [HO.out]; have HB := Lib.hid hB; clear hB)
        go_roundw
        case rel => exact ⟨(k : Int) - 1, rfl, by omega, by omega, Lib.hid ⟨by rw [show ((k : Int) - 1 + 1).toNat = k by omega]; exact HC.out, HH.out.2.trans (HB.out.mono HH.out.2.size)⟩⟩
        case measure => (simp [intOf] <;> omega)
    · obtain rfl : z = -1 := by omega
      go_wp2
      go_ret
      exact ⟨ret_int (by rw [← HH.out.1]; rfl), HH.out.2⟩
end Go.Proofs.YtpennadfomnenaaGreatDoor
namespace Go.Proofs.YtpennadfomnenaaGreatDoor
open Go.ChangeShapes Go.WideShapes Go.ChangeAt Go.RowKit Go.Deep

/-- the innermost one; the zero value of none -/
def topOf (l : List (ByteArray × Int)) : ByteArray × Int := l.getLast?.getD (⟨#[]⟩, 0)
theorem topOf_take {l : List (ByteArray × Int)} {k : Nat} (h0 : 0 < k) (hk : k ≤ l.length) : topOf (l.take k) = l[k - 1] := by
  unfold topOf
  rw [List.getLast?_eq_getElem?]
  simp only [List.length_take, Nat.min_eq_left hk]
  rw [List.getElem?_take_of_lt (by omega), List.getElem?_eq_getElem (by omega)]; rfl
theorem topOf_last {l : List (ByteArray × Int)} (h0 : 0 < l.length) : topOf l = l[l.length - 1] := by
  have := topOf_take (l := l) h0 (Nat.le_refl _)
  rwa [List.take_length] at this
theorem topOf_nil : topOf [] = (⟨#[]⟩, 0) := rfl
theorem innermost_any (l : List (ByteArray × Int)) (w : World) (A : Option Addr) (c b o : Nat) (hl : OsIn w A b o l) :
    Calls Tryz.prog 258 #[.slice A l.length c] w fun e w' => e = .returned (.agg #[.string (topOf l).1, .int .i64 (topOf l).2]) ∧ Below w.heap.size w w' := by
  have hml := hl.1.1
  unfold maxLen at hml
  by_cases h0 : 0 < l.length
  · obtain ⟨rfl, hlt, t1, t2, t3⟩ := hl.get (l.length - 1) (by omega)
    have HT := Lib.hid (topOf_last h0)
    have h0' : ((l.length : Int) == 0) = false := beq_eq_false_iff_ne.2 (by omega)
    have hq : ((l.length : Int) - 1).toNat = l.length - 1 := by omega
    clear hl
    rw [HT.out]
    go_enter Tryz.func258, Tryz.ntmps258
    go_wp2
    (try simp only [Exit.inBlock, Exit.then])
    refine bodyPost_ret (v := .agg #[.string l[l.length - 1].1, .int .i64 l[l.length - 1].2]) (by simp [results, Tryz.results258, go_sem]) rfl ⟨rfl, ?_⟩
    go_grown
  · obtain rfl : l = [] := List.length_eq_zero_iff.1 (by omega)
    go_enter Tryz.func258, Tryz.ntmps258
    go_wp2
    (try simp only [Exit.inBlock, Exit.then])
    refine bodyPost_ret (v := .agg #[.string ⟨#[]⟩, .int .i64 0]) (by simp [results, Tryz.results258, go_sem]) rfl ⟨rfl, ?_⟩
    go_grown
theorem withoutInnermost_any (n c b o : Nat) (w : World) (hn : 0 < n) (hc : n ≤ c) (hm : n ≤ maxLen) :
    Calls Tryz.prog 260 #[.slice (some ⟨b, o, none⟩) n c] w fun e w' => e = .returned (.slice (some ⟨b, o, none⟩) (n - 1 : Nat) c) ∧ w = w' := by
  unfold maxLen at hm
  have hq : ((n : Int) - 1).toNat = n - 1 := by omega
  go_enter Tryz.func260, Tryz.ntmps260
  go_wp2
  go_ret
  exact ⟨by first | rfl | (dsimp only; rfl), rfl⟩
def endsL : List (List UInt8) := [[112], [100, 105, 118], [117, 108], [116, 97, 98, 108, 101], [104, 49]]
theorem endsParagraph_any (s : ByteArray) (w : World) :
    Calls Tryz.prog 259 #[.string s] w fun e w' => e = .returned (.bool (inL endsL s)) ∧ w = w' := by
  go_enter Tryz.func259, Tryz.ntmps259
  go_wp2
  all_goals (go_ret; exact ⟨ret_bool (by first | (simp only [inL, endsL, List.any_cons, List.any_nil, beq_flip _ s.toList, *]; rfl) | (exfalso; simp_all; done)), rfl⟩)
/-- the space of an element of that name within them -/
def spcOf (l : List (ByteArray × Int)) (n : ByteArray) : Int := if spaceI n = 0 then (topOf l).2 else spaceI n
theorem run_field1 (x : Value) (y' : Int) (w : World) : (Instr.field 196 (.agg #[x, .int .i64 y']) 1).run Tryz.prog w = .ok (.int .i64 y') w := by kernel_rfl
theorem spaceWithin_any (l : List (ByteArray × Int)) (n : ByteArray) (w : World) (A : Option Addr) (c b o : Nat) (hl : OsIn w A b o l) :
    Calls Tryz.prog 229 #[.slice A l.length c, .string n] w fun e w' => e = .returned (.int .i64 (spcOf l n)) ∧ Below w.heap.size w w' := by
  have HL := Lib.hid hl
  clear hl
  by_cases h : spaceI n = 0
  · have hfd := run_field1 (.string (topOf l).1) (topOf l).2
    have HS := Lib.hid h
    have HE : Hid (spcOf l n = (topOf l).2) := Lib.hid (if_pos h)
    clear h
    go_enter Tryz.func229, Tryz.ntmps229
    go_wp2_with (first | (go_at_call 261; refine (implSpaceOf_any _ _).mono ?_; rintro e w' ⟨rfl, rfl⟩; rw [HS.out]) | (go_at_call 258; refine (innermost_any l _ A c b o HL.out).mono ?_; rintro e w' ⟨rfl, hB⟩; have HB := Lib.hid hB; clear hB))
    go_ret
    exact ⟨ret_int HE.out.symm, HB.out⟩
  · have HE : Hid (spcOf l n = spaceI n) := Lib.hid (if_neg h)
    have h' : (spaceI n == 0) = false := beq_eq_false_iff_ne.2 h
    have h'' : (spaceI n != 0) = true := by simpa using h
    go_enter Tryz.func229, Tryz.ntmps229
    go_wp2_with (first | (go_at_call 261; refine (implSpaceOf_any _ _).mono ?_; rintro e w' ⟨rfl, rfl⟩))
    go_ret
    exact ⟨ret_int HE.out.symm, Below.refl _ _⟩
end Go.Proofs.YtpennadfomnenaaGreatDoor
