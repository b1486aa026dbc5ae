import Derived.Test.YtgkpoimapmdogaaOp7
import Derived.Test.YtgkpoimapmdogaaDrawn
import Derived.Maps.AppendAt
import Derived.Deep.DeepCutAuto
namespace Go.Proofs.Ytgkpoimapmdogaa
open Go.ChangeShapes Go.WideShapes Go.ChangeAt Go.RowKit Go.Deep

def osVals : List (ByteArray × Int) → List Value
  | [] => []
  | x :: r => .string x.1 :: .int .i64 x.2 :: osVals r
theorem osVals_len : ∀ l : List (ByteArray × Int), (osVals l).length = l.length * 2
  | [] => rfl
  | _ :: r => by simp only [osVals, List.length_cons, osVals_len r]; omega
theorem osVals_app : ∀ p q : List (ByteArray × Int), osVals (p ++ q) = osVals p ++ osVals q
  | [], _ => rfl
  | _ :: p, q => by simp only [List.cons_append, osVals, osVals_app p q]
theorem infoOpen : (Try.prog.info? 31).map (fun i => (i.zero, i.size, i.bytes)) = some (some (.agg #[.string ⟨#[]⟩, .int .i64 0]), 2, 24) := by kernel_rfl
theorem info_ofO {t : TypeId} {z : Value} {s b : Nat} (h : (Try.prog.info? t).map (fun i => (i.zero, i.size, i.bytes)) = some (some z, s, b)) : ∃ i, Try.prog.info? t = some i ∧ i.zero = some z ∧ i.size = s ∧ i.bytes = b := by
  obtain ⟨i, hi, hzz⟩ := Option.map_eq_some_iff.1 h
  simp only [Prod.mk.injEq] at hzz
  exact ⟨i, hi, hzz⟩
/-- a row of opens of one's own, from base on -/
def ORow (w : World) (base : Nat) (v : Value) (l : List (ByteArray × Int)) : Prop := w.ownsRow base 31 2 v l.length (osVals l)
def SmallO (l : List (ByteArray × Int)) : Prop := ∀ x ∈ l, x.1.size ≤ 20
theorem osAt_of {w : World} {b : Nat} : ∀ {l : List (ByteArray × Int)} {o : Nat}, SmallO l → (∀ j u, (osVals l)[j]? = some u → w.cell? ⟨b, o + j, none⟩ = some u) → OsAt w b o l
  | [], _, _, _ => trivial
  | x :: r, o, hs, h => by
    refine ⟨h 0 _ rfl, h 1 _ rfl, ?_, osAt_of (fun y hy => hs y (by simp [hy])) fun j u hj => ?_⟩
    · have := hs x (by simp); unfold maxLen; omega
    · have := h (j + 2) u (by simpa [osVals] using hj)
      rwa [show o + 2 + j = o + (j + 2) by omega]
theorem ORow.form {w : World} {base : Nat} {v : Value} {l : List (ByteArray × Int)} (h : ORow w base v l) (hs : SmallO l) (hl : l.length ≤ 4096) : ∃ A c b, v = .slice A l.length c ∧ Hd A b 0 l.length c ∧ OsIn w A b 0 l := by
  have hc := fun g hg => World.ownsRow.cells h (g := g) hg
  obtain ⟨hlen, h⟩ := h
  rcases h with ⟨rfl, h0⟩ | ⟨g, cap, cur, rfl, hb, hg, hn, hm, hs2, ht⟩
  · obtain rfl : l = [] := List.length_eq_zero_iff.1 h0
    exact ⟨none, 0, 0, rfl, ⟨Nat.le_refl _, Or.inr ⟨rfl, rfl⟩⟩, ⟨Nat.zero_le _, fun h => absurd h (Nat.lt_irrefl _)⟩, trivial⟩
  · refine ⟨_, cap, g, rfl, ⟨hn, Or.inl rfl⟩, ⟨by unfold maxLen; omega, fun _ => ⟨rfl, Nat.zero_le _, (Array.getElem?_eq_some_iff.1 hg).1⟩⟩, osAt_of hs fun j u hj => ?_⟩
    have := hc g rfl j u hj
    rw [Addr.add_lit] at this
    exact this
/-- what is kept in the blocks from base on -/
theorem ORow.carry {w w' : World} {base : Nat} {v : Value} {l : List (ByteArray × Int)} (h : ORow w base v l) (hb : ∀ b, base ≤ b → b < w.heap.size → w'.heap[b]? = w.heap[b]?) : ORow w' base v l := by
  obtain ⟨hl, ho⟩ := h
  refine ⟨hl, ?_⟩
  rcases ho with ho | ⟨g, cap, cur, h1, h2, h3, h4, h5, h6, h7⟩
  · exact Or.inl ho
  · exact Or.inr ⟨g, cap, cur, h1, h2, by rw [hb g h2 (Array.getElem?_eq_some_iff.1 h3).1]; exact h3, h4, h5, h6, h7⟩
theorem ORow.moved {w w' : World} {base S : Nat} {v : Value} {l : List (ByteArray × Int)} (h : ORow w base v l) (hm : Moved S w w') (hS : S < base) : ORow w' base v l :=
  h.carry fun b h1 h2 => hm.other b (by omega) h2
theorem ORow.below {w w' : World} {base : Nat} {v : Value} {l : List (ByteArray × Int)} (h : ORow w base v l) (hB : Below w.heap.size w w') : ORow w' base v l := h.carry fun b _ h2 => hB.block b h2
/-- an open put behind them -/
theorem wpList_push_open {ops : Array Oper} {rest : List Oper} {o : Oper} {a : Act} {Q : Exit → Act → World → Prop} {w : World} (hgd : o.guard = none) (s x : Operand)
    (ho : o.op = .call { callee := .builtin .append, args := #[s, x], argTypes := #[23, 23] })
    (M : Nat) (v : Value) (L : List (ByteArray × Int)) (n : ByteArray) (z : Int) (hv : a.eval s = v) (hG : ORow w M v L) (hM : M ≤ w.heap.size) (hL : L.length ≤ 4096)
    (hx : a.eval x = .slice (some ⟨w.heap.size, 0, none⟩) 1 1)
    (h : ∀ v' w', ORow w' M v' (L ++ [(n, z)]) → Below M w w' → (∀ k, k < w.heap.size → v.ownBlock ≠ some k → w'.heap[k]? = w.heap[k]?) → wpList Try.prog ops Q rest (a.put o.dst v') w') :
    wpList Try.prog ops Q (o :: rest) a (w.alloc (.cells #[.string n, .int .i64 z] 31)) := by
  obtain ⟨i0, hi0, hz0, hz1, hz2⟩ := info_ofO infoOpen
  have hlt : ∀ q, v.ownBlock = some q → M ≤ q ∧ q < w.heap.size := fun q hq => World.ownsRow.lt hG q hq
  have hMw3 : M ≤ (w.alloc (.cells #[.string n, .int .i64 z] 31)).heap.size := by simp; omega
  refine wpList_append_own_at _ hgd s x 23 ho M 31 i0 _ 2 24 Try.underlying23 hi0 hz0 hz1 hz2 rfl (by omega) v L.length (osVals L) hv (World.ownsRow.alloc hG _) ⟨w.heap.size, 0, none⟩ 1 1 [.string n, .int .i64 z] hx rfl (cell_two_new _ _ _ _) (by intro u hu; simp only [List.mem_cons, List.not_mem_nil, or_false] at hu; rcases hu with rfl | rfl <;> rfl) (by unfold maxLen; omega) (by omega) hMw3 ?_
  intro v' w' hown hgrow _ hat
  have hA := (Below.refl w.heap.size w).alloc (Nat.le_refl _) (.cells #[.string n, .int .i64 z] 31)
  refine h v' w' ?_ (((Below.refl M w).alloc hM _).grown hgrow hMw3 fun q hq => (hlt q hq).1) fun k h1 h2 => (hgrow.block k (by simp; omega) fun e => h2 e.symm).trans (hA.block k h1)
  unfold ORow
  rw [List.length_append, osVals_app]
  exact hown

theorem Src.carry {B S k : Nat} {w w' : World} (h : Src B S k w) (hm : ∀ b, b ≤ S → b < w.heap.size → w'.heap[b]? = w.heap[b]?) : Src B S k w' := by
  have hS := h.lt
  obtain ⟨h0, o, n, cap, p, d, hs, hc, hr⟩ := h
  refine ⟨h0, o, n, cap, p, d, (hm S (Nat.le_refl _) hS).trans hs, ⟨hc.1, fun j hj => ?_⟩, hr⟩
  obtain ⟨a, z, e1, e2, e3, e4⟩ := hc.2 j hj
  refine ⟨a, z, e1, e2, ?_, e4⟩
  rw [← e3]
  exact World.cell?_of_block (by rw [add_block]; exact hm _ (by omega) (by omega))
end Go.Proofs.Ytgkpoimapmdogaa
