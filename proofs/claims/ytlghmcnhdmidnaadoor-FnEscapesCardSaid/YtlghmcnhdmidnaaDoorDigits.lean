import Derived.Test.YtlghmcnhdmidnaaDoorUn
namespace Go.Proofs.YtlghmcnhdmidnaaDoor
open Go.ChangeShapes Go.WideShapes Go.ChangeAt Go.RowKit

/-- a row that is not nil -/
def RowOf (w0 w : World) (v : Value) (l : List UInt8) : Prop := OwnB w0 w v l ∧ ∃ g cap, v = .slice (some ⟨g, 0, none⟩) l.length cap
theorem RowOf.of {w0 w : World} {v : Value} {l : List UInt8} (h : OwnB w0 w v l) (hn : v ≠ .slice none 0 0) : RowOf w0 w v l := by
  refine ⟨h, ?_⟩
  rcases h.1.2 with ⟨h1, _⟩ | ⟨g, cap, cur, h1, _⟩
  · exact absurd h1 hn
  · exact ⟨g, cap, h1⟩
theorem RowOf.empty (w : World) : RowOf w (w.alloc (.cells #[] 5)) (.slice (some ⟨w.heap.size, 0, none⟩) 0 0) [] := ⟨OwnB.empty w, _, _, rfl⟩
theorem own_one (w0 w : World) (hb : w0.heap.size ≤ w.heap.size) (b : UInt8) : (w.alloc (.cells #[cellU b] 5)).ownsRow w0.heap.size 5 1 (.slice (some ⟨w.heap.size, 0, none⟩) 1 1) 1 [cellU b] := by
  have := World.ownsRow_lit (base := w0.heap.size) (e := 5) (size := 1) w #[cellU b] 1 hb (by decide) rfl
  exact this
theorem run_append_row {w0 wr : World} {v : Value} {l : List UInt8} (h : RowOf w0 wr v l) (hl : l.length < 1000000) (ty : TypeId) {x : Int} {b : UInt8} (hb : x = (b.toNat : Int)) :
    ∃ v' w', (Builtin.append_ #[22, 22] ty #[.slice (some ⟨wr.heap.size, 0, none⟩) 1 1, v]).run Tryd.prog (wr.alloc (.cells #[.int .u8 x] 5)) = .ok v' w' ∧ RowOf w0 w' v' (b :: l) := by
  subst hb
  obtain ⟨h, g, cap, rfl⟩ := h
  have hsz : w0.heap.size ≤ wr.heap.size := h.2.size
  obtain ⟨i0, hi, hz0, hz1, hz2⟩ := info_parts Tryd.info5
  obtain ⟨_, hc⟩ := h.cellAt
  have hglt : g < wr.heap.size := by
    rcases h.1.2 with ⟨h1, _⟩ | ⟨g', cap', cur, h1, _, h4, _⟩
    · cases h1
    · cases h1; exact (Array.getElem?_eq_some_iff.1 h4).1
  obtain ⟨v', w', hrun, h2, h3, h4⟩ := run_append_own (P := Tryd.prog) (wr.alloc (.cells #[cellU b] 5)) w0.heap.size 22 ty 5 i0 (.int .u8 0) 1 1 Tryd.underlying22 hi hz0 hz1 hz2 rfl (by decide)
    (.slice (some ⟨wr.heap.size, 0, none⟩) 1 1) 1 [cellU b] (own_one w0 wr hsz b) ⟨g, 0, none⟩ l.length cap (l.map cellU) (by simp)
    (fun j u hj => by
      obtain ⟨hj1, hj2⟩ := List.getElem?_eq_some_iff.1 hj
      simp only [List.length_map] at hj1
      rw [show (⟨g, 0, none⟩ : Addr).add j = ⟨g, j, none⟩ by cases j <;> simp [Addr.add]]
      rw [List.getElem_map] at hj2
      rw [← hj2]
      exact (World.cell?_alloc_past (w := wr) _ g j hglt).trans (hc j hj1))
    (fun u hu => by obtain ⟨c, _, rfl⟩ := List.mem_map.1 hu; rfl) (by unfold maxLen; omega) (by omega) (by simp; omega)
  refine ⟨v', w', hrun, RowOf.of ⟨by simpa [Nat.add_comm] using h2, ?_⟩ (fun e => by have := (h4.1 e).1; cases this)⟩
  exact (h.2.alloc hsz _).grown h3 (by simp; omega) (fun k hk => by cases hk; exact hsz)
theorem wpList_append_row {ops : Array Oper} {rest : List Oper} {o : Oper} {a : Act} {Q : Exit → Act → World → Prop} (w0 wr : World) (hgd : o.guard = none) (s x : Operand)
    (ho : o.op = .call { callee := .builtin .append, args := #[x, s], argTypes := #[22, 22] })
    (v : Value) (l : List UInt8) (n : Int) (b : UInt8) (hs : a.eval s = v) (hx : a.eval x = .slice (some ⟨wr.heap.size, 0, none⟩) 1 1) (h : RowOf w0 wr v l) (hl : l.length < 1000000) (hb : n = (b.toNat : Int))
    (hK : ∀ v' w', RowOf w0 w' v' (b :: l) → wpList Tryd.prog ops Q rest (a.put o.dst v') w') :
    wpList Tryd.prog ops Q (o :: rest) a (wr.alloc (.cells #[.int .u8 n] 5)) := by
  refine wpList_plain hgd fun _ hK' => ?_
  obtain ⟨v', w', hrun, h2⟩ := run_append_row h hl o.type hb
  unfold Oper.wp execOp
  simp only [ho, resolve, invoke, builtin, Sem.run_bind, Sem.run_pure, Result.andThen_ok, List.map_toArray, List.map_cons, List.map_nil, hs, hx, hrun]
  exact hK' _ _ (hK v' w' h2)
/-- the digits of a number, as the law makes them -/
def dg (k : Nat) : List UInt8 := if k = 0 then [] else dec3 k
theorem dg_step : ∀ k : Fin 127, 1 ≤ k.val → dg k = dg (k / 10) ++ [UInt8.ofNat (48 + k % 10)] := by decide +kernel
/-- how it stands at a round's head -/
def DigTo (n k : Nat) (l : List UInt8) : Prop := dg k ++ l = dg n ∧ l.length + k ≤ 126 + 3 ∧ l.length ≤ 126
theorem DigTo.step {n k : Nat} {l : List UInt8} (h : DigTo n k l) (h0 : 1 ≤ k) (h1 : k ≤ 126) : dg (k / 10) ++ (UInt8.ofNat (48 + k % 10) :: l) = dg n := by
  have e := dg_step ⟨k, by omega⟩ h0
  simp only at e
  rw [← h.1, e, List.append_assoc]; rfl
end Go.Proofs.YtlghmcnhdmidnaaDoor
