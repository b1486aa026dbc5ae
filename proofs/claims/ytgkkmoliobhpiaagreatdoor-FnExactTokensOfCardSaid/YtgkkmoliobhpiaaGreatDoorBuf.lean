import Derived.Test.YtgkkmoliobhpiaaGreatDoorBytes
import Derived.WalkSmall
import Derived.Maps.AppendAt
import Derived.Laws.IdiomStrings
import Derived.Lib.SlBytesRow
namespace Go.Proofs.YtgkkmoliobhpiaaGreatDoor
open Go.ChangeShapes Go.WideShapes Go.ChangeAt Go.RowKit

theorem Tryz.info5 : (Tryz.prog.info? 5).map (fun i => (i.zero, i.size, i.bytes)) = some (some (.int .u8 0), 1, 1) := by kernel_rfl
abbrev cellU (b : UInt8) : Value := .int .u8 (b.toNat : Int)
/-- v is a slice of bytes of the call's own, its bytes are l; of what lay in w0 nothing has turned -/
def OwnB (w0 w : World) (v : Value) (l : List UInt8) : Prop :=
  w.ownsRow w0.heap.size 5 1 v l.length (l.map cellU) ∧ Below w0.heap.size w0 w
theorem OwnB.nil {w0 w : World} (h : Below w0.heap.size w0 w) : OwnB w0 w (.slice none 0 0) [] := ⟨World.ownsRow_nil _ _ _ _, h⟩
theorem OwnB.drewN {w0 w : World} {v : Value} {l : List UInt8} (h : OwnB w0 w v l) (n : Nat) : OwnB w0 (w.drewN n) v l := ⟨h.1, below_drewN h.2 n⟩

theorem run_append_byte {w0 wr : World} {v : Value} {l : List UInt8} (h : OwnB w0 wr v l) (hl : l.length < 1000000000000) (ty : TypeId) {x : Int} {b : UInt8} (hb : x = (b.toNat : Int)) :
    ∃ v' w', (Builtin.append_ #[22, 22] ty #[v, .slice (some ⟨wr.heap.size, 0, none⟩) 1 1]).run Tryz.prog (wr.alloc (.cells #[.int .u8 x] 5)) = .ok v' w' ∧ OwnB w0 w' v' (l ++ [b]) := by
  subst hb
  obtain ⟨i0, hi, hz0, hz1, hz2⟩ := info_parts Tryz.info5
  obtain ⟨v', w', hrun, h2, h3, _⟩ := run_append_own (P := Tryz.prog) (wr.alloc (.cells #[.int .u8 (b.toNat : Int)] 5)) w0.heap.size 22 ty 5 i0 (.int .u8 0) 1 1 Tryz.underlying22 hi hz0 hz1 hz2 rfl (by decide)
    v l.length (l.map cellU) (h.1.alloc _) ⟨wr.heap.size, 0, none⟩ 1 1 [cellU b] rfl (cell_one_new _ _ _) (by simp [Value.oneCell']) (by unfold maxLen; omega) (by omega) (by simp; have := h.2.size; omega)
  refine ⟨v', w', hrun, by simpa using h2, (h.2.alloc h.2.size _).grown h3 (by simp; have := h.2.size; omega) (fun k hk => (h.1.lt k hk).1)⟩

theorem wpList_append_byte {ops : Array Oper} {rest : List Oper} {o : Oper} {a : Act} {Q : Exit → Act → World → Prop} (w0 wr : World) (hgd : o.guard = none) (s x : Operand)
    (ho : o.op = .call { callee := .builtin .append, args := #[s, x], argTypes := #[22, 22] })
    (v : Value) (l : List UInt8) (n : Int) (b : UInt8) (hs : a.eval s = v) (hx : a.eval x = .slice (some ⟨wr.heap.size, 0, none⟩) 1 1) (h : OwnB w0 wr v l) (hl : l.length < 1000000000000) (hb : n = (b.toNat : Int))
    (hK : ∀ v' w', OwnB w0 w' v' (l ++ [b]) → wpList Tryz.prog ops Q rest (a.put o.dst v') w') :
    wpList Tryz.prog ops Q (o :: rest) a (wr.alloc (.cells #[.int .u8 n] 5)) := by
  refine wpList_plain hgd fun _ hK' => ?_
  obtain ⟨v', w', hrun, h2⟩ := run_append_byte h hl o.type hb
  unfold Oper.wp execOp
  simp only [ho, resolve, invoke, builtin, Sem.run_bind, Sem.run_pure, Result.andThen_ok, List.map_toArray, List.map_cons, List.map_nil, hs, hx, hrun]
  exact hK' _ _ (hK v' w' h2)

theorem OwnB.cellAt {w0 w : World} {g cap n : Nat} {l : List UInt8} (h : OwnB w0 w (.slice (some ⟨g, 0, none⟩) n cap) l) : n = l.length ∧ ∀ j (hj : j < l.length), w.cell? ⟨g, j, none⟩ = some (cellU l[j]) := by
  obtain ⟨⟨h1, h2⟩, h3⟩ := h
  have hn : n = l.length := by
    rcases h2 with ⟨he, h0⟩ | ⟨g', cap', cur, he, _⟩
    · cases he
    · injection he
  subst hn
  refine ⟨rfl, fun j hj => ?_⟩
  have := World.ownsRow.cellAt (w := w) (base := w0.heap.size) (e := 5) (size := 1) (xs := l.map cellU) ⟨h1, h2⟩ j (by omega)
  rw [this]; simp [hj]

/-- 'string(b)' -/
theorem run_string_own {w0 w : World} {v : Value} {l : List UInt8} (h : OwnB w0 w v l) : (convert 22 9 v).run Tryz.prog w = .ok (.string ⟨l.toArray⟩) w := by
  have h0 := h
  obtain ⟨⟨h1, h2⟩, h3⟩ := h0
  rcases h2 with ⟨rfl, hz⟩ | ⟨g, cap, cur, rfl, _⟩
  · have : l = [] := List.length_eq_zero_iff.mp hz
    subst this
    rw [run_convert_bytes_string w 22 9 5 none 0 0 Tryz.underlying22 Tryz.underlying5 Tryz.underlying9]
    rfl
  · obtain ⟨_, hc⟩ := h.cellAt
    exact run_convert_bytes_back w 22 9 5 ⟨g, 0, none⟩ cap l Tryz.underlying22 Tryz.underlying5 Tryz.underlying9 (fun j hj => by rw [show (⟨g, 0, none⟩ : Addr).add j = ⟨g, j, none⟩ by cases j <;> simp [Addr.add]]; exact hc j hj)

theorem wpList_string_own {ops : Array Oper} {rest : List Oper} {o : Oper} {a : Act} {Q : Exit → Act → World → Prop} (w0 w : World) (hgd : o.guard = none) (s : Operand)
    (ho : o.op = .convert 22 9 s) (v : Value) (l : List UInt8) (hs : a.eval s = v) (h : OwnB w0 w v l)
    (hK : wpList Tryz.prog ops Q rest (a.put o.dst (.string ⟨l.toArray⟩)) w) :
    wpList Tryz.prog ops Q (o :: rest) a w := by
  refine wpList_plain hgd fun _ hK' => ?_
  have hrun := run_string_own h
  unfold Oper.wp
  simp [execOp, ho, hs, hrun, Result.andThen]
  exact hK' _ _ hK
end Go.Proofs.YtgkkmoliobhpiaaGreatDoor
