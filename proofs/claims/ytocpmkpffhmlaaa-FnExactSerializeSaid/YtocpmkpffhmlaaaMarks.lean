
import Derived.Test.YtocpmkpffhmlaaaEsc
import Derived.Test.YtocpmkpffhmlaaaBuild
import Derived.StillTailTactics
namespace Go.Proofs.Ytocpmkpffhmlaaa
open Go.ChangeShapes Go.WideShapes Go.ChangeAt Go.RowKit Go.Shelf

/-- the bytes of some texts, one behind the other -/
def flat (ps : List ByteArray) : List UInt8 := ps.flatMap fun p => p.data.toList
theorem flat_snoc {ps : List ByteArray} {k : Nat} (h : k < ps.length) : flat (ps.take (k + 1)) = flat (ps.take k) ++ ps[k].data.toList := by
  unfold flat; rw [List.take_succ_eq_append_getElem h, List.flatMap_append]; congr 1; simp
theorem flat_le {ps : List ByteArray} {k : Nat} (h : k < ps.length) : (flat (ps.take k)).length + ps[k].size ≤ (flat ps).length := by
  have e : flat ps = flat (ps.take (k + 1)) ++ flat (ps.drop (k + 1)) := by
    unfold flat; rw [← List.flatMap_append, List.take_append_drop]
  rw [e, flat_snoc h]; simp only [List.length_append]
  have : ps[k].data.toList.length = ps[k].size := by simp
  omega
/-- block p holds the texts ps -/
def Texts (p : Nat) (ps : List ByteArray) (w : World) : Prop := w.heap[p]? = some (.cells (ps.map Value.string).toArray 9)
theorem Texts.cell {p : Nat} {ps : List ByteArray} {w : World} (h : Texts p ps w) {k : Nat} (hk : k < ps.length) : w.cell? ⟨p, k, none⟩ = some (.string ps[k]) := by
  unfold World.cell?
  rw [h]; simp [hk]
theorem Texts.kept {p b : Nat} {ps : List ByteArray} {w w' : World} (h : Texts p ps w) (hk : Kept b w w') (hpb : p ≠ b) : Texts p ps w' :=
  hk p _ h (fun e => hpb (Option.some.inj e)) (fun c fz e => by injection e with e1 e2; exact absurd e2 (by decide))
theorem Texts.lt {p : Nat} {ps : List ByteArray} {w : World} (h : Texts p ps w) : p < w.heap.size := (Array.getElem?_eq_some_iff.1 h).1

set_option maxHeartbeats 1000000 in
theorem writePieces_any (B b p : Nat) (l : List UInt8) (ps : List ByteArray) (w : World) (hI : BldF B b (Lib.byteCells l) w) (hp : Texts p ps w) (hpb : p ≠ b) (hn : ps.length ≤ 1000) (hlen : l.length + (flat ps).length ≤ 140737488355328) (hBw : B ≤ w.heap.size) :
    Calls Try.prog 39 #[.pointer (some ⟨b, 0, none⟩), .slice (some ⟨p, 0, none⟩) ps.length ps.length] w fun e w' => e = .returned (.tuple #[]) ∧ (BldF B b (Lib.byteCells (l ++ flat ps)) w' ∧ Below B w w' ∧ Kept b w w') := by
  go_enter Try.func39, Try.ntmps39
  go_wp2
  go_loopw [8] (fun i wr => ∃ k : Nat, k ≤ ps.length ∧ i = .int .i64 k ∧ (BldF B b (Lib.byteCells (l ++ flat (ps.take k))) wr ∧ Below B w wr ∧ Kept b w wr)) (fun i _ => ps.length - (intOf i).toNat)
  case atStart => exact ⟨0, by omega, rfl, by simpa [flat] using hI, Below.refl _ _, Lib.OthersKept.refl _ _ _⟩
  case round =>
    obtain ⟨k, hk, rfl, h1, h2, h3⟩ := hrel
    by_cases hlt : k < ps.length
    · have hc := (hp.kept h3 hpb).cell hlt
      have hfl := flat_le hlt
      have hsz : B ≤ wr.heap.size := by have := h2.size; omega
      have hl : (l ++ flat (ps.take k)).length + ps[k].size ≤ 140737488355328 := by simp only [List.length_append]; omega
      go_wp2_with (go_at_call 52; refine (writeBytes_any B b _ ps[k] _ h1 hl hsz).mono ?_)
      rintro e w1 ⟨rfl, g1, g2, g3⟩
      go_wp2
      go_roundw
      case rel => exact ⟨k + 1, by omega, by go_num, by rw [flat_snoc hlt, ← List.append_assoc]; exact g1, h2.trans g2, h3.trans g3⟩
      case measure => simp [intOf]; omega
    · obtain rfl : k = ps.length := by omega
      rw [List.take_length] at h1
      go_wp2
      go_end0
      exact ⟨rfl, h1, h2, h3⟩

/-- what stands for a mark -/
def markOf (r : Nat) : ByteArray := if r = 38 then ⟨#[38, 97, 109, 112, 59]⟩ else if r = 60 then ⟨#[38, 108, 116, 59]⟩ else if r = 62 then ⟨#[38, 103, 116, 59]⟩ else ⟨#[38, 113, 117, 111, 116, 59]⟩
def allMarks : List Nat := [38, 60, 62, 34]
theorem escapeOf_any (r : Nat) (h : r ∈ allMarks) (w : World) :
    Calls Try.prog 67 #[.int .i32 (r : Int)] w fun e w' => e = .returned (.string (markOf r)) ∧ w = w' := by
  simp only [allMarks, List.mem_cons, List.not_mem_nil, or_false] at h
  rcases h with rfl | rfl | rfl | rfl
  all_goals
    go_enter Try.func67, Try.ntmps67
    go_wp2
    go_ret
    exact ⟨rfl, rfl⟩

/-- block m holds the numbers ms -/
def Nums (m : Nat) (ms : List Nat) (w : World) : Prop := w.heap[m]? = some (.cells (ms.map fun (r : Nat) => Value.int .i32 (r : Int)).toArray 21)
theorem Nums.cell {m : Nat} {ms : List Nat} {w : World} (h : Nums m ms w) {k : Nat} (hk : k < ms.length) : w.cell? ⟨m, k, none⟩ = some (.int .i32 (ms[k] : Int)) := by
  unfold World.cell?
  rw [h]; simp [hk]
def isIn (ms : List Nat) (r : Nat) : Bool := ms.any fun x => x == r
def placeIn (ms : List Nat) (r : Nat) : Int := match ms.findIdx? (fun x => x == r) with | some i => (i : Int) | none => -1
def NoneUp (ms : List Nat) (r k : Nat) : Prop := isIn (ms.take k) r = false
theorem isIn_snoc {ms : List Nat} {r k : Nat} (h : k < ms.length) : isIn (ms.take (k + 1)) r = (isIn (ms.take k) r || (ms[k] == r)) := by
  unfold isIn; rw [List.take_succ_eq_append_getElem h, List.any_append]; simp
theorem isIn_hit {ms : List Nat} {r k : Nat} (hk : k < ms.length) (h : (ms[k] == r) = true) : isIn ms r = true := by
  rw [isIn, List.any_eq_true]; exact ⟨_, List.getElem_mem hk, h⟩
/-- the answer, said as its sign -/
def Found (ms : List Nat) (r : Nat) (w : World) (e : Ending) (w' : World) : Prop := ∃ z : Int, e = .returned (.int .i64 z) ∧ ((0 ≤ z ∧ isIn ms r = true) ∨ (z = -1 ∧ isIn ms r = false)) ∧ w = w'

set_option maxHeartbeats 1000000 in
theorem slicesIndex_any (m : Nat) (ms : List Nat) (r : Nat) (w : World) (hm : Nums m ms w) (hn : ms.length ≤ 1000) :
    Calls Try.prog 73 #[.slice (some ⟨m, 0, none⟩) ms.length ms.length, .int .i32 (r : Int)] w (Found ms r w) := by
  go_enter Try.func73, Try.ntmps73
  go_wp2
  go_loop [8] (fun i => ∃ k : Nat, k ≤ ms.length ∧ i = .int .i64 k ∧ NoneUp ms r k) (fun i => ms.length - (intOf i).toNat)
  case atStart => exact ⟨0, by omega, rfl, by simp [NoneUp, isIn]⟩
  case round =>
    obtain ⟨k, hk, rfl, hall⟩ := hrel
    have HA := Lib.hid hall
    clear hall
    by_cases hlt : k < ms.length
    · have hc := hm.cell hlt
      by_cases hf : ((r : Int) == (ms[k] : Int)) = true
      · have HF := Lib.hid hf
        go_wp2
        go_ret
        exact ⟨k, rfl, Or.inl ⟨by omega, isIn_hit hlt (by have := HF.out; simp at this; simp; omega)⟩, rfl⟩
      · have hf' : ((r : Int) == (ms[k] : Int)) = false := by simpa using hf
        have HF := Lib.hid hf'
        clear hf
        go_wp2
        go_round
        case rel => exact ⟨k + 1, by omega, by go_num, by rw [NoneUp, isIn_snoc hlt, HA.out]; have := HF.out; simp at this; simp; omega⟩
        case measure => simp [intOf]; omega
    · obtain rfl : k = ms.length := by omega
      go_wp2
      go_ret
      exact ⟨-1, rfl, Or.inr ⟨rfl, by have := HA.out; rwa [NoneUp, List.take_length] at this⟩, rfl⟩

theorem contains_yes (m : Nat) (ms : List Nat) (r : Nat) (w : World) (hm : Nums m ms w) (hn : ms.length ≤ 1000) (h : isIn ms r = true) :
    Calls Try.prog 66 #[.slice (some ⟨m, 0, none⟩) ms.length ms.length, .int .i32 (r : Int)] w fun e w' => e = .returned (.bool true) ∧ w = w' := by
  go_enter Try.func66, Try.ntmps66
  go_wp2_with (go_at_call 73; refine (slicesIndex_any m ms r _ hm hn).mono ?_)
  rintro e w1 ⟨z, rfl, hz, rfl⟩
  have hz0 : 0 ≤ z := by rcases hz with ⟨h1, _⟩ | ⟨_, h2⟩
                         · exact h1
                         · rw [h] at h2; cases h2
  clear hz
  go_wp2
  go_ret
  exact ⟨rfl, rfl⟩
theorem contains_no (m : Nat) (ms : List Nat) (r : Nat) (w : World) (hm : Nums m ms w) (hn : ms.length ≤ 1000) (h : isIn ms r = false) :
    Calls Try.prog 66 #[.slice (some ⟨m, 0, none⟩) ms.length ms.length, .int .i32 (r : Int)] w fun e w' => e = .returned (.bool false) ∧ w = w' := by
  go_enter Try.func66, Try.ntmps66
  go_wp2_with (go_at_call 73; refine (slicesIndex_any m ms r _ hm hn).mono ?_)
  rintro e w1 ⟨z, rfl, hz, rfl⟩
  obtain rfl : z = -1 := by rcases hz with ⟨_, h2⟩ | ⟨h1, _⟩
                            · rw [h] at h2; cases h2
                            · exact h1
  clear hz
  go_wp2
  go_ret
  exact ⟨rfl, rfl⟩
end Go.Proofs.Ytocpmkpffhmlaaa
