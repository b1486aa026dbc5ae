import Derived.Test.YtpennadfomnenaaGreatDoorProg
import Derived.WalkKit
import Derived.ProofKit
import Derived.Lib.Hide
import Derived.Below
import Derived.Shelf.Strings.BuilderK
import Derived.StillTailTactics
import Derived.Laws.RangeAny
import Derived.Lib.SpaceUEq
import Derived.Test.YtpennadfomnenaaGreatDoorQ01
set_option linter.unusedVariables false
namespace Go.Proofs.YtpennadfomnenaaGreatDoor
open Go.ChangeShapes Go.WideShapes Go.ChangeAt Go.RowKit Go.Shelf

theorem sizeBuilder : (Tryz.prog.info? 104).map (·.size) = some 2 := by kernel_rfl
theorem liesBuilder : liesAt Tryz.prog Tryz.prog.depth 104 (2 / Tryz.prog.cellsOf 104) 0 104 1 = true := by kernel_rfl
theorem infoByte : (Tryz.prog.info? 5).map (fun i => (i.zero, i.size, i.bytes)) = some (some (.int .u8 0), 1, 1) := by kernel_rfl
set_option maxHeartbeats 1000000 in
set_option maxRecDepth 100000 in
/-- at a builder that was written -/
theorem copyCheck_used (b : Nat) (w : World) (h0 : w.cell? ⟨b, 0, none⟩ = some (.pointer (some ⟨b, 0, none⟩))) :
    Calls Tryz.prog 236 #[.pointer (some ⟨b, 0, none⟩)] w fun e w' => e = .returned (.tuple #[]) ∧ w = w' := by
  obtain ⟨j, hj, _⟩ := Option.map_eq_some_iff.1 sizeBuilder
  go_enter Tryz.func236, Tryz.ntmps236
  go_wp2
  rw [Lib.run_neq_ptr_same w _ Tryz.underlying102 hj]
  go_wp2
  go_end0
  exact ⟨rfl, rfl⟩
set_option maxHeartbeats 1000000 in
set_option maxRecDepth 100000 in
/-- at a fresh builder: it stores its own address -/
theorem copyCheck_fresh (b : Nat) (w : World) (h0 : w.cell? ⟨b, 0, none⟩ = some (.pointer none)) (hsh : w.shape? b = some (104, 2)) (hfz : w.frozen? ⟨b, 0, none⟩ = false) :
    Calls Tryz.prog 236 #[.pointer (some ⟨b, 0, none⟩)] w fun e w' => e = .returned (.tuple #[]) ∧ w' = w.setCell ⟨b, 0, none⟩ (.pointer (some ⟨b, 0, none⟩)) := by
  obtain ⟨j, hj, hjs⟩ := Option.map_eq_some_iff.1 sizeBuilder
  go_enter Tryz.func236, Tryz.ntmps236
  go_wp2
  rw [Lib.run_to_unsafe w ⟨b, 0, none⟩ Tryz.underlying102 Tryz.underlying227 hj (by rw [hjs]; decide) hsh (Nat.zero_lt_succ 1)]
  simp only [Result.andThen]
  rw [Oper.upon_value]
  go_wp2
  rw [run_callFunc_extern Tryz.func262 (by kernel_rfl) (by kernel_rfl) (by kernel_rfl) (e := Extern.AbiNoEscape.same) (by kernel_rfl)]
  rw [Lib.run_noEscape]
  simp only [Result.andThen]
  rw [Oper.upon_value]
  go_wp2
  rw [Lib.run_from_unsafe w ⟨b, 0, none⟩ Tryz.underlying227 Tryz.underlying102 hj hsh liesBuilder]
  simp only [Result.andThen]
  rw [Oper.upon_value]
  go_wp2
  go_end0
  exact ⟨rfl, rfl⟩
/-- block b, from B on, is a builder that holds bs -/
abbrev BldF (B b : Nat) (bs : List Value) (w : World) : Prop := Lib.IsBuilderF 104 5 B b bs w
abbrev Kept (b : Nat) (w w' : World) : Prop := Lib.OthersKept 5 (some b) w w'
theorem copyCheck_any (B b : Nat) (bs : List Value) (w : World) (h : BldF B b bs w) :
    Calls Tryz.prog 236 #[.pointer (some ⟨b, 0, none⟩)] w fun e w' => e = .returned (.tuple #[]) ∧ (Lib.BuilderAtF 104 5 B b (.pointer (some ⟨b, 0, none⟩)) bs w' ∧ Below B w w' ∧ Kept b w w') := by
  rcases h with h | h
  · refine (copyCheck_fresh b w h.cell0 h.shape h.frozen0).mono ?_
    rintro e w' ⟨rfl, rfl⟩
    exact ⟨rfl, h.used _, (Below.refl B w).setCell (p := ⟨b, 0, none⟩) h.1 _, (Lib.OthersKept.refl _ _ w).setCell ⟨b, 0, none⟩ rfl _⟩
  · refine (copyCheck_used b w h.cell0).mono ?_
    rintro e w' ⟨rfl, rfl⟩
    exact ⟨rfl, h, Below.refl B _, Lib.OthersKept.refl _ _ _⟩
set_option maxHeartbeats 2000000 in
set_option maxRecDepth 100000 in
theorem writeString_any (B b : Nat) (bs : List Value) (s : ByteArray) (w : World) (h : BldF B b bs w) (hlen : bs.length + s.size ≤ 140737488355328) (hBw : B ≤ w.heap.size) :
    Calls Tryz.prog 201 #[.pointer (some ⟨b, 0, none⟩), .string s] w fun e w' => e = .returned (.tuple #[.int .i64 s.size, .nilIface]) ∧ (BldF B b (bs ++ Lib.strCells s) w' ∧ Below B w w' ∧ Kept b w w') := by
  obtain ⟨i0, hi, hz0, hz1, hz2⟩ := info_parts infoByte
  go_enter Tryz.func201, Tryz.ntmps201
  go_wp2_with (go_at_call 236; refine (copyCheck_any B b bs _ h).mono ?_)
  rintro e w1 ⟨rfl, h1, hb1, hk1⟩
  obtain ⟨hB, v, hbk, hown, hne⟩ := h1
  have c0 : w1.cell? ⟨b, 0, none⟩ = some (.pointer (some ⟨b, 0, none⟩)) := by rw [Lib.cell_of_heap hbk]; rfl
  have c1 : w1.cell? ⟨b, 1, none⟩ = some v := by rw [Lib.cell_of_heap hbk]; rfl
  go_wp2_with (at_builtin; refine Lib.wpList_append_own_stringF _ rfl _ _ 22 9 rfl B 5 i0 Tryz.underlying22 Tryz.underlying9 hi hz0 hz1 hz2 _ _ _ rfl hown s rfl ?c3 ?c4 ?c5 ?_)
  case c3 => unfold maxLen; omega
  case c4 => omega
  case c5 => have := hb1.size; omega
  intro v' w2 hown' hgrow _
  have hlt : b < w1.heap.size := by
    rcases Nat.lt_or_ge b w1.heap.size with h' | h'
    · exact h'
    · simp [Array.getElem?_eq_none h'] at hbk
  have hb2 : w2.heap[b]? = some (.cells #[.pointer (some ⟨b, 0, none⟩), v] 104 (0, 0)) := by
    rw [hgrow.block b hlt (fun e => hne e.symm)]
    exact hbk
  have d0 : w2.cell? ⟨b, 0, none⟩ = some (.pointer (some ⟨b, 0, none⟩)) := by rw [Lib.cell_of_heap hb2]; rfl
  have d1 : w2.cell? ⟨b, 1, none⟩ = some v := by rw [Lib.cell_of_heap hb2]; rfl
  have f1 : w2.frozen? ⟨b, 1, none⟩ = false := Lib.frozen_of_heap hb2 1
  obtain ⟨ao, n', cap, rfl⟩ : ∃ ao n' cap, v' = .slice ao n' cap := by
    rcases hown'.2 with ⟨hv, _⟩ | ⟨g, cap, cur, fz, hv, _⟩
    · exact ⟨_, _, _, hv⟩
    · exact ⟨_, _, _, hv⟩
  go_wp2
  go_ret2
  refine ⟨rfl, ?_, ?_, (hk1.grown hgrow (Lib.ownsRowF_kind hown)).setCell ⟨b, 1, none⟩ rfl _⟩
  · exact Or.inr (Lib.BuilderAtF.put (T := 104) (e := 5) hB hb2 (bs' := bs ++ Lib.strCells s) (by simpa [Lib.strCells_length] using hown') (by decide))
  · exact (hb1.grown hgrow (by have := hb1.size; omega) (fun k hk => (hown.lt k hk).1)).setCell (p := ⟨b, 1, none⟩) hB _
def renS : Go.Shelf.Ren := ⟨fun | 169 => 91 | n => n, fun | 70 => 102 | 9 => 9 | 0 => 0 | 72 => 104 | 37 => 22 | 127 => 170 | 3 => 3 | 5 => 5 | n => n, fun | n => n⟩
theorem laysS : Go.Proofs.Lays.n169 Tryz.prog renS := {
  mixed := by kernel_rfl
  f169 := Tryz.func91.trans (congrArg some (by kernel_rfl))
  t0 := Tryz.underlying0
  a0 := Tryz.isAgg0
  z0 := Tryz.sizeOf0
  v0 := Tryz.zeroValue0
  t3 := Tryz.underlying3
  a3 := Tryz.isAgg3
  z3 := Tryz.sizeOf3
  v3 := Tryz.zeroValue3
  t9 := Tryz.underlying9
  a9 := Tryz.isAgg9
  z9 := Tryz.sizeOf9
  v9 := Tryz.zeroValue9
  t37 := Tryz.underlying22
  a37 := Tryz.isAgg22
  z37 := Tryz.sizeOf22
  v37 := Tryz.zeroValue22
  t70 := Tryz.underlying102
  a70 := Tryz.isAgg102
  z70 := Tryz.sizeOf102
  v70 := Tryz.zeroValue102
  t72 := Tryz.underlying104
  a72 := Tryz.isAgg104
  z72 := Tryz.sizeOf104
  v72 := Tryz.zeroValue104
  t127 := Tryz.underlying170
  a127 := Tryz.isAgg170
  z127 := Tryz.sizeOf170
  v127 := Tryz.zeroValue170 }
set_option maxRecDepth 100000 in
theorem extraS : Builder.Extra Tryz.prog renS := {
  sizeBuilder := sizeBuilder
  liesBuilder := liesBuilder
  t5 := Tryz.underlying5
  a5 := Tryz.isAgg5
  z5 := Tryz.sizeOf5
  v5 := Tryz.zeroValue5
  infoByte := infoByte
  cellsByte := by kernel_rfl
  sizeByte := by kernel_rfl
  neB5 := by decide }
theorem string_any (B b : Nat) (l : List UInt8) (w : World) (h : BldF B b (Lib.byteCells l) w) (hBw : B ≤ w.heap.size) :
    Calls Tryz.prog 91 #[.pointer (some ⟨b, 0, none⟩)] w fun e w' => e = .returned (.string ⟨l.toArray⟩) ∧ (BldF B b (Lib.byteCells l) w' ∧ Below B w w' ∧ Kept b w w') :=
  Any.Builder_String_any_k laysS extraS B b l w h hBw
/-- the same by bytes: what is written stands behind what was -/
theorem writeBytes_any (B b : Nat) (l : List UInt8) (s : ByteArray) (w : World) (h : BldF B b (Lib.byteCells l) w) (hlen : l.length + s.size ≤ 140737488355328) (hBw : B ≤ w.heap.size) :
    Calls Tryz.prog 201 #[.pointer (some ⟨b, 0, none⟩), .string s] w fun e w' => e = .returned (.tuple #[.int .i64 s.size, .nilIface]) ∧ (BldF B b (Lib.byteCells (l ++ s.data.toList)) w' ∧ Below B w w' ∧ Kept b w w') := by
  refine (writeString_any B b _ s w h (by rw [Lib.byteCells_length]; exact hlen) hBw).mono fun e w' ⟨he, h1, h2, h3⟩ => ⟨he, ?_, h2, h3⟩
  rw [Lib.byteCells_append]
  exact h1
end Go.Proofs.YtpennadfomnenaaGreatDoor
namespace Go.Proofs.YtpennadfomnenaaGreatDoor
open Go.ChangeShapes Go.WideShapes Go.ChangeAt Go.RowKit Go.Shelf

/-- the bytes of some texts, one behind the other -/
def flat (ps : List ByteArray) : List UInt8 := ps.flatMap fun p => p.data.toList
theorem flat_snoc {ps : List ByteArray} {k : Nat} (h : k < ps.length) : flat (ps.take (k + 1)) = flat (ps.take k) ++ ps[k].data.toList := by
  unfold flat; rw [List.take_succ_eq_append_getElem h, List.flatMap_append]; congr 1; simp
theorem flat_le {ps : List ByteArray} {k : Nat} (h : k < ps.length) : (flat (ps.take k)).length + ps[k].size ≤ (flat ps).length := by
  have e : flat ps = flat (ps.take (k + 1)) ++ flat (ps.drop (k + 1)) := by
    unfold flat; rw [← List.flatMap_append, List.take_append_drop]
  rw [e, flat_snoc h]; simp only [List.length_append]
  have : ps[k].data.toList.length = ps[k].size := by simp
  omega
/-- block p holds the texts ps -/
def Texts (p : Nat) (ps : List ByteArray) (w : World) : Prop := w.heap[p]? = some (.cells (ps.map Value.string).toArray 9)
theorem Texts.cell {p : Nat} {ps : List ByteArray} {w : World} (h : Texts p ps w) {k : Nat} (hk : k < ps.length) : w.cell? ⟨p, k, none⟩ = some (.string ps[k]) := by
  unfold World.cell?
  rw [h]; simp [hk]
theorem Texts.kept {p b : Nat} {ps : List ByteArray} {w w' : World} (h : Texts p ps w) (hk : Kept b w w') (hpb : p ≠ b) : Texts p ps w' :=
  hk p _ h (fun e => hpb (Option.some.inj e)) (fun c fz e => by injection e with e1 e2; exact absurd e2 (by decide))
set_option maxHeartbeats 1000000 in
theorem writePieces_any (B b p : Nat) (l : List UInt8) (ps : List ByteArray) (w : World) (hI : BldF B b (Lib.byteCells l) w) (hp : Texts p ps w) (hpb : p ≠ b) (hn : ps.length ≤ 1000) (hlen : l.length + (flat ps).length ≤ 140737488355328) (hBw : B ≤ w.heap.size) :
    Calls Tryz.prog 152 #[.pointer (some ⟨b, 0, none⟩), .slice (some ⟨p, 0, none⟩) ps.length ps.length] w fun e w' => e = .returned (.tuple #[]) ∧ (BldF B b (Lib.byteCells (l ++ flat ps)) w' ∧ Below B w w' ∧ Kept b w w') := by
  go_enter Tryz.func152, Tryz.ntmps152
  go_wp2
  go_loopw [8] (fun i wr => ∃ k : Nat, k ≤ ps.length ∧ i = .int .i64 k ∧ (BldF B b (Lib.byteCells (l ++ flat (ps.take k))) wr ∧ Below B w wr ∧ Kept b w wr)) (fun i _ => ps.length - (intOf i).toNat)
  case atStart => exact ⟨0, by omega, rfl, by simpa [flat] using hI, Below.refl _ _, Lib.OthersKept.refl _ _ _⟩
  case round =>
    obtain ⟨k, hk, rfl, h1, h2, h3⟩ := hrel
    by_cases hlt : k < ps.length
    · have hc := (hp.kept h3 hpb).cell hlt
      have hfl := flat_le hlt
      have hsz : B ≤ wr.heap.size := by have := h2.size; omega
      have hl : (l ++ flat (ps.take k)).length + ps[k].size ≤ 140737488355328 := by simp only [List.length_append]; omega
      go_wp2_with (go_at_call 201; refine (writeBytes_any B b _ ps[k] _ h1 hl hsz).mono ?_)
      rintro e w1 ⟨rfl, g1, g2, g3⟩
      go_wp2
      go_roundw
      case rel => exact ⟨k + 1, by omega, by go_num, by rw [flat_snoc hlt, ← List.append_assoc]; exact g1, h2.trans g2, h3.trans g3⟩
      case measure => simp [intOf]; omega
    · obtain rfl : k = ps.length := by omega
      rw [List.take_length] at h1
      go_wp2
      go_end0
      exact ⟨rfl, h1, h2, h3⟩
/-- what stands for a mark -/
def markOf (r : Nat) : ByteArray := if r = 38 then ⟨#[38, 97, 109, 112, 59]⟩ else if r = 60 then ⟨#[38, 108, 116, 59]⟩ else if r = 62 then ⟨#[38, 103, 116, 59]⟩ else ⟨#[38, 113, 117, 111, 116, 59]⟩
def allMarks : List Nat := [38, 60, 62, 34]
theorem escapeOf_any (r : Nat) (h : r ∈ allMarks) (w : World) :
    Calls Tryz.prog 238 #[.int .i32 (r : Int)] w fun e w' => e = .returned (.string (markOf r)) ∧ w = w' := by
  simp only [allMarks, List.mem_cons, List.not_mem_nil, or_false] at h
  rcases h with rfl | rfl | rfl | rfl
  all_goals
    go_enter Tryz.func238, Tryz.ntmps238
    go_wp2
    go_ret
    exact ⟨rfl, rfl⟩
end Go.Proofs.YtpennadfomnenaaGreatDoor
namespace Go.Proofs.YtpennadfomnenaaGreatDoor

/-- the bytes of a rune behind its first are no marks -/
theorem conts {s : ByteArray} {pos : Nat} (h : pos < s.size) (ha : 128 ≤ (s[pos]'h).toNat) (j : Nat) (hj : j < s.size) (h1 : pos ≤ j) (h2 : j < pos + (Utf8.decode s pos).2) : 128 ≤ (s[j]'hj).toNat := by
  have hc := Lib.decodeN_conts (s.data.toList.length - pos) (s.data.toList.getD pos 0).toNat (s.data.toList.getD (pos + 1) 0).toNat (s.data.toList.getD (pos + 2) 0).toNat (s.data.toList.getD (pos + 3) 0).toNat
  rw [← Lib.decode_N] at hc
  obtain ⟨c2, c3, c4, c5⟩ := hc
  have key : ∀ d, j = pos + d → (s.data.toList.getD (pos + d) 0).toNat / 64 = 2 → 128 ≤ (s[j]'hj).toNat := by
    rintro d rfl hd
    rw [List.getD_eq_getElem?_getD, List.getElem?_eq_getElem (by simpa using hj)] at hd
    have : (s[pos + d]'hj).toNat / 64 = 2 := hd
    omega
  obtain ⟨d, rfl⟩ := Nat.exists_eq_add_of_le h1
  have hd : d < 4 := by omega
  match d, hd with
  | 0, _ => exact ha
  | 1, _ => exact key 1 rfl (c2 (by omega)).1
  | 2, _ => exact key 2 rfl (c3 (by omega)).1
  | 3, _ => exact key 3 rfl (c4 (by omega)).1
theorem width_in {s : ByteArray} {pos : Nat} (h : pos < s.size) : 1 ≤ (Utf8.decode s pos).2 ∧ pos + (Utf8.decode s pos).2 ≤ s.size := by
  have h1 : 1 ≤ (Utf8.decode s pos).2 := by
    by_cases ha : (s[pos]'h).toNat < 128
    · rw [decode_ascii s pos h ha]; exact Nat.le_refl _
    · exact (decode_high s pos h (by omega)).2
  have hc := Lib.decodeN_conts (s.data.toList.length - pos) (s.data.toList.getD pos 0).toNat (s.data.toList.getD (pos + 1) 0).toNat (s.data.toList.getD (pos + 2) 0).toNat (s.data.toList.getD (pos + 3) 0).toNat
  rw [← Lib.decode_N] at hc
  obtain ⟨c2, c3, c4, c5⟩ := hc
  have hl : s.data.toList.length = s.size := by simp
  rw [hl] at c2 c3 c4
  refine ⟨h1, ?_⟩
  by_cases e2 : 2 ≤ (Utf8.decode s pos).2
  · by_cases e3 : 3 ≤ (Utf8.decode s pos).2
    · by_cases e4 : 4 ≤ (Utf8.decode s pos).2
      · have := (c4 e4).2; omega
      · have := (c3 e3).2; omega
    · have := (c2 e2).2; omega
  · omega
end Go.Proofs.YtpennadfomnenaaGreatDoor
namespace Go.Proofs.YtpennadfomnenaaGreatDoor
open Go.ChangeShapes Go.WideShapes Go.ChangeAt Go.RowKit Go.Shelf

theorem extract_list (s : ByteArray) (a b : Nat) : (s.extract a b).data.toList = (s.data.toList.take b).drop a := by
  rw [ByteArray.data_extract, Array.toList_extract, List.extract_eq_take_drop, List.drop_take]
theorem allMarks_lt {r : Nat} (h : r ∈ allMarks) : r < 128 := by
  simp only [allMarks, List.mem_cons, List.not_mem_nil, or_false] at h; omega
theorem Texts.new (ps : List ByteArray) (w : World) : Texts w.heap.size ps (w.alloc (.cells (ps.map Value.string).toArray 9)) := by
  show (w.heap.push _)[w.heap.size]? = _
  simp
theorem writeTwo_any (B : Nat) (l : List UInt8) (x y : ByteArray) (w : World) (hI : BldF B B (Lib.byteCells l) w) (hlen : l.length + (flat [x, y]).length ≤ 140737488355328) (hBw : B < w.heap.size) :
    Calls Tryz.prog 152 #[.pointer (some ⟨B, 0, none⟩), .slice (some ⟨w.heap.size, 0, none⟩) 2 2] (w.alloc (.cells #[.string x, .string y] 9))
      fun e w' => e = .returned (.tuple #[]) ∧ (BldF B B (Lib.byteCells (l ++ flat [x, y])) w' ∧ Below B w w' ∧ Kept B w w') :=
  (writePieces_any B B w.heap.size l [x, y] _ (Lib.IsBuilderF.alloc hI _) (Texts.new [x, y] w) (by omega) (by show 2 ≤ _; omega) hlen (by simp; omega)).mono fun _ _ ⟨he, h1, h2, h3⟩ =>
    ⟨he, h1, ((Below.refl _ w).alloc (by omega) _).trans h2, ((Lib.OthersKept.refl _ _ w).alloc _).trans h3⟩
theorem writeOne_any (B : Nat) (l : List UInt8) (x : ByteArray) (w : World) (hI : BldF B B (Lib.byteCells l) w) (hlen : l.length + (flat [x]).length ≤ 140737488355328) (hBw : B < w.heap.size) :
    Calls Tryz.prog 152 #[.pointer (some ⟨B, 0, none⟩), .slice (some ⟨w.heap.size, 0, none⟩) 1 1] (w.alloc (.cells #[.string x] 9))
      fun e w' => e = .returned (.tuple #[]) ∧ (BldF B B (Lib.byteCells (l ++ flat [x])) w' ∧ Below B w w' ∧ Kept B w w') :=
  (writePieces_any B B w.heap.size l [x] _ (Lib.IsBuilderF.alloc hI _) (Texts.new [x] w) (by omega) (by show 1 ≤ _; omega) hlen (by simp; omega)).mono fun _ _ ⟨he, h1, h2, h3⟩ =>
    ⟨he, h1, ((Below.refl _ w).alloc (by omega) _).trans h2, ((Lib.OthersKept.refl _ _ w).alloc _).trans h3⟩
end Go.Proofs.YtpennadfomnenaaGreatDoor
