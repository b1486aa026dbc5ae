import Derived.Test.YtmijagdlbpepcaaDoorCodes
namespace Go.Proofs.YtmijagdlbpepcaaDoor
open Go.ChangeShapes Go.WideShapes Go.ChangeAt Go.RowKit

/-- the k-th word -/
def cw (k : Nat) : List UInt8 := codesL.getD k []
def codesV : Array Value := (codesL.map fun l => Value.string ⟨l.toArray⟩).toArray
/-- the table's block is the words -/
def Row (w : World) : Prop := ∃ t fr, w.heap[0]? = some (.cells codesV t fr)
theorem Row.below {w w' : World} (h : Row w) (hb : Below w.heap.size w w') (h0 : 0 < w.heap.size) : Row w' := by
  obtain ⟨t, fr, h⟩ := h; exact ⟨t, fr, (hb.block 0 h0).trans h⟩
theorem Row.table {w : World} (h : Row w) : Table w := by
  obtain ⟨t, fr, h⟩ := h
  intro k hk
  unfold World.cell?
  have hl : k < codesL.length := hk
  simp only [h]
  simp [codesV, List.getD, hl]
theorem Row.size {w : World} (h : Row w) : 0 < w.heap.size := by
  obtain ⟨t, fr, h⟩ := h
  exact (Array.getElem?_eq_some_iff.1 h).1
theorem index_at (k : Nat) (h : k < 19) : ∀ w, (Instr.index 27 (.agg codesV) (.int .i64 (k : Int))).run Tryd.prog w = .ok (.string ⟨(cw k).toArray⟩) w := by
  rcases each k h with rfl | rfl | rfl | rfl | rfl | rfl | rfl | rfl | rfl | rfl | rfl | rfl | rfl | rfl | rfl | rfl | rfl | rfl | rfl
  all_goals exact fun w => by kernel_rfl

/-- the first place of a text among the words -/
def codeAt (s : ByteArray) : Int := match codesL.findIdx? (fun l => l == s.toList) with | some i => (i : Int) | none => -1
def NoneTo (s : ByteArray) (k : Nat) : Prop := ∀ i, i < k → (cw i == s.toList) = false
theorem noneTo_step {s : ByteArray} {k : Nat} (h : NoneTo s k) (hf : (cw k == s.toList) = false) : NoneTo s (k + 1) := by
  intro i hi
  by_cases e : i = k
  · subst e; exact hf
  · exact h i (by omega)
theorem cw_get {k : Nat} (h : k < codesL.length) : cw k = codesL[k] := by simp [cw, List.getD, h]
theorem codeAt_hit {s : ByteArray} {k : Nat} (hk : k < 19) (h : NoneTo s k) (hf : (cw k == s.toList) = true) : (k : Int) = codeAt s := by
  have hl : k < codesL.length := hk
  have e : codesL.findIdx? (fun l => l == s.toList) = some k := by
    rw [List.findIdx?_eq_some_iff_getElem]
    refine ⟨hl, by rw [← cw_get hl]; exact hf, fun j hj => ?_⟩
    have := h j hj
    rw [cw_get (by omega)] at this
    simpa using this
  rw [codeAt, e]
theorem codeAt_none {s : ByteArray} (h : NoneTo s 19) : -1 = codeAt s := by
  have e : codesL.findIdx? (fun l => l == s.toList) = none := by
    rw [List.findIdx?_eq_none_iff]
    intro x hx
    obtain ⟨i, hi, rfl⟩ := List.getElem_of_mem hx
    have := h i hi
    rwa [cw_get hi] at this
  rw [codeAt, e]

theorem specCodeWord_cw (k : Nat) (h : k < 19) (w : World) :
    Calls Tryd.prog 5 #[.int .i64 (k : Int)] w fun e w' => e = .returned (.string ⟨(cw k).toArray⟩) ∧ Below w.heap.size w w' := specCodeWord_in k h w

set_option maxHeartbeats 1000000 in
theorem specCodeOf_any (s : ByteArray) (w : World) :
    Calls Tryd.prog 7 #[.string s] w fun e w' => e = .returned (.int .i64 (codeAt s)) ∧ Below w.heap.size w w' := by
  go_enter Tryd.func7, Tryd.ntmps7
  go_wp2
  go_loopw [3] (fun i wr => ∃ k : Nat, k ≤ 19 ∧ i = .int .i64 k ∧ NoneTo s k ∧ Below w.heap.size w wr) (fun i _ => 19 - (intOf i).toNat)
  case atStart => exact ⟨0, by omega, rfl, fun i hi => by omega, Below.refl _ _⟩
  case round =>
    obtain ⟨k, hk, rfl, hall, hb⟩ := hrel
    have HA := Lib.hid hall
    clear hall
    by_cases hlt : k < 19
    · by_cases hf : (cw k == s.toList) = true
      · have HF := Lib.hid hf
        go_wp2_with (go_at_call 5; refine (specCodeWord_cw _ hlt _).mono ?_; rintro e w1 ⟨rfl, hb1⟩)
        go_ret
        exact ⟨ret_int (codeAt_hit hlt HA.out HF.out), hb.trans (hb1.mono hb.size)⟩
      · have hf' : (cw k == s.toList) = false := by simpa using hf
        have HF := Lib.hid hf'
        clear hf
        go_wp2_with (go_at_call 5; refine (specCodeWord_cw _ hlt _).mono ?_; rintro e w1 ⟨rfl, hb1⟩)
        go_roundw
        case rel => exact ⟨k + 1, by omega, by go_num, noneTo_step HA.out HF.out, hb.trans (hb1.mono hb.size)⟩
        case measure => simp [intOf]; omega
    · obtain rfl : k = 19 := by omega
      go_wp2
      go_ret
      exact ⟨ret_int (codeAt_none HA.out), hb⟩

set_option maxHeartbeats 1000000 in
theorem implCodeOf_any (s : ByteArray) (w : World) (hr : Row w) :
    Calls Tryd.prog 8 #[.string s] w fun e w' => e = .returned (.int .i64 (codeAt s)) ∧ w = w' := by
  obtain ⟨t, fr, hg⟩ := hr
  have HG := Lib.hid hg
  clear hg
  go_enter Tryd.func8, Tryd.ntmps8
  go_wp2_with (refine wpList_load_row rfl 27 _ rfl 0 rfl t codesV fr _ HG.out Tryd.underlying27 rfl (by kernel_rfl) ?_)
  go_loop [6, 3, 4] (fun i _ _ => ∃ k : Nat, k ≤ 19 ∧ i = .int .i64 k ∧ NoneTo s k) (fun i _ _ => 19 - (intOf i).toNat)
  case atStart => exact ⟨0, by omega, rfl, fun i hi => by omega⟩
  case round =>
    obtain ⟨k, hk, rfl, hall⟩ := hrel
    have HA := Lib.hid hall
    clear hall
    by_cases hlt : k < 19
    · have hi := index_at k hlt
      by_cases hf : (cw k == s.toList) = true
      · have HF := Lib.hid hf
        go_wp2
        go_ret
        exact ⟨ret_int (codeAt_hit hlt HA.out HF.out), rfl⟩
      · have hf' : (cw k == s.toList) = false := by simpa using hf
        have HF := Lib.hid hf'
        clear hf
        go_wp2
        go_round
        case rel => exact ⟨k + 1, by omega, by go_num, noneTo_step HA.out HF.out⟩
        case measure => simp [intOf]; omega
    · obtain rfl : k = 19 := by omega
      go_wp2
      go_ret
      exact ⟨ret_int (codeAt_none HA.out), rfl⟩
end Go.Proofs.YtmijagdlbpepcaaDoor
