import Derived.WalkSmall
import Derived.Test.YtpennadfomnenaaGreatDoorQ04
import Derived.Test.YtpennadfomnenaaGreatDoorQ01
import Derived.Test.YtpennadfomnenaaGreatDoorQ03
set_option linter.unusedVariables false
namespace Go.Proofs.YtpennadfomnenaaGreatDoor
open Go.ChangeShapes Go.WideShapes Go.ChangeAt Go.RowKit

theorem byte_lo (b : UInt8) : (0 : Int) ≤ (b.toNat : Int) := by omega
theorem byte_hi (b : UInt8) : (b.toNat : Int) ≤ 255 := by have := b.toNat_lt; omega
end Go.Proofs.YtpennadfomnenaaGreatDoor
namespace Go.Proofs.YtpennadfomnenaaGreatDoor
open Go.ChangeShapes Go.WideShapes Go.ChangeAt Go.RowKit

/-- block g, one of the call's own, holds the bytes l; of what lay in w0 nothing has turned -/
def RowB (w0 w : World) (g : Nat) (l : List UInt8) : Prop :=
  w0.heap.size ≤ g ∧ (∀ j (hj : j < l.length), w.cell? ⟨g, j, none⟩ = some (cellU l[j]) ∧ w.frozen? ⟨g, j, none⟩ = false) ∧ Below w0.heap.size w0 w
theorem bytes_conv (s : ByteArray) (w : World) : ∃ cap w1, (convert 9 22 (.string s)).run Tryz.prog w = .ok (.slice (some ⟨w.heap.size, 0, none⟩) s.size cap) w1 ∧ RowB w w1 w.heap.size s.data.toList := by
  refine ⟨_, _, run_bytes_of_string w 9 22 5 s Tryz.underlying9 Tryz.underlying22 Tryz.underlying5, Nat.le_refl _, fun j hj => ?_, ?_⟩
  · generalize hc : grownCap w s.size 0 5 = cap
    have hj' : j < s.size := by simpa using hj
    have hbl : (w.drew.alloc (.cells (bytesRow s cap) 5 ((bytesRow s cap).size, (bytesRow s cap).size + 1))).heap[w.heap.size]? = some (.cells (bytesRow s cap) 5 ((bytesRow s cap).size, (bytesRow s cap).size + 1)) := by
      show (w.heap.push _)[w.heap.size]? = _
      simp
    have hsz : j < (bytesRow s cap).size := by simp [bytesRow]; omega
    refine ⟨?_, ?_⟩
    · unfold World.cell?
      simp only [hbl]
      simp [bytesRow, Array.getElem?_append, hj']
    · unfold World.frozen?
      simp only [hbl]
      simp; omega
  · exact ((Below.refl _ _).drew).alloc (Nat.le_refl _) _
theorem RowB.set {w0 w : World} {g : Nat} {l : List UInt8} (h : RowB w0 w g l) {k : Nat} (_hk : k < l.length) {x : Int} {b : UInt8} (hb : x = (b.toNat : Int)) : RowB w0 (w.setCell ⟨g, k, none⟩ (.int .u8 x)) g (l.set k b) := by
  subst hb
  obtain ⟨h1, h2, h3⟩ := h
  refine ⟨h1, fun j hj => ?_, h3.setCell h1 _⟩
  rw [List.length_set] at hj
  refine ⟨?_, by rw [World.frozen?_setCell]; exact (h2 j hj).2⟩
  by_cases e : k = j
  · subst e
    rw [World.cell?_setCell_same _ _ _ (h2 k hj).1]; simp
  · rw [World.cell?_setCell_other _ _ _ _ (by simp <;> omega), (h2 j hj).1]; simp [e]
theorem run_string_row {w0 w : World} {g cap n : Nat} {l : List UInt8} (h : RowB w0 w g l) (hn : n = l.length) : (convert 22 9 (.slice (some ⟨g, 0, none⟩) n cap)).run Tryz.prog w = .ok (.string ⟨l.toArray⟩) w := by
  subst hn
  exact run_convert_bytes_back w 22 9 5 ⟨g, 0, none⟩ cap l Tryz.underlying22 Tryz.underlying5 Tryz.underlying9 (fun j hj => by rw [show (⟨g, 0, none⟩ : Addr).add j = ⟨g, j, none⟩ by cases j <;> simp [Addr.add]]; exact (h.2.1 j hj).1)
theorem wpList_string_row {ops : Array Oper} {rest : List Oper} {o : Oper} {a : Act} {Q : Exit → Act → World → Prop} (w0 w : World) (hgd : o.guard = none) (s : Operand)
    (ho : o.op = .convert 22 9 s) (g n cap : Nat) (l : List UInt8) (hs : a.eval s = .slice (some ⟨g, 0, none⟩) n cap) (h : RowB w0 w g l) (hn : n = l.length)
    (hK : wpList Tryz.prog ops Q rest (a.put o.dst (.string ⟨l.toArray⟩)) w) :
    wpList Tryz.prog ops Q (o :: rest) a w := by
  refine wpList_plain hgd fun _ hK' => ?_
  have hrun := run_string_row (cap := cap) h hn
  unfold Oper.wp
  simp [execOp, ho, hs, hrun, Result.andThen]
  exact hK' _ _ hK
/-- the first k bytes of s lowered, the others as they are -/
def lowTo (s : ByteArray) (k : Nat) : List UInt8 := (s.data.toList.take k).map lowU ++ s.data.toList.drop k
theorem lowTo_len (s : ByteArray) (k : Nat) : (lowTo s k).length = s.size := by simp [lowTo]; omega
theorem lowTo_zero (s : ByteArray) : lowTo s 0 = s.data.toList := by simp [lowTo]
theorem lowTo_all (s : ByteArray) : lowTo s s.size = s.data.toList.map lowU := by
  rw [lowTo, List.take_of_length_le (by simp), List.drop_of_length_le (by simp)]; simp
theorem lowTo_at {s : ByteArray} {k : Nat} (h : k < s.size) (h' : k < (lowTo s k).length) : (lowTo s k)[k] = s[k] := by
  have hk : ((s.data.toList.take k).map lowU).length = k := by simp; omega
  have e : (lowTo s k)[k]? = some s[k] := by
    unfold lowTo
    rw [List.getElem?_append_right (by omega), hk, Nat.sub_self, drop_cons h]; rfl
  rw [List.getElem?_eq_getElem h'] at e
  injection e
theorem lowTo_set {s : ByteArray} {k : Nat} (h : k < s.size) : (lowTo s k).set k (lowU s[k]) = lowTo s (k + 1) := by
  have hk : ((s.data.toList.take k).map lowU).length = k := by simp; omega
  unfold lowTo
  rw [List.set_append_right _ _ (by omega), hk, Nat.sub_self, drop_cons h, List.set_cons_zero, take_map_snoc _ h, List.append_assoc]
  rfl
set_option maxHeartbeats 1000000 in
set_option maxRecDepth 100000 in
theorem implLowerOf_small (s : ByteArray) (w : World) (hs : (s.size : Int) ≤ 65536) :
    Calls Tryz.prog 214 #[.string s] w fun e w' => e = .returned (.string ⟨(s.data.toList.map lowU).toArray⟩) ∧ Below w.heap.size w w' := by
  obtain ⟨cap, w1, hrun, hrow⟩ := bytes_conv s w
  go_enter Tryz.func214, Tryz.ntmps214
  go_wp2
  go_loopw [13, 4, 5] (fun i _ _ wr => ∃ k : Nat, k ≤ s.size ∧ i = .int .i64 k ∧ RowB w wr w.heap.size (lowTo s k)) (fun i _ _ _ => s.size - (intOf i).toNat)
  case atStart => exact ⟨0, by omega, rfl, by rw [lowTo_zero]; exact hrow⟩
  case round =>
    clear hrun hrow
    obtain ⟨k, hk, rfl, hown⟩ := hrel
    by_cases hlt : k < s.size
    · have HB := Lib.hid (lowU_nat s[k])
      obtain ⟨hc, hf⟩ := hown.2.1 k (by rw [lowTo_len]; exact hlt)
      rw [lowTo_at hlt] at hc
      go_wp2_with (go_at_call 245; refine (lowerByte_any _ (byte_lo _) (byte_hi _) _).mono ?_; rintro e w1 ⟨rfl, rfl⟩)
      go_roundw
      case rel => exact ⟨k + 1, by omega, by go_num, by rw [← lowTo_set hlt]; exact hown.set (by rw [lowTo_len]; exact hlt) HB.out.symm⟩
      case measure => simp [intOf]; omega
    · obtain rfl : k = s.size := by omega
      have HL := Lib.hid (lowTo_len s s.size)
      have HA := Lib.hid (lowTo_all s)
      go_wp2_with (refine wpList_string_row w _ rfl (.tmp 24) rfl _ _ _ _ rfl hown HL.out.symm ?_)
      go_ret
      exact ⟨ret_str HA.out, hown.2.2⟩
end Go.Proofs.YtpennadfomnenaaGreatDoor
