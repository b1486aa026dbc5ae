import Derived.Test.YtlghmcnhdmidnaaDoorMean
import Derived.Test.YtlghmcnhdmidnaaDoorEscImpl
import Derived.StillTailTactics
namespace Go.Proofs.YtlghmcnhdmidnaaDoor
open Go.ChangeShapes Go.WideShapes Go.ChangeAt Go.RowKit Go.Shelf

def marksB : ByteArray := ⟨#[38, 60, 62, 34]⟩
theorem marks_at : ∀ k : Fin 4, (marksB[k.val]'(by have := k.2; show k.val < 4; omega)).toNat = (allMarks[k.val]'(by have := k.2; show k.val < 4; omega)) := by decide
theorem markOf_at : ∀ k : Fin 4, (markOf (allMarks[k.val]'(by have := k.2; show k.val < 4; omega))).data.toList = nmL[k] := by decide
theorem nmB_at : ∀ k : Fin 4, nmB[k] = UInt8.ofNat (allMarks[k.val]'(by have := k.2; show k.val < 4; omega)) := by decide
/-- what an escape means, as a text -/
def mtext (t : List UInt8) : ByteArray := match meaning t with | some b => ⟨#[b]⟩ | none => ⟨#[]⟩
theorem mtext_hit {t : List UInt8} {k : Nat} (hk : k < 4) (h : t = nmL[k]'(by show k < 4; exact hk)) : mtext t = ⟨#[UInt8.ofNat (allMarks[k]'(by show k < 4; exact hk))]⟩ := by
  have e1 := nm_meaning ⟨k, hk⟩
  have e2 := nmB_at ⟨k, hk⟩
  rw [e2] at e1
  unfold mtext
  rw [h]
  rw [show meaning (nmL[k]'(by show k < 4; exact hk)) = _ from e1]
/-- none of the first k names it is -/
def NotNm (t : List UInt8) (k : Nat) : Prop := ∀ j (h : j < nmL.length), j < k → t ≠ nmL[j]
theorem NotNm.zero (t : List UInt8) : NotNm t 0 := fun _ _ h => by omega
theorem NotNm.succ {t : List UInt8} {k : Nat} (h : NotNm t k) (hk : k < nmL.length) (hn : t ≠ nmL[k]) : NotNm t (k + 1) := fun j hj h1 => by
  by_cases e : j = k
  · subst e; exact hn
  · exact h j hj (by omega)
theorem mtext_number {t : List UInt8} (h : NotNm t 4) : mtext t = byteText (numbered t) := by
  have e0 : t ≠ ampL := h 0 (by decide) (by omega)
  have e1 : t ≠ ltL := h 1 (by decide) (by omega)
  have e2 : t ≠ gtL := h 2 (by decide) (by omega)
  have e3 : t ≠ quotL := h 3 (by decide) (by omega)
  unfold mtext meaning
  rw [if_neg e0, if_neg e1, if_neg e2, if_neg e3]
  cases numbered t <;> rfl

set_option maxRecDepth 100000 in
set_option maxHeartbeats 8000000 in
theorem meaningOf_any (t : ByteArray) (ht : t.size ≤ 6) (he : t.data.toList = [] ∨ ∃ u, t.data.toList = u ++ [59]) (w : World) (hw : Env w) :
    Calls Tryd.prog 22 #[.string t] w fun e w' => e = .returned (.string (mtext t.data.toList)) ∧ Below w.heap.size w w' := by
  go_enter Tryd.func22, Tryd.ntmps22
  go_wp2
  go_loopw [] (fun wr => ∃ k : Nat, k ≤ 4 ∧ wr.heap[w.heap.size]? = some (.stringIter marksB k) ∧ Below w.heap.size w wr ∧ NotNm t.data.toList k) (fun wr => 4 - wr.iterPos w.heap.size)
  case atStart => exact ⟨0, by omega, by have := World.iter_heap w marksB 0; exact this, (Below.refl _ w).alloc (Nat.le_refl _) _, NotNm.zero _⟩
  case round =>
    obtain ⟨k, hk, hit, hbw, hn⟩ := hrel
    have HN := Lib.hid hn
    clear hn
    have hsz : w.heap.size < wr.heap.size := (Array.getElem?_eq_some_iff.1 hit).1
    by_cases hp : k < 4
    · have hp' : k < marksB.size := hp
      have hr := marks_at ⟨k, hp⟩
      have hX := markOf_at ⟨k, hp⟩
      simp only at hr hX
      have hmem : (allMarks[k]'(by show k < 4; exact hp)) ∈ allMarks := List.getElem_mem _
      have hHit := mtext_hit (t := t.data.toList) hp
      have hlt := allMarks_lt hmem
      generalize (allMarks[k]'(by show k < 4; exact hp)) = r at hr hX hmem hHit hlt
      have hnx : ∀ ty, (Instr.next (.pointer (some ⟨w.heap.size, 0, none⟩)) true ty).run Tryd.prog wr = _ := fun ty => Lib.run_next_ascii_at wr w.heap.size marksB k ty hit hp' (by rw [hr]; exact hlt)
      rw [hr] at hnx
      have hI2 : (wr.iterAt w.heap.size marksB (k + 1)).heap[w.heap.size]? = some (.stringIter marksB (k + 1)) := Lib.iterAt_heap wr w.heap.size marksB k (k + 1) hit
      have hbw2 := Lib.below_iterAt hbw (k := w.heap.size) (Nat.le_refl _) marksB (k + 1)
      generalize hW : wr.iterAt w.heap.size marksB (k + 1) = W2 at hnx hI2 hbw2
      clear hW hbw
      have hr1 : 1 ≤ (r : Int) ∧ (r : Int) ≤ 126 := by simp [allMarks] at hmem; omega
      have hE : ∀ w, Calls Tryd.prog 35 #[.int .i32 (r : Int)] w fun e w' => e = .returned (.string (markOf r)) ∧ w = w' := escapeOf_any r hmem
      have hcv := convNum (r : Int)
      rw [encode_small hr1.1 hr1.2, show ((r : Int)).toNat = r from rfl] at hcv
      have HR := Lib.hid hr1
      clear hr hmem hlt hr1
      generalize markOf r = X at hE hX
      have HX := Lib.hid hX
      clear hX
      by_cases h : t.data.toList = nmL[k]'(by show k < 4; exact hp)
      · have hH := hHit h
        have hq : (t.toList == X.toList) = true := by rw [ByteArray.toList_eq, ByteArray.toList_eq, HX.out, h]; simp
        clear hHit
        go_wp2_with (go_at_call 35; refine (hE _).mono ?_; rintro e w1 ⟨rfl, rfl⟩)
        go_ret
        exact ⟨ret_string hH.symm, hbw2⟩
      · have hq : (t.toList == X.toList) = false := by rw [ByteArray.toList_eq, ByteArray.toList_eq, HX.out]; simpa using h
        clear hHit
        go_wp2_with (go_at_call 35; refine (hE _).mono ?_; rintro e w1 ⟨rfl, rfl⟩)
        go_roundw
        case rel => exact ⟨k + 1, by omega, hI2, hbw2, HN.out.succ (by show k < 4; exact hp) h⟩
        case measure =>
          simp only [World.iterPos, hI2, hit]
          omega
    · obtain rfl : k = 4 := by omega
      have hnx : ∀ ty, (Instr.next (.pointer (some ⟨w.heap.size, 0, none⟩)) true ty).run Tryd.prog wr = _ := fun ty => Lib.run_next_end_at wr w.heap.size marksB 4 ty hit (by decide)
      have hsz2 := hbw.size
      go_wp2_with (go_at_call 37; refine (numMean_any t ht he _ (hw.below hbw)).mono ?_)
      rintro e w1 ⟨rfl, hb1⟩
      go_wp2
      go_ret
      exact ⟨ret_string (mtext_number HN.out).symm, hbw.trans (hb1.mono hsz2)⟩
end Go.Proofs.YtlghmcnhdmidnaaDoor
