
import Derived.Test.YtbcbmgeoaejlmaaTo2
import Derived.Test.YtbcbmgeoaejlmaaBut
import Derived.Laws.BytesArg
import Derived.Laws.IdiomStrings
namespace Go.Proofs.Ytbcbmgeoaejlmaa
open Go.ChangeShapes Go.WideShapes Go.ChangeAt Go.RowKit Go.Deep

/-! ### The text of a mark -/
/-- the digits of a number, none of nought -/
def decAll (k : Nat) : List UInt8 := if _h : k = 0 then [] else decAll (k / 10) ++ [UInt8.ofNat (48 + k % 10)]
termination_by k
decreasing_by omega
theorem decAll_zero : decAll 0 = [] := by rw [decAll]; rfl
theorem decAll_step {k : Nat} (h : 0 < k) : decAll k = decAll (k / 10) ++ [UInt8.ofNat (48 + k % 10)] := by rw [decAll, dif_neg (by omega)]
theorem decAll_len : ∀ k : Nat, (decAll k).length ≤ k := by
  intro k
  induction k using Nat.strongRecOn with
  | _ k ih =>
    by_cases h : k = 0
    · subst h; rw [decAll_zero]; exact Nat.le_refl _
    · rw [decAll_step (by omega), List.length_append]
      have := ih (k / 10) (by omega)
      simp only [List.length_cons, List.length_nil]
      omega
def markT (k : Nat) : ByteArray := ⟨(109 :: decAll k).toArray⟩
theorem markT_size (k : Nat) : (markT k).size ≤ k + 1 := by
  show (109 :: decAll k).toArray.size ≤ _
  rw [List.size_toArray, List.length_cons]
  have := decAll_len k
  omega

theorem ba_ext' {a b : ByteArray} (h : a.data.toList = b.data.toList) : a = b := by
  obtain ⟨⟨x⟩⟩ := a
  obtain ⟨⟨y⟩⟩ := b
  simp at h
  subst h
  rfl
theorem conv_byte (L : Nat) (c : UInt8) (n : Int) (hn : (c.toNat : Int) = n) (W : World) (h : W.cell? ⟨L, 0, none⟩ = some (.int .u8 n)) : (convert 121 9 (.slice (some ⟨L, 0, none⟩) 1 1)).run Try.prog W = .ok (.string ⟨[c].toArray⟩) W :=
  run_convert_bytes_back W 121 9 5 ⟨L, 0, none⟩ 1 [c] Try.underlying121 Try.underlying5 Try.underlying9 (fun j hj => by
    obtain rfl : j = 0 := by simpa using hj
    rw [← hn] at h
    exact h)

set_option maxHeartbeats 1000000 in
theorem markText_any (n : Nat) (h1 : 1 ≤ n) (h2 : n ≤ 1073741824) (w : World) :
    Calls Try.prog 90 #[.int .i64 (n : Int)] w fun e w' => e = .returned (.string (markT n)) ∧ Below w.heap.size w w' := by
  go_enter Try.func90, Try.ntmps90
  go_wp2
  go_loopw [0, 3] (fun i v wr => ∃ (j : Nat) (l : List UInt8), i = .int .i64 (j : Int) ∧ v = .string ⟨l.toArray⟩ ∧ j ≤ n ∧ l.length + j ≤ n + 0 ∧ Hid (decAll j ++ l = decAll n ∧ Below w.heap.size w wr)) (fun i _ _ => (intOf i).toNat)
  case atStart => exact ⟨n, [], rfl, rfl, Nat.le_refl _, by simp, Lib.hid ⟨by simp, Below.refl _ _⟩⟩
  case round =>
    obtain ⟨j, l, rfl, rfl, hj, hl, HH⟩ := hrel
    have hls : (⟨l.toArray⟩ : ByteArray).size = l.length := by simp [ByteArray.size]
    by_cases h0 : 0 < j
    · have hc : (((UInt8.ofNat (48 + j % 10)).toNat : Nat) : Int) = 48 + (j : Int) % 10 := by simp; omega
      have hst := decAll_step h0
      generalize UInt8.ofNat (48 + j % 10) = c at hc hst
      have e1 : (⟨[c].toArray⟩ : ByteArray) ++ ⟨l.toArray⟩ = ⟨(c :: l).toArray⟩ := ba_ext' (by simp [ByteArray.data_append])
      have n1 : (⟨[c].toArray⟩ : ByteArray).size = 1 := rfl
      have a1 : ∀ W, (Op.stringOp .add ⟨[c].toArray⟩ ⟨l.toArray⟩).run Try.prog W = .ok (.string ⟨(c :: l).toArray⟩) W := fun W => by rw [run_string_add_sum W _ _ (by omega), e1]
      have hcell : (wr.alloc (.cells #[.int .u8 (48 + (j : Int) % 10)] 5)).cell? ⟨wr.heap.size, 0, none⟩ = some (.int .u8 (48 + (j : Int) % 10)) := new_cell rfl
      have hcv := conv_byte wr.heap.size c (48 + (j : Int) % 10) hc _ hcell
      have HST := Lib.hid hst
      have HC := Lib.hid hc
      clear e1 n1 hst hc hls
      have h0' : 0 < (j : Int) := by omega
      have hw : IntKind.u8.wrap (48 + (j : Int) % 10) = 48 + (j : Int) % 10 := IntWalk.u8_in _ (by omega)
      go_wp2
      go_roundw
      case rel => exact ⟨j / 10, c :: l, by go_num, rfl, by omega, by simp; omega, Lib.hid ⟨by rw [← HH.out.1, HST.out, List.append_assoc]; rfl, HH.out.2.alloc HH.out.2.size _⟩⟩
      case measure => simp [intOf]; omega
    · obtain rfl : j = 0 := by omega
      have hl2 : l = decAll n := by have := HH.out.1; rw [decAll_zero] at this; simpa using this
      have e1 : (⟨#[109]⟩ : ByteArray) ++ ⟨l.toArray⟩ = markT n := ba_ext' (by rw [markT, hl2]; simp [ByteArray.data_append])
      have n1 : (⟨#[109]⟩ : ByteArray).size = 1 := rfl
      have a1 : ∀ W, (Op.stringOp .add ⟨#[109]⟩ ⟨l.toArray⟩).run Try.prog W = .ok (.string (markT n)) W := fun W => by rw [run_string_add_sum W _ _ (by omega), e1]
      clear e1 n1 hl2 hls
      go_wp2
      go_ret
      exact ⟨rfl, HH.out.2⟩
end Go.Proofs.Ytbcbmgeoaejlmaa
