
import Derived.Test.YtlghmcnhdmidnaaDoorShelf
import Derived.ProofKit
import Derived.Lib.Hide
import Derived.Below
namespace Go.Proofs.YtlghmcnhdmidnaaDoor
open Go.ChangeShapes Go.WideShapes Go.ChangeAt Go.RowKit Go.Shelf

theorem ret_bool {a b : Bool} (h : a = b) : Ending.returned (.bool a) = .returned (.bool b) := by rw [h]
/-- the text has that byte -/
def hasC (s : ByteArray) (c : UInt8) : Bool := s.data.toList.contains c
/-- among the first k bytes it is not -/
def NoC (s : ByteArray) (c : UInt8) (k : Nat) : Prop := (s.data.toList.take k).contains c = false
theorem NoC.zero (s : ByteArray) (c : UInt8) : NoC s c 0 := by simp [NoC]
theorem byte_eq {a b : UInt8} (h : ((a.toNat : Int) == (b.toNat : Int)) = true) : a = b := by
  apply UInt8.toNat_inj.1; have h1 : (a.toNat : Int) = b.toNat := by simpa using h
  omega
theorem byte_ne {a b : UInt8} (h : ((a.toNat : Int) == (b.toNat : Int)) = false) : ¬ a = b := by
  rintro rfl; simp at h
theorem NoC.step {s : ByteArray} {c : UInt8} {k : Nat} (h : k < s.size) (hn : NoC s c k) (hf : ((s[k].toNat : Int) == (c.toNat : Int)) = false) : NoC s c (k + 1) := by
  have e : s.data.toList.take (k + 1) = s.data.toList.take k ++ [s[k]] := List.take_succ_eq_append_getElem (by simpa using h)
  have h1 := byte_ne hf
  rw [NoC, e, List.contains_eq_any_beq, List.any_append]
  rw [NoC, List.contains_eq_any_beq] at hn
  rw [hn]
  simp
  exact fun e => h1 e.symm
theorem hasC_hit {s : ByteArray} {c : UInt8} {k : Nat} (h : k < s.size) (hf : ((s[k].toNat : Int) == (c.toNat : Int)) = true) : true = hasC s c := by
  symm
  rw [hasC, List.contains_iff_mem, ← byte_eq hf]
  exact List.getElem_mem (by simpa using h)
theorem hasC_none {s : ByteArray} {c : UInt8} (h : NoC s c s.size) : false = hasC s c := by
  rw [NoC, List.take_of_length_le (by simp)] at h
  exact h.symm

set_option maxHeartbeats 1000000 in
theorem l02Has_any (s : ByteArray) (c : UInt8) (w : World) (hs : s.size ≤ 65536) :
    Calls Tryd.prog 27 #[.string s, .int .u8 (c.toNat : Int)] w fun e w' => e = .returned (.bool (hasC s c)) ∧ w = w' := by
  go_enter Tryd.func27, Tryd.ntmps27
  go_wp2
  go_loop [5] (fun i => ∃ k : Nat, k ≤ s.size ∧ i = .int .i64 k ∧ NoC s c k) (fun i => s.size - (intOf i).toNat)
  case atStart => exact ⟨0, Nat.zero_le _, rfl, NoC.zero s c⟩
  case round =>
    obtain ⟨k, hk, rfl, hn⟩ := hrel
    have HN := Lib.hid hn
    clear hn
    by_cases hlt : k < s.size
    · by_cases hf : ((s[k].toNat : Int) == (c.toNat : Int)) = true
      · have HF := Lib.hid hf
        go_wp2
        go_ret
        exact ⟨ret_bool (hasC_hit hlt HF.out), rfl⟩
      · have hf' : ((s[k].toNat : Int) == (c.toNat : Int)) = false := by simpa using hf
        have HF := Lib.hid hf'
        clear hf
        go_wp2
        go_round
        case rel => exact ⟨k + 1, by omega, by go_num, HN.out.step hlt HF.out⟩
        case measure => simp [intOf]; omega
    · obtain rfl : k = s.size := by omega
      go_wp2
      go_ret
      exact ⟨ret_bool (hasC_none HN.out), rfl⟩

def markupB (s : ByteArray) : Bool := decide (s.size ≤ 65536) && hasC s 60
theorem specHasMarkup_any (s : ByteArray) (w : World) :
    Calls Tryd.prog 13 #[.string s] w fun e w' => e = .returned (.bool (markupB s)) ∧ w = w' := by
  by_cases h : (s.size : Int) ≤ 65536
  · have h' : ¬ (65536 : Int) < s.size := by omega
    go_enter Tryd.func13, Tryd.ntmps13
    go_wp2_with (go_at_call 27; refine (l02Has_any s 60 _ (by omega)).mono ?_; rintro e w1 ⟨rfl, rfl⟩)
    go_ret
    exact ⟨ret_bool (by rw [markupB, decide_eq_true (by omega)]; rfl), rfl⟩
  · have h' : (65536 : Int) < s.size := by omega
    go_enter Tryd.func13, Tryd.ntmps13
    go_wp2
    go_ret
    exact ⟨ret_bool (by rw [markupB, decide_eq_false (by omega)]; rfl), rfl⟩
theorem containsLt (s : ByteArray) (w : World) : Calls Tryd.prog 25 #[.string s, .string ⟨#[60]⟩] w fun e w' => e = .returned (.bool (hasC s 60)) ∧ w = w' :=
  (strings_Contains_one s 60 w).mono fun e w' ⟨h1, h2⟩ => ⟨h1.trans (ret_bool (by rw [hasC, Lib.contains_iff_indexByte])), h2.symm⟩
theorem implHasMarkup_any (s : ByteArray) (w : World) :
    Calls Tryd.prog 11 #[.string s] w fun e w' => e = .returned (.bool (markupB s)) ∧ w = w' := by
  by_cases h : (s.size : Int) ≤ 65536
  · go_enter Tryd.func11, Tryd.ntmps11
    go_wp2_with (go_at_call 25; refine (containsLt s _).mono ?_; rintro e w1 ⟨rfl, rfl⟩)
    go_ret
    exact ⟨ret_bool (by rw [markupB, decide_eq_true (by omega)]; rfl), rfl⟩
  · have h' : decide ((s.size : Int) ≤ 65536) = false := by simpa using h
    clear h
    go_enter Tryd.func11, Tryd.ntmps11
    go_wp2
    go_ret
    exact ⟨ret_bool (by rw [markupB, decide_eq_false (by simp at h'; omega)]; rfl), rfl⟩
end Go.Proofs.YtlghmcnhdmidnaaDoor
