
import Derived.Test.YtbcbmgeoaejlmaaBytes
import Derived.Lib.Hide
namespace Go.Proofs.Ytbcbmgeoaejlmaa
open Go.ChangeShapes Go.WideShapes Go.ChangeAt Go.RowKit

/-- one of some texts -/
def inL (ls : List (List UInt8)) (s : ByteArray) : Bool := ls.any fun l => l == s.toList
theorem size_toList (s : ByteArray) : s.toList.length = s.size := by rw [ByteArray.toList_eq]; simp
theorem beq_long {s : ByteArray} {l : List UInt8} (h : l.length < s.size) : (l == s.toList) = false := by
  rw [beq_eq_false_iff_ne]; intro e; have := size_toList s; rw [← e] at this; omega
theorem beq_long' {s : ByteArray} {l : List UInt8} (h : l.length < s.size) : (s.toList == l) = false := by
  rw [beq_eq_false_iff_ne]; intro e; have := size_toList s; rw [e] at this; omega
theorem inL_long {ls : List (List UInt8)} {s : ByteArray} {m : Nat} (hm : ∀ l ∈ ls, l.length ≤ m) (h : m < s.size) : inL ls s = false := by
  rw [inL, List.any_eq_false]
  intro l hl
  rw [beq_long (by have := hm l hl; omega)]
  simp
theorem inL_take_snoc {ls : List (List UInt8)} {s : ByteArray} {k : Nat} (hk : k < ls.length) : inL (ls.take (k + 1)) s = (inL (ls.take k) s || (ls[k] == s.toList)) := by
  unfold inL; rw [List.take_succ_eq_append_getElem hk, List.any_append]; simp only [List.any_cons, List.any_nil, Bool.or_false]
theorem inL_hit {ls : List (List UInt8)} {s : ByteArray} {k : Nat} (hk : k < ls.length) (h : (ls[k] == s.toList) = true) : true = inL ls s := by
  symm; rw [inL, List.any_eq_true]; exact ⟨_, List.getElem_mem hk, h⟩

set_option maxHeartbeats 400000 in
theorem l01Has_any (ls : List (List UInt8)) (b off : Nat) (s : ByteArray) (w : World) (hl : ls.length ≤ 100)
    (hc : ∀ k (h : k < ls.length), w.cell? ⟨b, off + k, none⟩ = some (.string ⟨ls[k].toArray⟩)) :
    Calls Try.prog 125 #[.slice (some ⟨b, off, none⟩) ls.length ls.length, .string s] w fun e w' => e = .returned (.bool (inL ls s)) ∧ w = w' := by
  have HC := Lib.hid hc
  clear hc
  go_enter Try.func125, Try.ntmps125
  go_wp2
  go_loop [5] (fun i => ∃ k : Nat, k ≤ ls.length ∧ i = .int .i64 k ∧ inL (ls.take k) s = false) (fun i => ls.length - (intOf i).toNat)
  case atStart => exact ⟨0, by omega, rfl, by simp [inL]⟩
  case round =>
    obtain ⟨k, hk, rfl, hall⟩ := hrel
    have HA := Lib.hid hall
    clear hall
    by_cases hlt : k < ls.length
    · have hck := HC.out k hlt
      by_cases hf : (ls[k] == s.toList) = true
      · have HF := Lib.hid hf
        go_wp2
        go_ret
        exact ⟨ret_bool (inL_hit hlt HF.out), rfl⟩
      · have HF := Lib.hid hf
        have hf' : (ls[k] == s.toList) = false := by simpa using hf
        clear hf
        go_wp2
        go_round
        case rel => exact ⟨k + 1, by omega, by go_num, by rw [inL_take_snoc hlt, HA.out]; simpa using HF.out⟩
        case measure => simp [intOf]; omega
    · obtain rfl : k = ls.length := by omega
      go_wp2
      go_ret
      exact ⟨ret_bool (by have := HA.out; rw [List.take_length] at this; exact this.symm), rfl⟩
theorem cells_of (ls : List (List UInt8)) (w : World) (T : TypeId) (k : Nat) (h : k < ls.length) :
    (w.alloc (.cells (ls.map fun l => Value.string ⟨l.toArray⟩).toArray T)).cell? ⟨w.heap.size, 0 + k, none⟩ = some (.string ⟨ls[k].toArray⟩) := by
  rw [World.cell?_alloc_new]; simp [h]

def voidL : List (List UInt8) := [[98, 114], [104, 114], [105, 109, 103], [105, 110, 112, 117, 116], [109, 101, 116, 97], [108, 105, 110, 107], [98, 97, 115, 101], [101, 109, 98, 101, 100]]
theorem l01Void_any (s : ByteArray) (w : World) :
    Calls Try.prog 195 #[.string s] w fun e w' => e = .returned (.bool (inL voidL s)) ∧ Below w.heap.size w w' := by
  go_enter Try.func195, Try.ntmps195
  go_wp2_with (go_at_call 125; refine (l01Has_any voidL _ 0 _ _ (by decide) (fun k h => cells_of voidL _ _ k h)).mono ?_; rintro e w' ⟨rfl, rfl⟩)
  go_ret
  exact ⟨rfl, (Below.refl _ _).alloc (Nat.le_refl _) _⟩
def rawL : List (List UInt8) := [[115, 116, 121, 108, 101], [115, 99, 114, 105, 112, 116], [120, 109, 112], [105, 102, 114, 97, 109, 101]]
theorem l01Raw_any (s : ByteArray) (w : World) :
    Calls Try.prog 196 #[.string s] w fun e w' => e = .returned (.bool (inL rawL s)) ∧ Below w.heap.size w w' := by
  go_enter Try.func196, Try.ntmps196
  go_wp2_with (go_at_call 125; refine (l01Has_any rawL _ 0 _ _ (by decide) (fun k h => cells_of rawL _ _ k h)).mono ?_; rintro e w' ⟨rfl, rfl⟩)
  go_ret
  exact ⟨rfl, (Below.refl _ _).alloc (Nat.le_refl _) _⟩
def outL : List (List UInt8) := [[112], [100, 105, 118], [98], [105], [98, 114], [105, 109, 103], [117, 108], [108, 105], [116, 97, 98, 108, 101], [104, 49]]
def bannedL : List (List UInt8) := [[115, 99, 114, 105, 112, 116], [105, 102, 114, 97, 109, 101], [111, 98, 106, 101, 99, 116], [101, 109, 98, 101, 100], [102, 114, 97, 109, 101], [98, 97, 115, 101], [117, 115, 101]]
theorem l01Banned_any (s : ByteArray) (w : World) :
    Calls Try.prog 184 #[.string s] w fun e w' => e = .returned (.bool (inL bannedL s)) ∧ Below w.heap.size w w' := by
  go_enter Try.func184, Try.ntmps184
  go_wp2_with (go_at_call 125; refine (l01Has_any bannedL _ 0 _ _ (by decide) (fun k h => cells_of bannedL _ _ k h)).mono ?_; rintro e w' ⟨rfl, rfl⟩)
  go_ret
  exact ⟨rfl, (Below.refl _ _).alloc (Nat.le_refl _) _⟩
def linkL : List (List UInt8) := [[104, 114, 101, 102], [115, 114, 99], [97, 99, 116, 105, 111, 110], [102, 111, 114, 109, 97, 99, 116, 105, 111, 110], [120, 108, 105, 110, 107, 45, 104, 114, 101, 102]]
theorem l01Link_any (s : ByteArray) (w : World) :
    Calls Try.prog 123 #[.string s] w fun e w' => e = .returned (.bool (inL linkL s)) ∧ Below w.heap.size w w' := by
  go_enter Try.func123, Try.ntmps123
  go_wp2_with (go_at_call 125; refine (l01Has_any linkL _ 0 _ _ (by decide) (fun k h => cells_of linkL _ _ k h)).mono ?_; rintro e w' ⟨rfl, rfl⟩)
  go_ret
  exact ⟨rfl, (Below.refl _ _).alloc (Nat.le_refl _) _⟩
end Go.Proofs.Ytbcbmgeoaejlmaa
