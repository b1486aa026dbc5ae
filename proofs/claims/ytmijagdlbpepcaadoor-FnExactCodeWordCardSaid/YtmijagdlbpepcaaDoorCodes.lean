import Derived.Test.YtmijagdlbpepcaaDoorCards
import Derived.Test.YtmijagdlbpepcaaDoorTie
import Derived.WalkKit
import Derived.ProofKit
import Derived.OpenShut
import Derived.ShutString
import Derived.Below
import Derived.Carry
import Derived.OpenVars
import Derived.Outline
import Derived.Lib.Hide
import Derived.Laws.Rows
import Derived.Deep.DeepHandedRow
import Derived.Lib.LaidTab
namespace Go.Proofs.YtmijagdlbpepcaaDoor
open Go.ChangeShapes Go.WideShapes Go.ChangeAt Go.RowKit

def codesL : List (List UInt8) := [[111, 107], [98, 97, 100], [108, 111, 110, 103], [102, 111, 114, 109], [114, 97, 110, 103, 101], [110, 111, 110, 101], [109, 97, 110, 121], [102, 117, 108, 108], [115, 105, 122, 101], [107, 105, 110, 100], [110, 97, 109, 101], [100, 101, 101, 112], [104, 97, 110, 100, 108, 101], [99, 111, 110, 102, 105, 103], [97, 103, 97, 105, 110], [117, 110, 115, 97, 102, 101], [112, 108, 97, 99, 101], [115, 116, 97, 116, 101], [115, 97, 109, 101]]
theorem ret_string {a b : ByteArray} (h : a = b) : Ending.returned (.string a) = .returned (.string b) := by rw [h]
theorem ret_int {k : IntKind} {a b : Int} (h : a = b) : Ending.returned (.int k a) = .returned (.int k b) := by rw [h]
def wordOf (n : Int) : ByteArray := if 0 ≤ n ∧ n < 19 then ⟨(codesL.getD n.toNat []).toArray⟩ else ⟨#[]⟩
/-- the table's cells -/
def Table (w : World) : Prop := ∀ k, k < 19 → w.cell? ⟨0, k, none⟩ = some (.string ⟨(codesL.getD k []).toArray⟩)
theorem Table.below {w w' : World} (h : Table w) (hb : Below w.heap.size w w') (h0 : 0 < w.heap.size) : Table w' := fun k hk => (hb.cell (p := ⟨0, k, none⟩) h0).trans (h k hk)
theorem each (k : Nat) (h : k < 19) : k = 0 ∨ k = 1 ∨ k = 2 ∨ k = 3 ∨ k = 4 ∨ k = 5 ∨ k = 6 ∨ k = 7 ∨ k = 8 ∨ k = 9 ∨ k = 10 ∨ k = 11 ∨ k = 12 ∨ k = 13 ∨ k = 14 ∨ k = 15 ∨ k = 16 ∨ k = 17 ∨ k = 18 := by omega

set_option maxHeartbeats 4000000 in
theorem specCodeWord_in (k : Nat) (h : k < 19) (w : World) :
    Calls Tryd.prog 5 #[.int .i64 (k : Int)] w fun e w' => e = .returned (.string ⟨(codesL.getD k []).toArray⟩) ∧ Below w.heap.size w w' := by
  rcases each k h with rfl | rfl | rfl | rfl | rfl | rfl | rfl | rfl | rfl | rfl | rfl | rfl | rfl | rfl | rfl | rfl | rfl | rfl | rfl
  all_goals
    go_enter Tryd.func5, Tryd.ntmps5
    go_wp2
    go_ret
    exact ⟨rfl, (Below.refl _ _).alloc (Nat.le_refl _) _⟩
theorem specCodeWord_any (n : Int) (w : World) :
    Calls Tryd.prog 5 #[.int .i64 n] w fun e w' => e = .returned (.string (wordOf n)) ∧ Below w.heap.size w w' := by
  by_cases h : 0 ≤ n ∧ n < 19
  · obtain ⟨k, rfl⟩ := Int.eq_ofNat_of_zero_le h.1
    refine (specCodeWord_in k (by omega) w).mono fun e w' ⟨he, hb⟩ => ⟨he.trans (ret_string ?_), hb⟩
    rw [wordOf, if_pos h]; rfl
  · have h' : n < 0 ∨ (0 ≤ n ∧ 19 ≤ n) := by omega
    have HW := Lib.hid (show wordOf n = ⟨#[]⟩ by rw [wordOf, if_neg h])
    clear h
    rcases h' with h1 | ⟨h1, h2⟩
    all_goals
      go_enter Tryd.func5, Tryd.ntmps5
      go_wp2
      go_ret
      exact ⟨ret_string HW.out.symm, (Below.refl _ _).alloc (Nat.le_refl _) _⟩

set_option maxHeartbeats 4000000 in
theorem implCodeWord_in (k : Nat) (h : k < 19) (w : World) (ht : Table w) :
    Calls Tryd.prog 6 #[.int .i64 (k : Int)] w fun e w' => e = .returned (.string ⟨(codesL.getD k []).toArray⟩) ∧ w = w' := by
  have hc := ht k h
  clear ht
  rcases each k h with rfl | rfl | rfl | rfl | rfl | rfl | rfl | rfl | rfl | rfl | rfl | rfl | rfl | rfl | rfl | rfl | rfl | rfl | rfl
  all_goals
    clear h
    go_enter Tryd.func6, Tryd.ntmps6
    go_wp2
    go_ret
    exact ⟨rfl, rfl⟩
theorem implCodeWord_any (n : Int) (w : World) (ht : Table w) :
    Calls Tryd.prog 6 #[.int .i64 n] w fun e w' => e = .returned (.string (wordOf n)) ∧ w = w' := by
  by_cases h : 0 ≤ n ∧ n < 19
  · obtain ⟨k, rfl⟩ := Int.eq_ofNat_of_zero_le h.1
    refine (implCodeWord_in k (by omega) w ht).mono fun e w' ⟨he, hb⟩ => ⟨he.trans (ret_string ?_), hb⟩
    rw [wordOf, if_pos h]; rfl
  · have h' : n < 0 ∨ (0 ≤ n ∧ 19 ≤ n) := by omega
    have HW := Lib.hid (show wordOf n = ⟨#[]⟩ by rw [wordOf, if_neg h])
    clear h ht
    rcases h' with h1 | ⟨h1, h2⟩
    all_goals
      go_enter Tryd.func6, Tryd.ntmps6
      go_wp2
      go_ret
      exact ⟨ret_string HW.out.symm, rfl⟩
end Go.Proofs.YtmijagdlbpepcaaDoor
