
import Derived.Test.YthinbdhbaahefaaBuf
import Derived.Test.YthinbdhbaahefaaBad
namespace Go.Proofs.Ythinbdhbaahefaa
open Go.ChangeShapes Go.WideShapes Go.ChangeAt Go.RowKit

def lowU (c : UInt8) : UInt8 := if 65 ≤ c ∧ c ≤ 90 then c + 32 else c
theorem lowU_nat (c : UInt8) : ((lowU c).toNat : Int) = lowB (c.toNat : Int) := by
  unfold lowU lowB great
  by_cases h : 65 ≤ c ∧ c ≤ 90
  · rw [if_pos h]
    obtain ⟨h1, h2⟩ := h
    rw [UInt8.le_iff_toNat_le] at h1 h2
    simp at h1 h2
    rw [if_pos (by simp; omega), UInt8.toNat_add]
    simp; omega
  · rw [if_neg h, if_neg]
    intro e; apply h
    simp at e
    rw [UInt8.le_iff_toNat_le, UInt8.le_iff_toNat_le]; simp; omega

theorem OwnB.empty (w : World) : OwnB w (w.alloc (.cells #[] 5)) (.slice (some ⟨w.heap.size, 0, none⟩) 0 0) [] :=
  ⟨World.ownsRow_lit w #[] 0 (Nat.le_refl _) (by decide) rfl, (Below.refl _ _).alloc (Nat.le_refl _) _⟩
theorem take_map_snoc {s : ByteArray} {k : Nat} (f : UInt8 → UInt8) (h : k < s.size) : (s.data.toList.take (k + 1)).map f = (s.data.toList.take k).map f ++ [f s[k]] := by
  rw [List.take_succ_eq_append_getElem (by simpa using h), List.map_append]; rfl
theorem take_len {s : ByteArray} {k : Nat} (f : UInt8 → UInt8) : ((s.data.toList.take k).map f).length ≤ k := by simp; omega

end Go.Proofs.Ythinbdhbaahefaa
