
import Derived.WalkKit
import Derived.Laws.RangeAny
import Derived.Lib.SpaceUEq
namespace Go.Proofs.Ytocpmkpffhmlaaa

/-- the bytes of a rune behind its first are no marks -/
theorem conts {s : ByteArray} {pos : Nat} (h : pos < s.size) (ha : 128 ≤ (s[pos]'h).toNat) (j : Nat) (hj : j < s.size) (h1 : pos ≤ j) (h2 : j < pos + (Utf8.decode s pos).2) : 128 ≤ (s[j]'hj).toNat := by
  have hc := Lib.decodeN_conts (s.data.toList.length - pos) (s.data.toList.getD pos 0).toNat (s.data.toList.getD (pos + 1) 0).toNat (s.data.toList.getD (pos + 2) 0).toNat (s.data.toList.getD (pos + 3) 0).toNat
  rw [← Lib.decode_N] at hc
  obtain ⟨c2, c3, c4, c5⟩ := hc
  have key : ∀ d, j = pos + d → (s.data.toList.getD (pos + d) 0).toNat / 64 = 2 → 128 ≤ (s[j]'hj).toNat := by
    rintro d rfl hd
    rw [List.getD_eq_getElem?_getD, List.getElem?_eq_getElem (by simpa using hj)] at hd
    have : (s[pos + d]'hj).toNat / 64 = 2 := hd
    omega
  obtain ⟨d, rfl⟩ := Nat.exists_eq_add_of_le h1
  have hd : d < 4 := by omega
  match d, hd with
  | 0, _ => exact ha
  | 1, _ => exact key 1 rfl (c2 (by omega)).1
  | 2, _ => exact key 2 rfl (c3 (by omega)).1
  | 3, _ => exact key 3 rfl (c4 (by omega)).1
theorem width_in {s : ByteArray} {pos : Nat} (h : pos < s.size) : 1 ≤ (Utf8.decode s pos).2 ∧ pos + (Utf8.decode s pos).2 ≤ s.size := by
  have h1 : 1 ≤ (Utf8.decode s pos).2 := by
    by_cases ha : (s[pos]'h).toNat < 128
    · rw [decode_ascii s pos h ha]; exact Nat.le_refl _
    · exact (decode_high s pos h (by omega)).2
  have hc := Lib.decodeN_conts (s.data.toList.length - pos) (s.data.toList.getD pos 0).toNat (s.data.toList.getD (pos + 1) 0).toNat (s.data.toList.getD (pos + 2) 0).toNat (s.data.toList.getD (pos + 3) 0).toNat
  rw [← Lib.decode_N] at hc
  obtain ⟨c2, c3, c4, c5⟩ := hc
  have hl : s.data.toList.length = s.size := by simp
  rw [hl] at c2 c3 c4
  refine ⟨h1, ?_⟩
  by_cases e2 : 2 ≤ (Utf8.decode s pos).2
  · by_cases e3 : 3 ≤ (Utf8.decode s pos).2
    · by_cases e4 : 4 ≤ (Utf8.decode s pos).2
      · have := (c4 e4).2; omega
      · have := (c3 e3).2; omega
    · have := (c2 e2).2; omega
  · omega

end Go.Proofs.Ytocpmkpffhmlaaa
