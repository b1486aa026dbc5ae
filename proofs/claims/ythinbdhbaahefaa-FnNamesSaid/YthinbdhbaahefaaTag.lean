
import Derived.Test.YthinbdhbaahefaaNames
namespace Go.Proofs.Ythinbdhbaahefaa
open Go.ChangeShapes Go.WideShapes Go.ChangeAt Go.RowKit

/-- the bytes up to place k are those of a tag's name -/
def TagTo (s : ByteArray) (k : Nat) : Prop := ∀ i (h : i < s.size), i < k → (if i = 0 then small (s[i].toNat : Int) else tagB (s[i].toNat : Int)) = true
theorem tagTo_step {s : ByteArray} {k : Nat} (h : TagTo s k) (hk : k < s.size) (hf : (if k = 0 then small (s[k].toNat : Int) else tagB (s[k].toNat : Int)) = true) : TagTo s (k + 1) := by
  intro i hi h2
  by_cases e : i = k
  · subst e; exact hf
  · exact h i hi (by omega)
theorem tagTo_named {s : ByteArray} (h0 : 0 < s.size) (h12 : s.size ≤ 12) (h : TagTo s s.size) : Named small tagB s :=
  ⟨h0, h12, by simpa using h 0 h0 h0, fun i hi h1 _ => by have := h i hi hi; rwa [if_neg (by omega)] at this⟩
theorem named_tagTo {s : ByteArray} (h : Named small tagB s) {k : Nat} (hk : k < s.size) : (if k = 0 then small (s[k].toNat : Int) else tagB (s[k].toNat : Int)) = true := by
  obtain ⟨h0, _, hb, ha⟩ := h
  by_cases e : k = 0
  · subst e; rw [if_pos rfl]; exact hb
  · rw [if_neg e]; exact ha k hk (by omega) hk
theorem small_yes {c : Int} (h : small c = true) : 97 ≤ c ∧ c ≤ 122 := by simpa [small] using h
theorem small_tag {c : Int} (h : small c = true) : tagB c = true := by simp [tagB, h]
theorem digit_tag {c : Int} (h : digit c = true) : tagB c = true := by simp [tagB, h]
theorem not_tag {c : Int} (h1 : ¬ small c = true) (h2 : ¬ digit c = true) (h3 : ¬ c = 45) : ¬ tagB c = true := by simp [tagB, h1, h2, h3]

end Go.Proofs.Ythinbdhbaahefaa
