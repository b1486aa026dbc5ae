import Derived.Test.YtlghmcnhdmidnaaDoorUnLoop
namespace Go.Proofs.YtlghmcnhdmidnaaDoor
open Go.ChangeShapes Go.WideShapes Go.ChangeAt Go.RowKit

/-! What was escaped is read back. -/
theorem un_name {k : Nat} (hk : k < nmL.length) (r : List UInt8) : un (nmL[k] ++ r) = nmB[k]'hk :: un r := by
  have h := one_named hk (l := nmL[k] ++ r) (List.prefix_append _ _)
  have hc : ∃ t, nmL[k] = 38 :: t := by
    match k, hk with
    | 0, _ => exact ⟨_, rfl⟩
    | 1, _ => exact ⟨_, rfl⟩
    | 2, _ => exact ⟨_, rfl⟩
    | 3, _ => exact ⟨_, rfl⟩
  obtain ⟨t, ht⟩ := hc
  have hd : (nmL[k] ++ r).drop nmL[k].length = r := by simp
  rw [ht] at h hd ⊢
  rw [List.cons_append] at h hd ⊢
  rw [un_some h, hd]
theorem un_amp (r : List UInt8) : un (38 :: 97 :: 109 :: 112 :: 59 :: r) = 38 :: un r := un_name (k := 0) (by decide) r
theorem un_lt (r : List UInt8) : un (38 :: 108 :: 116 :: 59 :: r) = 60 :: un r := un_name (k := 1) (by decide) r
theorem un_gt (r : List UInt8) : un (38 :: 103 :: 116 :: 59 :: r) = 62 :: un r := un_name (k := 2) (by decide) r
theorem un_quot (r : List UInt8) : un (38 :: 113 :: 117 :: 111 :: 116 :: 59 :: r) = 34 :: un r := un_name (k := 3) (by decide) r
theorem un_escT1 (c : UInt8) (r : List UInt8) : un (escT c ++ r) = c :: un r := by
  unfold escT
  by_cases h1 : c = 38
  · rw [if_pos h1, h1]; exact un_amp r
  · rw [if_neg h1]
    by_cases h2 : c = 60
    · rw [if_pos h2, h2]; exact un_lt r
    · rw [if_neg h2]
      by_cases h3 : c = 62
      · rw [if_pos h3, h3]; exact un_gt r
      · rw [if_neg h3]; exact un_other r h1
theorem un_escV1 (c : UInt8) (r : List UInt8) : un (escV c ++ r) = c :: un r := by
  unfold escV
  by_cases h1 : c = 34
  · rw [if_pos h1, h1]; exact un_quot r
  · rw [if_neg h1]; exact un_escT1 c r
theorem un_escL {f : UInt8 → List UInt8} (hf : ∀ c r, un (f c ++ r) = c :: un r) : ∀ l : List UInt8, un (escL f l) = l
  | [] => rfl
  | c :: r => by
    have e : escL f (c :: r) = f c ++ escL f r := rfl
    rw [e, hf, un_escL hf r]
/-- of an escaped text no byte is a mark -/
theorem escT_none (c d : UInt8) (h : d ∈ escT c) : d ≠ 60 ∧ d ≠ 62 := by
  unfold escT at h
  by_cases h1 : c = 38
  · rw [if_pos h1] at h
    simp only [List.mem_cons, List.not_mem_nil, or_false] at h
    rcases h with rfl | rfl | rfl | rfl | rfl <;> decide
  · rw [if_neg h1] at h
    by_cases h2 : c = 60
    · rw [if_pos h2] at h
      simp only [List.mem_cons, List.not_mem_nil, or_false] at h
      rcases h with rfl | rfl | rfl | rfl <;> decide
    · rw [if_neg h2] at h
      by_cases h3 : c = 62
      · rw [if_pos h3] at h
        simp only [List.mem_cons, List.not_mem_nil, or_false] at h
        rcases h with rfl | rfl | rfl | rfl <;> decide
      · rw [if_neg h3] at h
        simp only [List.mem_cons, List.not_mem_nil, or_false] at h
        subst h; exact ⟨h2, h3⟩
theorem escV_none (c d : UInt8) (h : d ∈ escV c) : d ≠ 60 ∧ d ≠ 62 ∧ d ≠ 34 := by
  unfold escV at h
  by_cases h1 : c = 34
  · rw [if_pos h1] at h
    simp only [List.mem_cons, List.not_mem_nil, or_false] at h
    rcases h with rfl | rfl | rfl | rfl | rfl | rfl <;> decide
  · rw [if_neg h1] at h
    refine ⟨(escT_none c d h).1, (escT_none c d h).2, ?_⟩
    unfold escT at h
    rintro rfl
    by_cases g1 : c = 38
    · rw [if_pos g1] at h; exact absurd h (by decide)
    · rw [if_neg g1] at h
      by_cases g2 : c = 60
      · rw [if_pos g2] at h; exact absurd h (by decide)
      · rw [if_neg g2] at h
        by_cases g3 : c = 62
        · rw [if_pos g3] at h; exact absurd h (by decide)
        · rw [if_neg g3] at h
          simp only [List.mem_cons, List.not_mem_nil, or_false] at h
          exact h1 h.symm
theorem escL_none {f : UInt8 → List UInt8} {p : UInt8 → Prop} (hf : ∀ c d, d ∈ f c → p d) (l : List UInt8) (d : UInt8) (h : d ∈ escL f l) : p d := by
  unfold escL at h
  obtain ⟨c, _, hc⟩ := List.mem_flatMap.1 h
  exact hf c d hc
/-- a number's escape is its byte -/
theorem un_number {n : Nat} (h1 : 1 ≤ n) (h2 : n ≤ 126) : un (97 :: 38 :: 35 :: (dec3 n ++ [59, 98])) = [97, UInt8.ofNat n, 98] := by
  have key : ∀ m : Fin 127, 1 ≤ m.val → un (97 :: 38 :: 35 :: (dec3 m ++ [59, 98])) = [97, UInt8.ofNat m, 98] := by decide +kernel
  exact key ⟨n, by omega⟩ h1
end Go.Proofs.YtlghmcnhdmidnaaDoor
