import Derived.Test.YtgkkmoliobhpiaaGreatDoorProg
import Derived.WalkKit
import Derived.ProofKit
import Derived.Lib.Atoi
import Derived.Lib.ItoaNum
import Derived.Lib.Hide
import Derived.Below
import Derived.WalkSpells
namespace Go.Proofs.YtgkkmoliobhpiaaGreatDoor
open Go.ChangeShapes Go.WideShapes Go.ChangeAt Go.RowKit

/-- the digits of a number below 1000 -/
def dec3 (n : Nat) : List UInt8 :=
  if n < 10 then [UInt8.ofNat (48 + n)] else if n < 100 then [UInt8.ofNat (48 + n / 10), UInt8.ofNat (48 + n % 10)]
  else [UInt8.ofNat (48 + n / 100), UInt8.ofNat (48 + n / 10 % 10), UInt8.ofNat (48 + n % 10)]
theorem itoa_dec3 {n : Nat} (h : n < 1000) : Lib.itoa (n : Int) = dec3 n := by
  rw [Lib.itoa, if_neg (by omega)]
  show Lib.decDigits n = dec3 n
  by_cases h1 : n < 10
  · rw [Lib.decDigits_one h1, dec3, if_pos h1]
  · by_cases h2 : n < 100
    · rw [Lib.decDigits_two h1 h2, dec3, if_neg h1, if_pos h2]
    · rw [Lib.decDigits, dif_neg h1, Lib.decDigits_two (by omega) (by omega), dec3, if_neg h1, if_neg h2]
      have : n / 10 / 10 = n / 100 := by omega
      rw [this]; rfl
/-- the number from 1 to 126 that a text of digits is -/
def num3 (l : List UInt8) : Option Nat := ((List.range 126).find? fun i => dec3 (i + 1) == l).map (· + 1)
theorem num3_some {l : List UInt8} {n : Nat} (h : num3 l = some n) : 1 ≤ n ∧ n ≤ 126 ∧ l = dec3 n := by
  unfold num3 at h
  rw [Option.map_eq_some_iff] at h
  obtain ⟨i, hi, rfl⟩ := h
  have h1 := List.find?_some hi
  have h2 := List.mem_range.1 (List.mem_of_find?_eq_some hi)
  have h3 : dec3 (i + 1) = l := by simpa using h1
  exact ⟨by omega, by omega, h3.symm⟩
def valD (l : List UInt8) : Nat := l.foldl (fun a c => a * 10 + (c.toNat - 48)) 0
theorem valD_dec3 : ∀ n : Fin 127, valD (dec3 n) = n := by decide
theorem dec3_inj (a b : Fin 127) (h : dec3 a = dec3 b) : a = b := by
  apply Fin.ext
  rw [← valD_dec3 a, ← valD_dec3 b, h]
theorem num3_dec3 {n : Nat} (h1 : 1 ≤ n) (h2 : n ≤ 126) : num3 (dec3 n) = some n := by
  unfold num3
  cases e : (List.range 126).find? fun i => dec3 (i + 1) == dec3 n with
  | none =>
    rw [List.find?_eq_none] at e
    have := e (n - 1) (by simp; omega)
    rw [show n - 1 + 1 = n by omega] at this
    simp at this
  | some i =>
    have h3 := List.find?_some e
    have h4 := List.mem_range.1 (List.mem_of_find?_eq_some e)
    have h5 : dec3 (i + 1) = dec3 n := by simpa using h3
    have := dec3_inj ⟨i + 1, by omega⟩ ⟨n, by omega⟩ h5
    simp at this
    simp [this]
theorem num3_none {l : List UInt8} (h : ∀ n, 1 ≤ n → n ≤ 126 → l ≠ dec3 n) : num3 l = none := by
  cases e : num3 l with
  | none => rfl
  | some n =>
    obtain ⟨h1, h2, h3⟩ := num3_some e
    exact absurd h3 (h n h1 h2)

theorem dec3_form : ∀ n : Fin 127, 1 ≤ n.val → (dec3 n).all (fun c => decide (48 ≤ c.toNat ∧ c.toNat ≤ 57)) = true ∧ (dec3 n).head? ≠ some 48 ∧ dec3 n ≠ [] := by decide
/-- the first k bytes are digits -/
def Dig (s : ByteArray) (k : Nat) : Prop := ∀ j (h : j < s.size), j < k → 48 ≤ (s[j]).toNat ∧ (s[j]).toNat ≤ 57
def valT (s : ByteArray) (k : Nat) : Nat := valD (s.data.toList.take k)
theorem Dig.zero (s : ByteArray) : Dig s 0 := fun _ _ h => by omega
theorem Dig.succ {s : ByteArray} {k : Nat} (h : Dig s k) (hk : k < s.size) (h1 : 48 ≤ (s[k]).toNat) (h2 : (s[k]).toNat ≤ 57) : Dig s (k + 1) := fun j hj h3 => by
  by_cases e : j = k
  · subst e; exact ⟨h1, h2⟩
  · exact h j hj (by omega)
theorem valT_succ {s : ByteArray} {k : Nat} (hk : k < s.size) : valT s (k + 1) = valT s k * 10 + ((s[k]).toNat - 48) := by
  unfold valT
  have e : s.data.toList.take (k + 1) = s.data.toList.take k ++ [s[k]] := List.take_succ_eq_append_getElem (by simpa using hk)
  rw [e, valD, List.foldl_append]; rfl
theorem valT_lt {s : ByteArray} : ∀ {k : Nat}, Dig s k → k ≤ s.size → valT s k + 1 ≤ 10 ^ k
  | 0, _, _ => by simp [valT, valD]
  | k + 1, h, hk => by
    have ih := valT_lt (k := k) (fun j hj h1 => h j hj (by omega)) (by omega)
    have hd := h k (by omega) (by omega)
    rw [valT_succ (by omega), Nat.pow_succ]
    omega
theorem byte_at {s : ByteArray} {i : Nat} (h : i < s.size) : s.data.toList[i]? = some s[i] := by
  rw [List.getElem?_eq_getElem (by simpa using h)]; rfl
/-- no number: what is no digit stands in it, or a nought ahead, or nothing -/
theorem num3_bad {s : ByteArray} (h : s.size = 0 ∨ (∃ h : 0 < s.size, (s[0]).toNat = 48) ∨ ∃ j, ∃ h : j < s.size, (s[j]).toNat < 48 ∨ 57 < (s[j]).toNat) : num3 s.data.toList = none := by
  refine num3_none fun n h1 h2 e => ?_
  obtain ⟨f1, f2, f3⟩ := dec3_form ⟨n, by omega⟩ h1
  simp only at f1 f2 f3
  rw [← e] at f1 f2 f3
  rcases h with h | ⟨h, h0⟩ | ⟨j, hj, hd⟩
  · apply f3
    apply List.length_eq_zero_iff.1
    simpa using h
  · apply f2
    rw [List.head?_eq_getElem?, byte_at h]
    congr 1
    exact UInt8.toNat_inj.1 h0
  · have := List.all_eq_true.1 f1 _ (List.mem_of_getElem? (byte_at hj))
    simp at this
    omega
theorem dec3_one {a : UInt8} (h : 48 ≤ a.toNat ∧ a.toNat ≤ 57) : [a] = dec3 (a.toNat - 48) := by
  rw [dec3, if_pos (by omega)]
  congr 1
  apply UInt8.toNat_inj.1; simp; omega
theorem dec3_two {a b : UInt8} (h : 49 ≤ a.toNat ∧ a.toNat ≤ 57) (h' : 48 ≤ b.toNat ∧ b.toNat ≤ 57) : [a, b] = dec3 ((a.toNat - 48) * 10 + (b.toNat - 48)) := by
  rw [dec3, if_neg (by omega), if_pos (by omega)]
  congr 1
  · apply UInt8.toNat_inj.1; simp; omega
  · congr 1; apply UInt8.toNat_inj.1; simp; omega
theorem dec3_three {a b c : UInt8} (h : 49 ≤ a.toNat ∧ a.toNat ≤ 57) (h' : 48 ≤ b.toNat ∧ b.toNat ≤ 57) (h'' : 48 ≤ c.toNat ∧ c.toNat ≤ 57) : [a, b, c] = dec3 (((a.toNat - 48) * 10 + (b.toNat - 48)) * 10 + (c.toNat - 48)) := by
  rw [dec3, if_neg (by omega), if_neg (by omega)]
  congr 1
  · apply UInt8.toNat_inj.1; simp; omega
  · congr 1
    · apply UInt8.toNat_inj.1; simp; omega
    · congr 1; apply UInt8.toNat_inj.1; simp; omega
/-- digits, no nought ahead: the text of their number -/
theorem num3_good {s : ByteArray} (hs : s.size ≤ 3) (h0 : 0 < s.size) (hf : s.size = 1 ∨ (s[0]).toNat ≠ 48) (hd : Dig s s.size) : s.data.toList = dec3 (valT s s.size) := by
  have hz : s.data.toList.length = s.size := by simp
  have hv : valT s s.size = valD s.data.toList := by unfold valT; rw [List.take_of_length_le (by omega)]
  rw [hv]
  have a0 := byte_at h0
  have d0 := hd 0 h0 h0
  rcases e : s.data.toList with _ | ⟨a, _ | ⟨b, _ | ⟨c, _ | ⟨_, _⟩⟩⟩⟩
  · rw [e] at hz; simp at hz; omega
  · rw [e] at a0; simp at a0; rw [← a0] at d0
    have ev : valD [a] = a.toNat - 48 := by simp [valD]
    rw [ev]; exact dec3_one d0
  · rw [e] at a0 hz; simp at a0 hz
    have a1 := byte_at (s := s) (i := 1) (by omega)
    have d1 := hd 1 (by omega) (by omega)
    rw [e] at a1; simp at a1
    rw [← a0] at d0 hf; rw [← a1] at d1
    have ev : valD [a, b] = (a.toNat - 48) * 10 + (b.toNat - 48) := by simp [valD]
    rw [ev]; exact dec3_two ⟨by omega, d0.2⟩ d1
  · rw [e] at a0 hz; simp at a0 hz
    have a1 := byte_at (s := s) (i := 1) (by omega)
    have d1 := hd 1 (by omega) (by omega)
    have a2 := byte_at (s := s) (i := 2) (by omega)
    have d2 := hd 2 (by omega) (by omega)
    rw [e] at a1 a2; simp at a1 a2
    rw [← a0] at d0 hf; rw [← a1] at d1; rw [← a2] at d2
    have ev : valD [a, b, c] = ((a.toNat - 48) * 10 + (b.toNat - 48)) * 10 + (c.toNat - 48) := by simp [valD]
    rw [ev]; exact dec3_three ⟨by omega, d0.2⟩ d1 d2
  · rw [e] at hz; simp at hz; omega
theorem valD_of {l : List UInt8} {n : Nat} (h : num3 l = some n) : valD l = n := by
  obtain ⟨h1, h2, h3⟩ := num3_some h
  rw [h3]
  exact valD_dec3 ⟨n, by omega⟩
/-- what the model tells of it -/
def NumPost (s : ByteArray) (w : World) (e : Ending) (w' : World) : Prop := ∃ (z : Int) (b : Bool), e = .returned (.tuple #[.int .i64 z, .bool b]) ∧
  ((b = true ∧ 1 ≤ z ∧ z ≤ 126 ∧ num3 s.data.toList = some z.toNat) ∨ ((b = false ∨ z < 1 ∨ 126 < z) ∧ num3 s.data.toList = none)) ∧ w = w'
theorem numPost_good {s : ByteArray} (hs : s.size ≤ 3) (h0 : 0 < s.size) (hf : s.size = 1 ∨ (s[0]).toNat ≠ 48) (hd : Dig s s.size) (w : World) : NumPost s w (.returned (.tuple #[.int .i64 (valT s s.size : Int), .bool true])) w := by
  have hg := num3_good hs h0 hf hd
  refine ⟨_, _, rfl, ?_, rfl⟩
  by_cases h : 1 ≤ valT s s.size ∧ valT s s.size ≤ 126
  · exact Or.inl ⟨rfl, by omega, by omega, by rw [hg, num3_dec3 h.1 h.2]; rfl⟩
  · refine Or.inr ⟨by omega, num3_none fun n h1 h2 e => ?_⟩
    have := valD_dec3 ⟨n, by omega⟩
    simp only at this
    rw [← e] at this
    have hv : valT s s.size = valD s.data.toList := by unfold valT; rw [List.take_of_length_le (by simp)]
    omega

theorem numPost_none {s : ByteArray} {z : Int} {b : Bool} (h : b = false ∨ z < 1 ∨ 126 < z) (hn : num3 s.data.toList = none) (w : World) : NumPost s w (.returned (.tuple #[.int .i64 z, .bool b])) w := ⟨z, b, rfl, Or.inr ⟨h, hn⟩, rfl⟩

set_option maxHeartbeats 4000000 in
theorem l00Number_any (s : ByteArray) (hs : s.size ≤ 3) (w : World) : Calls Tryz.prog 102 #[.string s] w (NumPost s w) := by
  by_cases h0 : s.size = 0
  · have HB := Lib.hid (num3_bad (Or.inl h0))
    have h0a : ((s.size : Int) == 0) = true := by simp [h0]
    have h0b : decide ((0 : Int) < (s.size : Int)) = false := by simp [h0]
    clear h0
    go_enter Tryz.func102, Tryz.ntmps102
    go_wp2
    go_ret2
    exact numPost_none (Or.inl rfl) HB.out w
  · have hpos : 0 < s.size := by omega
    have hpos' : (0 : Int) < (s.size : Int) := by omega
    have h0a : ((s.size : Int) == 0) = false := beq_eq_false_iff_ne.2 (by omega)
    have h18 : decide ((18 : Int) < (s.size : Int)) = false := by simp; omega
    by_cases h45 : ((s[0].toNat : Int) == 45) = true
    · have HB := Lib.hid (num3_bad (Or.inr (Or.inr ⟨0, hpos, Or.inl (by have : (s[0].toNat : Int) = 45 := by simpa using h45
                                                                        omega)⟩)) : num3 s.data.toList = none)
      have hx : ∀ w, (Instr.slice 9 (.string s) (some (.int .i64 1)) none none).run Tryz.prog w = .ok (.string (s.extract 1 s.size)) w := fun w => by
        rw [run_slice_string_from_if w 9 s .i64 _ Tryz.underlying9, if_pos (by omega)]
        rfl
      have hT : (s.extract 1 s.size).size + 1 = s.size := by rw [ByteArray.size_extract]; omega
      generalize s.extract 1 s.size = T at hx hT
      have hT2 : T.size ≤ 2 := by omega
      have HT := Lib.hid hT
      clear hT
      have h18T : decide ((18 : Int) < (T.size : Int)) = false := by simp; omega
      by_cases hT0 : T.size = 0
      · have hTa : ((T.size : Int) == 0) = true := by simp [hT0]
        clear hT0
        go_enter Tryz.func102, Tryz.ntmps102
        go_wp2
        go_ret2
        exact numPost_none (Or.inl rfl) HB.out w
      · have hTp : 0 < T.size := by omega
        have hTp' : (0 : Int) < (T.size : Int) := by omega
        have hTa : ((T.size : Int) == 0) = false := beq_eq_false_iff_ne.2 (by omega)
        clear hT0
        by_cases h48 : ((T[0].toNat : Int) == 48) = true
        · by_cases h1 : (1 : Int) < (T.size : Int)
          · go_enter Tryz.func102, Tryz.ntmps102
            go_wp2
            go_ret2
            exact numPost_none (Or.inl rfl) HB.out w
          · have h1' : decide ((1 : Int) < (T.size : Int)) = false := by simpa using h1
            clear h1
            go_enter Tryz.func102, Tryz.ntmps102
            go_wp2
            go_ret2
            exact numPost_none (Or.inl rfl) HB.out w
        · have h48' : ((T[0].toNat : Int) == 48) = false := by simpa using h48
          clear h48
          go_enter Tryz.func102, Tryz.ntmps102
          go_wp2
          go_loop [5, 6] (fun n i => ∃ k : Nat, k ≤ T.size ∧ i = .int .i64 k ∧ n = .int .i64 (valT T k : Int) ∧ Dig T k) (fun _ i => T.size - (intOf i).toNat)
          case atStart => exact ⟨0, Nat.zero_le _, rfl, rfl, Dig.zero T⟩
          case round =>
            obtain ⟨k, hk, rfl, rfl, hd⟩ := hrel
            have HD := Lib.hid hd
            have hv := valT_lt hd hk
            have hp10 : 10 ^ k ≤ 1000 := by
              have : k ≤ 3 := by omega
              calc 10 ^ k ≤ 10 ^ 3 := Nat.pow_le_pow_right (by omega) this
                _ = 1000 := rfl
            clear hd
            have hv2 : valT T k ≤ 999 := by omega
            clear hv hp10
            by_cases hlt : k < T.size
            · have hbl := (T[k]).toNat_lt
              by_cases hlo : (T[k].toNat : Int) < 48
              · skip
                go_wp2
                go_ret2
                exact numPost_none (Or.inl rfl) HB.out w
              · by_cases hhi : (57 : Int) < (T[k].toNat : Int)
                · have hlo' : decide ((T[k].toNat : Int) < 48) = false := by simpa using hlo
                  go_wp2
                  go_ret2
                  exact numPost_none (Or.inl rfl) HB.out w
                · have hlo' : decide ((T[k].toNat : Int) < 48) = false := by simpa using hlo
                  have hs1 := valT_succ hlt
                  have HS := Lib.hid (show (valT T k : Int) * 10 + (T[k].toNat : Int) - 48 = (valT T (k + 1) : Int) by omega)
                  clear hs1
                  have hlo2 : 48 ≤ (T[k].toNat : Int) := by omega
                  have hhi2 : (T[k].toNat : Int) ≤ 57 := by omega
                  clear hlo hhi hbl
                  go_wp2
                  go_round
                  case rel => exact ⟨k + 1, by omega, by go_num, by rw [HS.out], HD.out.succ hlt (by omega) (by omega)⟩
                  case measure => simp [intOf]; omega
            · obtain rfl : k = T.size := by omega
              go_wp2
              go_ret2
              exact numPost_none (Or.inr (Or.inl (by omega))) HB.out w
    · have h45' : ((s[0].toNat : Int) == 45) = false := by simpa using h45
      clear h45
      by_cases h48 : ((s[0].toNat : Int) == 48) = true ∧ 1 < s.size
      · have HB := Lib.hid (num3_bad (Or.inr (Or.inl ⟨hpos, by have := h48.1; simp at this; omega⟩)) : num3 s.data.toList = none)
        obtain ⟨h48a, h48b⟩ := h48
        have h1 : (1 : Int) < (s.size : Int) := by omega
        go_enter Tryz.func102, Tryz.ntmps102
        go_wp2
        go_ret2
        exact numPost_none (Or.inl rfl) HB.out w
      · have HF := Lib.hid (show s.size = 1 ∨ (s[0]).toNat ≠ 48 by
          by_cases e : s.size = 1
          · exact Or.inl e
          · refine Or.inr fun e2 => h48 ⟨by simp [e2], by omega⟩)
        have hg : ((s[0].toNat : Int) == 48) = false ∨ (((s[0].toNat : Int) == 48) = true ∧ decide ((1 : Int) < (s.size : Int)) = false) := by
          by_cases e : ((s[0].toNat : Int) == 48) = true
          · exact Or.inr ⟨e, by simp; have : ¬ 1 < s.size := fun h => h48 ⟨e, h⟩; omega⟩
          · exact Or.inl (by simpa using e)
        clear h48
        rcases hg with hg | ⟨hg, hg2⟩
        all_goals
          go_enter Tryz.func102, Tryz.ntmps102
          go_wp2
          go_loop [5, 6] (fun n i => ∃ k : Nat, k ≤ s.size ∧ i = .int .i64 k ∧ n = .int .i64 (valT s k : Int) ∧ Dig s k) (fun _ i => s.size - (intOf i).toNat)
          case atStart => exact ⟨0, Nat.zero_le _, rfl, rfl, Dig.zero s⟩
          case round =>
            obtain ⟨k, hk, rfl, rfl, hd⟩ := hrel
            have HD := Lib.hid hd
            have hv := valT_lt hd hk
            have hp10 : 10 ^ k ≤ 1000 := by
              have : k ≤ 3 := by omega
              calc 10 ^ k ≤ 10 ^ 3 := Nat.pow_le_pow_right (by omega) this
                _ = 1000 := rfl
            clear hd
            have hv2 : valT s k ≤ 999 := by omega
            clear hv hp10
            by_cases hlt : k < s.size
            · have hbl := (s[k]).toNat_lt
              by_cases hlo : (s[k].toNat : Int) < 48
              · have HB := Lib.hid (num3_bad (Or.inr (Or.inr ⟨k, hlt, Or.inl (by omega)⟩)) : num3 s.data.toList = none)
                go_wp2
                go_ret2
                exact numPost_none (Or.inl rfl) HB.out w
              · by_cases hhi : (57 : Int) < (s[k].toNat : Int)
                · have hlo' : decide ((s[k].toNat : Int) < 48) = false := by simpa using hlo
                  have HB := Lib.hid (num3_bad (Or.inr (Or.inr ⟨k, hlt, Or.inr (by omega)⟩)) : num3 s.data.toList = none)
                  go_wp2
                  go_ret2
                  exact numPost_none (Or.inl rfl) HB.out w
                · have hlo' : decide ((s[k].toNat : Int) < 48) = false := by simpa using hlo
                  have hs1 := valT_succ hlt
                  have HS := Lib.hid (show (valT s k : Int) * 10 + (s[k].toNat : Int) - 48 = (valT s (k + 1) : Int) by omega)
                  clear hs1
                  have hlo2 : 48 ≤ (s[k].toNat : Int) := by omega
                  have hhi2 : (s[k].toNat : Int) ≤ 57 := by omega
                  clear hlo hhi hbl
                  go_wp2
                  go_round
                  case rel => exact ⟨k + 1, by omega, by go_num, by rw [HS.out], HD.out.succ hlt (by omega) (by omega)⟩
                  case measure => simp [intOf]; omega
            · obtain rfl : k = s.size := by omega
              go_wp2
              go_ret2
              exact numPost_good hs hpos HF.out HD.out w
end Go.Proofs.YtgkkmoliobhpiaaGreatDoor
