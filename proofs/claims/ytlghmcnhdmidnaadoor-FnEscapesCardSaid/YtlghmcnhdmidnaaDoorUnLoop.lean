import Derived.Test.YtlghmcnhdmidnaaDoorMeant
import Derived.Test.YtlghmcnhdmidnaaDoorEscImpl
namespace Go.Proofs.YtlghmcnhdmidnaaDoor
open Go.ChangeShapes Go.WideShapes Go.ChangeAt Go.RowKit Go.Shelf

/-- a builder stands as it stood, whatever new has been made -/
theorem BldF.later {B b : Nat} {bs : List Value} {w w' : World} (h : BldF B b bs w) (hb : Below w.heap.size w w') : BldF B b bs w' := by
  have one : ∀ p, Lib.BuilderAtF 34 5 B b p bs w → Lib.BuilderAtF 34 5 B b p bs w' := fun p x => by
    have hlt := x.lt
    obtain ⟨h1, v, h2, h3, h4⟩ := x
    refine ⟨h1, v, (hb.block b hlt).trans h2, ?_, h4⟩
    exact h3.kept (row := none) ⟨hb.os, hb.tape, hb.output, hb.size, fun k hk _ => hb.block k hk⟩ (Classical.em _)
  exact h.elim (fun x => .inl (one _ x)) (fun x => .inr (one _ x))

theorem told_end (l : List UInt8) : told l = [] ∨ ∃ u, told l = u ++ [59] := by
  by_cases e : Lib.indexByte (l.take 6) 59 = -1
  · left; unfold told; rw [e]; rfl
  · have hg := Lib.indexByte_ge (l.take 6) 59
    obtain ⟨o, ho⟩ := Int.eq_ofNat_of_zero_le (show 0 ≤ Lib.indexByte (l.take 6) 59 by omega)
    obtain ⟨h1, _⟩ := Lib.indexByte_some ho
    right
    refine ⟨(l.take 6).take o, ?_⟩
    unfold told
    rw [ho, show ((o : Int) + 1).toNat = o + 1 by omega]
    obtain ⟨h2, h3⟩ := List.getElem?_eq_some_iff.1 h1
    rw [List.take_succ_eq_append_getElem h2, h3]

/-- behind its first byte an escape has neither '&' nor a high byte -/
def tailOK (t : List UInt8) : Bool := (t.drop 1).all fun c => decide (c.toNat < 128) && (c != 38)
theorem tail_dec3 : ∀ n : Fin 127, tailOK (38 :: 35 :: (dec3 n ++ [59])) = true := by decide
theorem tail_nm : tailOK ampL = true ∧ tailOK ltL = true ∧ tailOK gtL = true ∧ tailOK quotL = true := by decide
theorem numbered_is {t : List UInt8} {n : Nat} (h : numbered t = some n) : ∃ m : Fin 127, t = 38 :: 35 :: (dec3 m ++ [59]) := by
  match t, h with
  | a :: b :: r, h =>
    by_cases hc : a = 38 ∧ b = 35 ∧ r.getLast? = some 59
    · have e : numbered (a :: b :: r) = num3 r.dropLast := if_pos hc
      rw [e] at h
      obtain ⟨rfl, rfl, hl⟩ := hc
      obtain ⟨h1, h2, h3⟩ := num3_some h
      refine ⟨⟨n, by omega⟩, ?_⟩
      have hne : r ≠ [] := by rintro rfl; simp at hl
      have := List.dropLast_concat_getLast hne
      rw [List.getLast?_eq_some_getLast hne] at hl
      have hl' := Option.some.inj hl
      rw [hl', h3] at this
      rw [this]
    · have e : numbered (a :: b :: r) = none := if_neg hc
      rw [e] at h; cases h
theorem meaning_tail {t : List UInt8} {x : UInt8} (h : meaning t = some x) : tailOK t = true := by
  unfold meaning at h
  repeat' split at h
  · rename_i e; rw [e]; exact tail_nm.1
  · rename_i e; rw [e]; exact tail_nm.2.1
  · rename_i e; rw [e]; exact tail_nm.2.2.1
  · rename_i e; rw [e]; exact tail_nm.2.2.2
  · cases hn : numbered t with
    | none => rw [hn] at h; cases h
    | some n =>
      obtain ⟨m, e⟩ := numbered_is hn
      rw [e]; exact tail_dec3 m
theorem one_bytes {s : ByteArray} {b : Nat} {x : UInt8} {n : Nat} (h : oneAt (rest s b) = some (x, n)) (j : Nat) (hj : j < s.size) (h1 : b + 1 ≤ j) (h2 : j < b + n) : (s[j]'hj).toNat < 128 ∧ s[j]'hj ≠ 38 := by
  obtain ⟨_, _, hn, hm⟩ := one_len h
  have ht := meaning_tail hm
  have hlt : j - b < (told (rest s b)).length := by omega
  have hp := told_prefix (rest s b)
  have he : (told (rest s b))[j - b]'hlt = s[j]'hj := by
    have e1 := List.IsPrefix.getElem hp hlt
    have e2 : (rest s b)[j - b]? = some (s[b + (j - b)]'(by omega)) := rest_at (by omega)
    obtain ⟨h3, h4⟩ := List.getElem?_eq_some_iff.1 e2
    rw [e1, h4]
    congr 1; omega
  unfold tailOK at ht
  rw [List.all_eq_true] at ht
  have hmem : (told (rest s b))[j - b]'hlt ∈ (told (rest s b)).drop 1 := by
    rw [List.mem_iff_getElem]
    refine ⟨j - b - 1, by simp; omega, ?_⟩
    rw [List.getElem_drop]
    congr 1; omega
  have := ht _ hmem
  rw [he] at this
  simp only [Bool.and_eq_true, decide_eq_true_eq, bne_iff_ne, ne_eq] at this
  exact this

/-- the bytes a .. b - 1 -/
def sl (s : ByteArray) (a b : Nat) : List UInt8 := (s.data.toList.take b).drop a
theorem sl_nil (s : ByteArray) (a : Nat) : sl s a a = [] := by simp [sl]
theorem sl_snoc {s : ByteArray} {a b : Nat} (hab : a ≤ b) (hb : b < s.size) : sl s a (b + 1) = sl s a b ++ [s[b]'hb] := by
  unfold sl
  rw [List.take_succ_eq_append_getElem (by simpa using hb), List.drop_append_of_le_length (by simp; omega)]
  rfl
theorem sl_flat (s : ByteArray) (a b : Nat) : (s.extract a b).data.toList = sl s a b := extract_list s a b
theorem flat_two (s : ByteArray) (a b : Nat) (x : UInt8) : flat [s.extract a b, ⟨#[x]⟩] = sl s a b ++ [x] := by
  show (s.extract a b).data.toList ++ ([x] ++ []) = _
  rw [sl_flat]; rfl
theorem flat_one (s : ByteArray) (a b : Nat) : flat [s.extract a b] = sl s a b := by
  show (s.extract a b).data.toList ++ [] = _
  rw [sl_flat, List.append_nil]
theorem sl_len (s : ByteArray) (a b : Nat) : (sl s a b).length ≤ s.size := by unfold sl; simp; omega

/-- how it stands at a round's head -/
def UnInv (s : ByteArray) (a b : Nat) (acc : List UInt8) : Prop := a ≤ s.size ∧ b ≤ s.size ∧
  ((a ≤ b ∧ UnTo s b (acc ++ sl s a b)) ∨ (b < a ∧ UnTo s a acc ∧ ∀ j (h : j < s.size), b ≤ j → j < a → (s[j]'h).toNat < 128 ∧ s[j]'h ≠ 38))
theorem UnInv.start (s : ByteArray) : UnInv s 0 0 [] := ⟨Nat.zero_le _, Nat.zero_le _, Or.inl ⟨Nat.le_refl _, UnTo.start s⟩⟩
theorem UnInv.len {s : ByteArray} {a b : Nat} {acc : List UInt8} (h : UnInv s a b acc) : acc.length ≤ s.size := by
  obtain ⟨h1, h2, ⟨_, h3⟩ | ⟨_, h3, _⟩⟩ := h
  · have := h3.2
    simp only [List.length_append] at this; omega
  · have := h3.2; omega
theorem UnInv.next {s : ByteArray} {a b : Nat} {acc : List UInt8} (h : UnInv s a b acc) (hb : b < s.size) (hc : s[b]'hb ≠ 38) : UnInv s a (b + 1) acc := by
  obtain ⟨h1, h2, ⟨h3, h4⟩ | ⟨h3, h4, h5⟩⟩ := h
  · refine ⟨h1, hb, Or.inl ⟨by omega, ?_⟩⟩
    rw [sl_snoc h3 hb, ← List.append_assoc]
    exact h4.other hb hc
  · by_cases e : b + 1 < a
    · exact ⟨h1, hb, Or.inr ⟨e, h4, fun j hj g1 g2 => h5 j hj (by omega) g2⟩⟩
    · obtain rfl : a = b + 1 := by omega
      exact ⟨h1, hb, Or.inl ⟨Nat.le_refl _, by rw [sl_nil, List.append_nil]; exact h4⟩⟩
theorem UnInv.run {s : ByteArray} {a b : Nat} {acc : List UInt8} (h : UnInv s a b acc) (d : Nat) (hd : b + d ≤ s.size) (hc : ∀ j (hj : j < s.size), b ≤ j → j < b + d → s[j]'hj ≠ 38) : UnInv s a (b + d) acc := by
  induction d with
  | zero => exact h
  | succ d ih => exact (ih (by omega) (fun j hj h1 h2 => hc j hj h1 (by omega))).next (by omega) (hc (b + d) (by omega) (by omega) (by omega))
theorem UnInv.at38 {s : ByteArray} {a b : Nat} {acc : List UInt8} (h : UnInv s a b acc) (hb : b < s.size) (hc : s[b]'hb = 38) : a ≤ b ∧ UnTo s b (acc ++ sl s a b) := by
  obtain ⟨h1, h2, h3 | ⟨h3, h4, h5⟩⟩ := h
  · exact h3
  · exact absurd hc (h5 b hb (Nat.le_refl _) h3).2
theorem UnInv.none {s : ByteArray} {a b : Nat} {acc : List UInt8} (h : UnInv s a b acc) (hb : b < s.size) (hc : s[b]'hb = 38) (ho : oneAt (rest s b) = none) : UnInv s a (b + 1) acc := by
  obtain ⟨h3, h4⟩ := h.at38 hb hc
  refine ⟨h.1, hb, Or.inl ⟨by omega, ?_⟩⟩
  rw [sl_snoc h3 hb, ← List.append_assoc]
  exact h4.none hb ho
theorem UnInv.some {s : ByteArray} {a b : Nat} {acc : List UInt8} (h : UnInv s a b acc) (hb : b < s.size) (hc : s[b]'hb = 38) {x : UInt8} {n : Nat} (ho : oneAt (rest s b) = some (x, n)) :
    UnInv s (b + n) (b + 1) (acc ++ flat [s.extract a b, ⟨#[x]⟩]) := by
  obtain ⟨h3, h4⟩ := h.at38 hb hc
  obtain ⟨g1, g2, g3⟩ := h4.some hb hc ho
  have e : acc ++ flat [s.extract a b, ⟨#[x]⟩] = acc ++ sl s a b ++ [x] := by rw [flat_two, List.append_assoc]
  rw [e]
  by_cases en : n = 1
  · subst en
    exact ⟨g2, hb, Or.inl ⟨Nat.le_refl _, by rw [sl_nil, List.append_nil]; exact g1⟩⟩
  · exact ⟨g2, hb, Or.inr ⟨by omega, g1, fun j hj k1 k2 => one_bytes ho j hj k1 k2⟩⟩
theorem UnInv.done {s : ByteArray} {a : Nat} {acc : List UInt8} (h : UnInv s a s.size acc) : acc ++ flat [s.extract a s.size] = un s.data.toList := by
  obtain ⟨h1, _, ⟨_, h3⟩ | ⟨h3, _⟩⟩ := h
  · rw [← h3.done, flat_one]
  · omega
theorem UnInv.two {s : ByteArray} (hs : s.size ≤ 65536) {a b : Nat} {acc : List UInt8} (h : UnInv s a b acc) (x : UInt8) : acc.length + (flat [s.extract a b, ⟨#[x]⟩]).length ≤ 140737488355328 := by
  have h1 := h.len
  have h2 := sl_len s a b
  have h3 : (flat [s.extract a b, ⟨#[x]⟩]).length = (sl s a b).length + 1 := by rw [← sl_flat]; simp [flat]
  omega
theorem UnInv.one {s : ByteArray} (hs : s.size ≤ 65536) {a b : Nat} {acc : List UInt8} (h : UnInv s a b acc) (c d : Nat) : acc.length + (flat [s.extract c d]).length ≤ 140737488355328 := by
  have h1 := h.len
  have h2 := sl_len s c d
  have h3 : (flat [s.extract c d]).length = (sl s c d).length := by rw [← sl_flat]; simp [flat]
  omega
end Go.Proofs.YtlghmcnhdmidnaaDoor
