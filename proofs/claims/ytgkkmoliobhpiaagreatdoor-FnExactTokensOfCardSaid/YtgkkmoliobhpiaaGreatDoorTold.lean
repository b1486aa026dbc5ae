import Derived.Test.YtgkkmoliobhpiaaGreatDoorNum
import Derived.Lib.Bytealg
import Derived.Lib.IndexLaws
namespace Go.Proofs.YtgkkmoliobhpiaaGreatDoor
open Go.ChangeShapes Go.WideShapes Go.ChangeAt Go.RowKit

def ampL : List UInt8 := [38, 97, 109, 112, 59]
def ltL : List UInt8 := [38, 108, 116, 59]
def gtL : List UInt8 := [38, 103, 116, 59]
def quotL : List UInt8 := [38, 113, 117, 111, 116, 59]
/-- up to the first ';' of the first six bytes; nothing without one -/
def told (l : List UInt8) : List UInt8 := (l.take 6).take (Lib.indexByte (l.take 6) 59 + 1).toNat
/-- '&#' N ';' -/
def numbered : List UInt8 → Option Nat
  | a :: b :: r => if a = 38 ∧ b = 35 ∧ r.getLast? = some 59 then num3 r.dropLast else none
  | _ => none
/-- what an escape means -/
def meaning (t : List UInt8) : Option UInt8 :=
  if t = ampL then some 38 else if t = ltL then some 60 else if t = gtL then some 62 else if t = quotL then some 34 else (numbered t).map UInt8.ofNat
def oneAt (l : List UInt8) : Option (UInt8 × Nat) := (meaning (told l)).map fun b => (b, (told l).length)

theorem told_prefix (l : List UInt8) : told l <+: l := (List.take_prefix _ _).trans (List.take_prefix _ _)
theorem told_le (l : List UInt8) : (told l).length ≤ 6 := by
  unfold told
  rw [List.length_take, List.length_take]; omega
theorem take_get {l : List UInt8} {i : Nat} (h : i < 6) : (l.take 6)[i]? = l[i]? := by rw [List.getElem?_take]; simp [h]
theorem told_at {l : List UInt8} {p : Nat} (hp : p < 6) (h : l[p]? = some 59) (hn : ∀ i, i < p → l[i]? ≠ some 59) : told l = l.take (p + 1) := by
  have hi : Lib.indexByte (l.take 6) 59 = p := by
    have hg := Lib.indexByte_ge (l.take 6) 59
    by_cases e : Lib.indexByte (l.take 6) 59 = -1
    · exact absurd (by rw [take_get hp]; exact h) (Lib.indexByte_none e p)
    · obtain ⟨o, ho⟩ := Int.eq_ofNat_of_zero_le (show 0 ≤ Lib.indexByte (l.take 6) 59 by omega)
      obtain ⟨h1, h2⟩ := Lib.indexByte_some ho
      rw [ho]
      congr 1
      by_cases hlt : o < p
      · rw [take_get (by omega)] at h1
        exact absurd h1 (hn o hlt)
      · by_cases hgt : p < o
        · exact absurd (by rw [take_get hp]; exact h) (h2 p hgt)
        · omega
  unfold told
  rw [hi, List.take_take]
  congr 1
  omega
theorem told_none {l : List UInt8} (hn : ∀ i, i < 6 → l[i]? ≠ some 59) : told l = [] := by
  have hi : Lib.indexByte (l.take 6) 59 = -1 := by
    have hg := Lib.indexByte_ge (l.take 6) 59
    by_cases e : Lib.indexByte (l.take 6) 59 = -1
    · exact e
    · obtain ⟨o, ho⟩ := Int.eq_ofNat_of_zero_le (show 0 ≤ Lib.indexByte (l.take 6) 59 by omega)
      obtain ⟨h1, _⟩ := Lib.indexByte_some ho
      by_cases h6 : o < 6
      · rw [take_get h6] at h1
        exact absurd h1 (hn o h6)
      · rw [List.getElem?_take] at h1
        simp at h1; omega
  unfold told
  rw [hi]; rfl
theorem told_amp (r : List UInt8) : told (ampL ++ r) = ampL := told_at (p := 4) (by omega) rfl (fun i hi => by match i, hi with | 0, _ => simp [ampL] | 1, _ => simp [ampL] | 2, _ => simp [ampL] | 3, _ => simp [ampL])
theorem told_lt (r : List UInt8) : told (ltL ++ r) = ltL := told_at (p := 3) (by omega) rfl (fun i hi => by match i, hi with | 0, _ => simp [ltL] | 1, _ => simp [ltL] | 2, _ => simp [ltL])
theorem told_gt (r : List UInt8) : told (gtL ++ r) = gtL := told_at (p := 3) (by omega) rfl (fun i hi => by match i, hi with | 0, _ => simp [gtL] | 1, _ => simp [gtL] | 2, _ => simp [gtL])
theorem told_quot (r : List UInt8) : told (quotL ++ r) = quotL := told_at (p := 5) (by omega) rfl (fun i hi => by match i, hi with | 0, _ => simp [quotL] | 1, _ => simp [quotL] | 2, _ => simp [quotL] | 3, _ => simp [quotL] | 4, _ => simp [quotL])

/-- the four names, and what they mean -/
def nmL : List (List UInt8) := [ampL, ltL, gtL, quotL]
def nmB : List UInt8 := [38, 60, 62, 34]
theorem nm_told {k : Nat} (hk : k < nmL.length) (l : List UInt8) (h : nmL[k] <+: l) : told l = nmL[k] := by
  obtain ⟨r, rfl⟩ := h
  match k, hk with
  | 0, _ => exact told_amp r
  | 1, _ => exact told_lt r
  | 2, _ => exact told_gt r
  | 3, _ => exact told_quot r
theorem nm_meaning : ∀ k : Fin 4, meaning (nmL[k]) = some (nmB[k]) := by decide
theorem one_named {k : Nat} (hk : k < nmL.length) {l : List UInt8} (h : nmL[k] <+: l) : oneAt l = some (nmB[k]'hk, nmL[k].length) := by
  unfold oneAt
  rw [nm_told hk l h]
  have e : meaning nmL[k] = some (nmB[k]'hk) := nm_meaning ⟨k, hk⟩
  rw [e]; rfl
/-- none of the first k names stands there -/
def NoName (l : List UInt8) (k : Nat) : Prop := ∀ j (h : j < nmL.length), j < k → ¬ nmL[j] <+: l
theorem NoName.zero (l : List UInt8) : NoName l 0 := fun _ _ h => by omega
theorem NoName.succ {l : List UInt8} {k : Nat} (h : NoName l k) (hk : k < nmL.length) (hn : ¬ nmL[k] <+: l) : NoName l (k + 1) := fun j hj h1 => by
  by_cases e : j = k
  · subst e; exact hn
  · exact h j hj (by omega)
theorem one_number {l : List UInt8} (h : NoName l 4) : oneAt l = (numbered (told l)).map fun n => (UInt8.ofNat n, (told l).length) := by
  have hp := told_prefix l
  have e0 : told l ≠ ampL := fun e => h 0 (by decide) (by omega) (by rw [e] at hp; exact hp)
  have e1 : told l ≠ ltL := fun e => h 1 (by decide) (by omega) (by rw [e] at hp; exact hp)
  have e2 : told l ≠ gtL := fun e => h 2 (by decide) (by omega) (by rw [e] at hp; exact hp)
  have e3 : told l ≠ quotL := fun e => h 3 (by decide) (by omega) (by rw [e] at hp; exact hp)
  rw [oneAt, meaning, if_neg e0, if_neg e1, if_neg e2, if_neg e3]
  cases numbered (told l) <;> rfl
theorem numbered_short {t : List UInt8} (h : t.length ≤ 3) : numbered t = none := by
  match t, h with
  | [], _ => rfl
  | [_], _ => rfl
  | [_, _], _ => simp [numbered]
  | [a, b, c], _ =>
    show (if a = 38 ∧ b = 35 ∧ [c].getLast? = some 59 then num3 [c].dropLast else none) = none
    split
    · have e : num3 [] = none := by decide
      exact e
    · rfl
theorem one_short {l : List UInt8} (h : NoName l 4) (hl : l.length ≤ 3) : oneAt l = none := by
  rw [one_number h, numbered_short (Nat.le_trans (told_prefix l).length_le hl)]; rfl
theorem one_noHash {l : List UInt8} (h : NoName l 4) (hl : l[1]? ≠ some 35) : oneAt l = none := by
  rw [one_number h]
  have hp := told_prefix l
  rcases e : told l with _ | ⟨a, _ | ⟨b, r⟩⟩
  · rfl
  · rfl
  · have : b ≠ 35 := fun eb => hl (by
      obtain ⟨t, ht⟩ := hp
      rw [e] at ht
      rw [← ht, ← eb]; rfl)
    simp [numbered, this]
theorem one_noEnd {l : List UInt8} (h : NoName l 4) (hn : ∀ i, i < 6 → l[i]? ≠ some 59) : oneAt l = none := by
  rw [one_number h, told_none hn]; rfl
/-- '&#', digits, ';' -/
theorem one_digits {a b : UInt8} {d r : List UInt8} (h : NoName (a :: b :: (d ++ 59 :: r)) 4) (ha : a = 38) (hb : b = 35) (hd : d.length ≤ 3) (hn : ∀ c ∈ d, c ≠ 59) :
    oneAt (a :: b :: (d ++ 59 :: r)) = (num3 d).map fun n => (UInt8.ofNat n, d.length + 3) := by
  subst ha hb
  have ht : told (38 :: 35 :: (d ++ 59 :: r)) = 38 :: 35 :: (d ++ [59]) := by
    rw [told_at (p := d.length + 2) (by omega)]
    · simp [List.take_append, List.take_of_length_le (Nat.le_succ d.length)]
    · simp
    · intro i hi
      match i, hi with
      | 0, _ => simp
      | 1, _ => simp
      | j + 2, hj =>
        have hjd : j < d.length := by omega
        simp only [List.getElem?_cons_succ]
        rw [List.getElem?_append_left hjd, List.getElem?_eq_getElem hjd]
        intro e
        exact hn _ (List.getElem_mem hjd) (Option.some.inj e)
  rw [one_number h, ht]
  have : numbered (38 :: 35 :: (d ++ [59])) = num3 d := by simp [numbered]
  rw [this]
  congr 1
  funext n
  simp
/-- how long an escape is, and that no other begins within -/
theorem one_len {l : List UInt8} {b : UInt8} {n : Nat} (h : oneAt l = some (b, n)) : 1 ≤ n ∧ n ≤ l.length ∧ n = (told l).length ∧ meaning (told l) = some b := by
  unfold oneAt at h
  rw [Option.map_eq_some_iff] at h
  obtain ⟨x, hx, he⟩ := h
  injection he with h1 h2
  subst h1 h2
  refine ⟨?_, (told_prefix l).length_le, rfl, hx⟩
  rcases e : told l with _ | ⟨a, r⟩
  · rw [e] at hx
    have : meaning [] = none := by decide
    rw [this] at hx; cases hx
  · simp
end Go.Proofs.YtgkkmoliobhpiaaGreatDoor
