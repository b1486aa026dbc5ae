import Derived.Test.YtgkkmoliobhpiaaGreatDoorSwitch
namespace Go.Proofs.YtgkkmoliobhpiaaGreatDoor
open Go.ChangeShapes Go.WideShapes Go.ChangeAt Go.RowKit

abbrev wantS : ByteArray := { data := #[106, 97, 118, 97, 115, 99, 114, 105, 112, 116, 58] }
def wantI (k : Nat) : Int := if h : k < wantS.size then (wantS[k].toNat : Int) else 0
def skipB (c : Int) (k : Nat) : Bool := c == 9 || c == 10 || c == 13 || (k == 0 && decide (c ≤ 32))
/-- from a place on, k bytes of the scheme having been met -/
def badL : List UInt8 → Nat → Bool
  | [], k => k == 11
  | c :: r, k => if 11 ≤ k then true else if skipB (c.toNat : Int) k = true then badL r k else if lowB (c.toNat : Int) = wantI k then badL r (k + 1) else false
theorem badL_full (l : List UInt8) : badL l 11 = true := by cases l <;> simp [badL]
theorem drop_cons {s : ByteArray} {n : Nat} (h : n < s.size) : s.data.toList.drop n = s[n] :: s.data.toList.drop (n + 1) := by
  rw [List.drop_eq_getElem_cons (by simpa using h)]; rfl
theorem badL_skip {s : ByteArray} {n m : Nat} {b : Bool} (h : n < s.size) (hm : m < 11) (hk : skipB (s[n].toNat : Int) m = true) (hb : badL (s.data.toList.drop n) m = b) : badL (s.data.toList.drop (n + 1)) m = b := by
  rw [drop_cons h, badL, if_neg (by omega), if_pos hk] at hb; exact hb
theorem badL_hit {s : ByteArray} {n m : Nat} {b : Bool} (h : n < s.size) (hm : m < 11) (hk : skipB (s[n].toNat : Int) m = false) (he : lowB (s[n].toNat : Int) = wantI m) (hb : badL (s.data.toList.drop n) m = b) : badL (s.data.toList.drop (n + 1)) (m + 1) = b := by
  rw [drop_cons h, badL, if_neg (by omega), if_neg (by simp [hk]), if_pos he] at hb; exact hb
theorem badL_miss {s : ByteArray} {n m : Nat} {b : Bool} (h : n < s.size) (hm : m < 11) (hk : skipB (s[n].toNat : Int) m = false) (he : ¬ lowB (s[n].toNat : Int) = wantI m) (hb : badL (s.data.toList.drop n) m = b) : false = b := by
  rw [drop_cons h, badL, if_neg (by omega), if_neg (by simp [hk]), if_neg he] at hb; exact hb
theorem badL_end {s : ByteArray} {m : Nat} {b : Bool} (hb : badL (s.data.toList.drop s.size) m = b) : ((m : Int) == 11) = b := by
  rw [List.drop_of_length_le (by simp), badL] at hb; rw [← hb, Bool.eq_iff_iff]; simp; omega
theorem wantI_in {m : Nat} (h : m < wantS.size) : wantI m = (wantS[m].toNat : Int) := by rw [wantI, dif_pos h]
theorem size_want : wantS.size = 11 := rfl
theorem low_great {c : Int} (h1 : 65 ≤ c) (h2 : c ≤ 90) : lowB c = c + 32 := by simp [lowB, great, h1, h2]
theorem low_other {c : Int} (h : ¬ (65 ≤ c ∧ c ≤ 90)) : lowB c = c := by rw [lowB, if_neg (by simp [great]; omega)]
theorem want_eq {m : Nat} {x : Int} (h : m < wantS.size) (e : (x != (wantS[m].toNat : Int)) = false) : x = wantI m := by rw [wantI_in h]; simpa using e
theorem want_ne {m : Nat} {x : Int} (h : m < wantS.size) (e : (x != (wantS[m].toNat : Int)) = true) : ¬ x = wantI m := by rw [wantI_in h]; simpa using e

end Go.Proofs.YtgkkmoliobhpiaaGreatDoor
