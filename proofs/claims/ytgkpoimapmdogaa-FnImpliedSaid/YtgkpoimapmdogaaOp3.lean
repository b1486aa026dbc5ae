import Derived.Test.YtgkpoimapmdogaaOp2
namespace Go.Proofs.Ytgkpoimapmdogaa
open Go.ChangeShapes Go.WideShapes Go.ChangeAt Go.RowKit Go.Deep

/-- how many are left up to the last one, of the first k, that is so -/
def cutTo (p : ByteArray × Int → Bool) (l : List (ByteArray × Int)) : Nat → Nat
  | 0 => 0
  | k + 1 => match l[k]? with
    | some x => if p x = true then k + 1 else cutTo p l k
    | none => cutTo p l k
def cutOf (p : ByteArray × Int → Bool) (l : List (ByteArray × Int)) : Nat := cutTo p l l.length
theorem cutTo_no {p : ByteArray × Int → Bool} {l : List (ByteArray × Int)} {k : Nat} (hk : k < l.length) (h : p l[k] = false) : cutTo p l (k + 1) = cutTo p l k := by
  simp only [cutTo, List.getElem?_eq_getElem hk, h]; rfl
theorem cutTo_yes {p : ByteArray × Int → Bool} {l : List (ByteArray × Int)} {k : Nat} (hk : k < l.length) (h : p l[k] = true) : cutTo p l (k + 1) = k + 1 := by
  simp only [cutTo, List.getElem?_eq_getElem hk, h]; rfl
theorem cutTo_le (p : ByteArray × Int → Bool) (l : List (ByteArray × Int)) : ∀ k, cutTo p l k ≤ k
  | 0 => Nat.le_refl _
  | k + 1 => by
    simp only [cutTo]
    have := cutTo_le p l k
    split
    · split <;> omega
    · omega
theorem cutTo_hit (p : ByteArray × Int → Bool) (l : List (ByteArray × Int)) : ∀ k, 0 < cutTo p l k → ∃ h : cutTo p l k - 1 < l.length, p l[cutTo p l k - 1] = true
  | 0, h => absurd h (Nat.lt_irrefl _)
  | k + 1, h => by
    by_cases hk : k < l.length
    · by_cases hp : p l[k] = true
      · have e := cutTo_yes hk hp
        refine ⟨by rw [e]; exact hk, ?_⟩
        simp only [e]
        exact hp
      · have e := cutTo_no hk (by simpa using hp)
        rw [e] at h
        obtain ⟨h1, h2⟩ := cutTo_hit p l k h
        refine ⟨by rw [e]; exact h1, ?_⟩
        simp only [e]
        exact h2
    · have e : cutTo p l (k + 1) = cutTo p l k := by simp only [cutTo, List.getElem?_eq_none (by omega : l.length ≤ k)]
      rw [e] at h
      obtain ⟨h1, h2⟩ := cutTo_hit p l k h
      refine ⟨by rw [e]; exact h1, ?_⟩
      simp only [e]
      exact h2
theorem cutOf_le (p : ByteArray × Int → Bool) (l : List (ByteArray × Int)) : cutOf p l ≤ l.length := cutTo_le p l _

def htmlB (x : ByteArray × Int) : Bool := x.2 == 0
def nameIs (n : ByteArray) (x : ByteArray × Int) : Bool := x.1.toList == n.toList

theorem leftOpen1_any (x : ByteArray × Int) (w : World) :
    Calls Try.prog 46 #[.agg #[.string x.1, .int .i64 x.2]] w fun e w' => e = .returned (.bool (htmlB x)) ∧ Below w.heap.size w w' := by
  obtain ⟨n, v⟩ := x
  go_enter Try.func46, Try.ntmps46
  go_wp2
  go_ret
  exact ⟨rfl, (Below.refl w.heap.size w).alloc (Nat.le_refl _) _⟩
theorem placeHtml_any (l : List (ByteArray × Int)) (w : World) (A : Option Addr) (c b o : Nat) (hl : OsIn w A b o l) :
    Calls Try.prog 28 #[.slice A l.length c, .func (.func 46) #[] #[]] w fun e w' => e = .returned (.int .i64 ((cutOf htmlB l : Nat) - 1)) ∧ Below w.heap.size w w' := by
  have hml := hl.1.1
  unfold maxLen at hml
  have HL := Lib.hid hl
  clear hl
  go_enter Try.func28, Try.ntmps28
  go_wp2
  go_loopw [5] (fun i wr => ∃ z : Int, i = .int .i64 z ∧ -1 ≤ z ∧ z < l.length ∧ Hid (cutTo htmlB l (z + 1).toNat = cutOf htmlB l ∧ Below w.heap.size w wr)) (fun i wr => (intOf i + 1).toNat)
  case atStart => exact ⟨_, rfl, by omega, by omega, Lib.hid ⟨by rw [show ((l.length : Int) - 1 + 1).toNat = l.length by omega]; rfl, Below.refl _ _⟩⟩
  case round =>
    obtain ⟨z, rfl, hz1, hz2, HH⟩ := hrel
    by_cases hz : 0 ≤ z
    · obtain ⟨k, rfl⟩ := Int.eq_ofNat_of_zero_le hz
      have hkl : k < l.length := by omega
      obtain ⟨rfl, hlt, t1, t2, t3⟩ := (HL.out.next HH.out.2).get k hkl
      by_cases ho : htmlB l[k] = true
      · have HO := Lib.hid ho
        have HC : Hid (k + 1 = cutOf htmlB l) := Lib.hid (by have := HH.out.1; rw [show ((k : Int) + 1).toNat = k + 1 by omega, cutTo_yes hkl ho] at this; exact this)
        clear ho
        go_wp2_with (go_at_call 46; refine (leftOpen1_any l[k] _).mono ?_; rintro e w' ⟨rfl, hB⟩; rw [HO.out]; have HB := Lib.hid hB; clear hB)
        go_ret
        exact ⟨ret_int (by rw [← HC.out]; try omega), HH.out.2.trans (HB.out.mono HH.out.2.size)⟩
      · have ho' : htmlB l[k] = false := by simpa using ho
        have HO := Lib.hid ho'
        have HC : Hid (cutTo htmlB l k = cutOf htmlB l) := Lib.hid (by have := HH.out.1; rw [show ((k : Int) + 1).toNat = k + 1 by omega, cutTo_no hkl ho'] at this; exact this)
        clear ho ho'
        go_wp2_with (go_at_call 46; refine (leftOpen1_any l[k] _).mono ?_; rintro e w' ⟨rfl, hB⟩; rw [HO.out]; have HB := Lib.hid hB; clear hB)
        go_roundw
        case rel => exact ⟨(k : Int) - 1, rfl, by omega, by omega, Lib.hid ⟨by rw [show ((k : Int) - 1 + 1).toNat = k by omega]; exact HC.out, HH.out.2.trans (HB.out.mono HH.out.2.size)⟩⟩
        case measure => (simp [intOf] <;> omega)
    · obtain rfl : z = -1 := by omega
      go_wp2
      go_ret
      exact ⟨ret_int (by rw [← HH.out.1]; rfl), HH.out.2⟩

theorem closeAt1_any (x : ByteArray × Int) (n : ByteArray) (g : Nat) (w : World) (hg : g < w.heap.size) (hc : w.cell? ⟨g, 0, none⟩ = some (.string n)) :
    Calls Try.prog 29 #[.agg #[.string x.1, .int .i64 x.2], .pointer (some ⟨g, 0, none⟩)] w fun e w' => e = .returned (.bool (nameIs n x)) ∧ Below w.heap.size w w' := by
  obtain ⟨m, v⟩ := x
  go_enter Try.func29, Try.ntmps29
  go_wp2
  go_ret
  exact ⟨rfl, (Below.refl w.heap.size w).alloc (Nat.le_refl _) _⟩
theorem placeName_any (l : List (ByteArray × Int)) (n : ByteArray) (g : Nat) (w : World) (A : Option Addr) (c b o : Nat) (hl : OsIn w A b o l) (hg : g < w.heap.size) (hc : w.cell? ⟨g, 0, none⟩ = some (.string n)) :
    Calls Try.prog 28 #[.slice A l.length c, .func (.func 29) #[] #[.pointer (some ⟨g, 0, none⟩)]] w fun e w' => e = .returned (.int .i64 ((cutOf (nameIs n) l : Nat) - 1)) ∧ Below w.heap.size w w' := by
  have hml := hl.1.1
  unfold maxLen at hml
  have HL := Lib.hid hl
  have HG := Lib.hid (And.intro hg hc)
  clear hl hc hg
  go_enter Try.func28, Try.ntmps28
  go_wp2
  go_loopw [5] (fun i wr => ∃ z : Int, i = .int .i64 z ∧ -1 ≤ z ∧ z < l.length ∧ Hid (cutTo (nameIs n) l (z + 1).toNat = cutOf (nameIs n) l ∧ Below w.heap.size w wr)) (fun i wr => (intOf i + 1).toNat)
  case atStart => exact ⟨_, rfl, by omega, by omega, Lib.hid ⟨by rw [show ((l.length : Int) - 1 + 1).toNat = l.length by omega]; rfl, Below.refl _ _⟩⟩
  case round =>
    obtain ⟨z, rfl, hz1, hz2, HH⟩ := hrel
    by_cases hz : 0 ≤ z
    · obtain ⟨k, rfl⟩ := Int.eq_ofNat_of_zero_le hz
      have hkl : k < l.length := by omega
      obtain ⟨rfl, hlt, t1, t2, t3⟩ := (HL.out.next HH.out.2).get k hkl
      have tg := (HH.out.2.cell (p := ⟨g, 0, none⟩) HG.out.1).trans HG.out.2
      have hgr := Nat.lt_of_lt_of_le HG.out.1 HH.out.2.size
      by_cases ho : nameIs n l[k] = true
      · have HO := Lib.hid ho
        have HC : Hid (k + 1 = cutOf (nameIs n) l) := Lib.hid (by have := HH.out.1; rw [show ((k : Int) + 1).toNat = k + 1 by omega, cutTo_yes hkl ho] at this; exact this)
        clear ho
        go_wp2_with (go_at_call 29; refine (closeAt1_any l[k] n g _ hgr tg).mono ?_; rintro e w' ⟨rfl, hB⟩; rw [HO.out]; have HB := Lib.hid hB; clear hB)
        go_ret
        exact ⟨ret_int (by rw [← HC.out]; try omega), HH.out.2.trans (HB.out.mono HH.out.2.size)⟩
      · have ho' : nameIs n l[k] = false := by simpa using ho
        have HO := Lib.hid ho'
        have HC : Hid (cutTo (nameIs n) l k = cutOf (nameIs n) l) := Lib.hid (by have := HH.out.1; rw [show ((k : Int) + 1).toNat = k + 1 by omega, cutTo_no hkl ho'] at this; exact this)
        clear ho ho'
        go_wp2_with (go_at_call 29; refine (closeAt1_any l[k] n g _ hgr tg).mono ?_; rintro e w' ⟨rfl, hB⟩; rw [HO.out]; have HB := Lib.hid hB; clear hB)
        go_roundw
        case rel => exact ⟨(k : Int) - 1, rfl, by omega, by omega, Lib.hid ⟨by rw [show ((k : Int) - 1 + 1).toNat = k by omega]; exact HC.out, HH.out.2.trans (HB.out.mono HH.out.2.size)⟩⟩
        case measure => (simp [intOf] <;> omega)
    · obtain rfl : z = -1 := by omega
      go_wp2
      go_ret
      exact ⟨ret_int (by rw [← HH.out.1]; rfl), HH.out.2⟩
end Go.Proofs.Ytgkpoimapmdogaa
