import Derived.Test.YtgkkmoliobhpiaaGreatDoorGRow
import Derived.Laws.OwnMore
import Derived.OneCell
import Derived.Deep.QuietTactic
import Derived.BigQuiet
namespace Go.Proofs.YtgkkmoliobhpiaaGreatDoor
open Go.ChangeShapes Go.WideShapes Go.ChangeAt Go.RowKit Go.Deep

theorem infoAttr : (Tryz.prog.info? 45).map (fun i => (i.zero, i.size, i.bytes)) = some (some (.agg #[.string ⟨#[]⟩, .string ⟨#[]⟩]), 2, 32) := by kernel_rfl
theorem info_of {x : Option TypeInfo} {z : Value} {s b : Nat} (h : x.map (fun i => (i.zero, i.size, i.bytes)) = some (some z, s, b)) : ∃ i, x = some i ∧ i.zero = some z ∧ i.size = s ∧ i.bytes = b := by
  obtain ⟨i, hi, hz⟩ := Option.map_eq_some_iff.1 h
  simp only [Prod.mk.injEq] at hz
  exact ⟨i, hi, hz.1, hz.2.1, hz.2.2⟩

/-- a forest is empty, or one with a last node -/
theorem Fo.snoc_or : ∀ F : Fo, F = .nil ∨ ∃ (P : Fo) (k sp : Int) (n t : ByteArray) (al : List (ByteArray × ByteArray)) (kids : Fo), F = P.app (.one k sp n t al kids)
  | .nil => Or.inl rfl
  | .cons k sp n t al kids r => Or.inr (by
    rcases Fo.snoc_or r with h | ⟨P, k', sp', n', t', al', kids', h⟩
    · exact ⟨.nil, k, sp, n, t, al, kids, by subst h; rfl⟩
    · exact ⟨.cons k sp n t al kids P, k', sp', n', t', al', kids', by subst h; rfl⟩)
def Fo.last : Fo → Option (Int × ByteArray)
  | .nil => none
  | .cons k _ _ t _ _ r => match r.last with
    | none => some (k, t)
    | some x => some x
def Fo.addText (u : ByteArray) : Fo → Fo
  | .nil => .nil
  | .cons k sp n t al kids r => match r.last with
    | none => .cons k sp n (t ++ u) al kids r
    | some _ => .cons k sp n t al kids (r.addText u)
theorem Fo.last_snoc (k sp : Int) (n t : ByteArray) (al : List (ByteArray × ByteArray)) (kids : Fo) : ∀ P : Fo, (P.app (.one k sp n t al kids)).last = some (k, t)
  | .nil => rfl
  | .cons _ _ _ _ _ _ r => by simp [Fo.app, Fo.last, Fo.last_snoc k sp n t al kids r]
theorem Fo.addText_snoc (u : ByteArray) (k sp : Int) (n t : ByteArray) (al : List (ByteArray × ByteArray)) (kids : Fo) : ∀ P : Fo, (P.app (.one k sp n t al kids)).addText u = P.app (.one k sp n (t ++ u) al kids)
  | .nil => rfl
  | .cons _ _ _ _ _ _ r => by simp [Fo.app, Fo.addText, Fo.last_snoc k sp n t al kids r, Fo.addText_snoc u k sp n t al kids r]
/-- may a text be put behind this one -/
def joinsB (x : Option (Int × ByteArray)) (k : Int) (t : ByteArray) : Bool := match x with
  | none => false
  | some y => y.1 == 2 && k == 2 && decide (y.2.size + t.size ≤ 120)
def Fo.joinF (acc : Fo) (k sp : Int) (n t : ByteArray) (al : List (ByteArray × ByteArray)) (kids : Fo) : Fo := if joinsB acc.last k t = true then acc.addText t else acc.app (.one k sp n t al kids)
/-- merged, behind what is there -/
def Fo.mergeOn : Fo → Fo → Fo
  | acc, .nil => acc
  | acc, .cons k sp n t al kids r => Fo.mergeOn (acc.joinF k sp n t al (Fo.mergeOn .nil kids)) r
theorem Fo.addText_len (u : ByteArray) : ∀ F : Fo, (F.addText u).len = F.len
  | .nil => rfl
  | .cons k sp n t al kids r => by
    simp only [Fo.addText]
    split
    · rfl
    · simp [Fo.len, Fo.addText_len u r]
theorem Fo.addText_cnt (u : ByteArray) : ∀ F : Fo, (F.addText u).cnt = F.cnt
  | .nil => rfl
  | .cons k sp n t al kids r => by
    simp only [Fo.addText]
    split
    · rfl
    · simp [Fo.cnt, Fo.addText_cnt u r]
theorem Fo.joinF_len (acc : Fo) (k sp : Int) (n t : ByteArray) (al : List (ByteArray × ByteArray)) (kids : Fo) : (acc.joinF k sp n t al kids).len ≤ acc.len + 1 := by
  unfold Fo.joinF
  split
  · rw [Fo.addText_len]; omega
  · rw [Fo.len_app]; exact Nat.le_refl _
theorem Fo.mergeOn_len : ∀ (F acc : Fo), (Fo.mergeOn acc F).len ≤ acc.len + F.len
  | .nil, acc => Nat.le_refl _
  | .cons k sp n t al kids r, acc => by
    have h1 := Fo.mergeOn_len r (acc.joinF k sp n t al (Fo.mergeOn .nil kids))
    have h2 := Fo.joinF_len acc k sp n t al (Fo.mergeOn .nil kids)
    simp only [Fo.mergeOn, Fo.len]
    omega
theorem Fo.mergeOn_cnt : ∀ (F acc : Fo), (Fo.mergeOn acc F).cnt ≤ acc.cnt + F.cnt
  | .nil, acc => Nat.le_refl _
  | .cons k sp n t al kids r, acc => by
    have h1 := Fo.mergeOn_cnt r (acc.joinF k sp n t al (Fo.mergeOn .nil kids))
    have h2 := Fo.mergeOn_cnt kids .nil
    have h3 : (acc.joinF k sp n t al (Fo.mergeOn .nil kids)).cnt ≤ acc.cnt + (4 + 2 * al.length + (Fo.mergeOn .nil kids).cnt) := by
      unfold Fo.joinF
      split
      · rw [Fo.addText_cnt]; omega
      · rw [Fo.cnt_app]; simp only [Fo.one, Fo.cnt]; omega
    simp only [Fo.mergeOn, Fo.cnt] at *
    omega

theorem FoVals.unapp {w : World} : ∀ {P S : Fo} {xs : List Value} {bl : List Nat}, FoVals w xs (P.app S) bl → ∃ x1 x2 b1 b2, xs = x1 ++ x2 ∧ bl = b1 ++ b2 ∧ FoVals w x1 P b1 ∧ FoVals w x2 S b2
  | .nil, S, xs, bl, h => ⟨[], xs, [], bl, rfl, rfl, ⟨rfl, rfl⟩, h⟩
  | .cons k sp n t al kids r, S, xs, bl, ⟨A, K, ca, ck, ba, bk, br, xr, hx, hbl, hz, h4, h5, hr⟩ => by
    obtain ⟨x1, x2, b1, b2, rfl, rfl, i1, i2⟩ := FoVals.unapp hr
    exact ⟨_ :: _ :: _ :: _ :: _ :: _ :: x1, x2, ba ++ bk ++ b1, b2, by rw [hx]; rfl, by rw [hbl, List.append_assoc (ba ++ bk)], ⟨A, K, ca, ck, ba, bk, b1, x1, rfl, rfl, hz, h4, h5, i1⟩, i2⟩
end Go.Proofs.YtgkkmoliobhpiaaGreatDoor
