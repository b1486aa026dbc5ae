import Derived.Test.YtgkkmoliobhpiaaGreatDoorMarkA
import Derived.Test.YtgkkmoliobhpiaaGreatDoorGRow
import Derived.Maps.AppendAt
namespace Go.Proofs.YtgkkmoliobhpiaaGreatDoor
open Go.ChangeShapes Go.WideShapes Go.ChangeAt Go.RowKit Go.Deep

/-- a row of cells, with the rows that it leads to -/
inductive Ds where
  | nil
  | atom (v : Value) (r : Ds)
  | attrs (al : List (ByteArray × ByteArray)) (r : Ds)
  | tree (F : Fo) (r : Ds)
  | row (n : Nat) (K r : Ds)
namespace Ds
def len : Ds → Nat
  | .nil => 0
  | .atom _ r => r.len + 1
  | .attrs _ r => r.len + 1
  | .tree _ r => r.len + 1
  | .row _ _ r => r.len + 1
def app : Ds → Ds → Ds
  | .nil, s => s
  | .atom v r, s => .atom v (r.app s)
  | .attrs al r, s => .attrs al (r.app s)
  | .tree F r, s => .tree F (r.app s)
  | .row n K r, s => .row n K (r.app s)
theorem app_nil : ∀ D : Ds, D.app .nil = D
  | .nil => rfl
  | .atom _ r => by rw [app, app_nil r]
  | .attrs _ r => by rw [app, app_nil r]
  | .tree _ r => by rw [app, app_nil r]
  | .row _ _ r => by rw [app, app_nil r]
theorem app_assoc : ∀ D E F : Ds, (D.app E).app F = D.app (E.app F)
  | .nil, _, _ => rfl
  | .atom _ r, E, F => by simp only [app, app_assoc r]
  | .attrs _ r, E, F => by simp only [app, app_assoc r]
  | .tree _ r, E, F => by simp only [app, app_assoc r]
  | .row _ _ r, E, F => by simp only [app, app_assoc r]
theorem len_app : ∀ D E : Ds, (D.app E).len = D.len + E.len
  | .nil, E => by simp [app, len]
  | .atom _ r, E => by simp only [app, len, len_app r]; omega
  | .attrs _ r, E => by simp only [app, len, len_app r]; omega
  | .tree _ r, E => by simp only [app, len, len_app r]; omega
  | .row _ _ r, E => by simp only [app, len, len_app r]; omega
/-- cell j, if it leads nowhere -/
def getA : Ds → Nat → Option Value
  | .nil, _ => none
  | .atom v _, 0 => some v
  | .attrs _ _, 0 => none
  | .tree _ _, 0 => none
  | .row _ _ _, 0 => none
  | .atom _ r, j + 1 => r.getA j
  | .attrs _ r, j + 1 => r.getA j
  | .tree _ r, j + 1 => r.getA j
  | .row _ _ r, j + 1 => r.getA j
def setA : Ds → Nat → Value → Ds
  | .nil, _, _ => .nil
  | .atom _ r, 0, u => .atom u r
  | .attrs al r, 0, _ => .attrs al r
  | .tree F r, 0, _ => .tree F r
  | .row n K r, 0, _ => .row n K r
  | .atom v r, j + 1, u => .atom v (r.setA j u)
  | .attrs al r, j + 1, u => .attrs al (r.setA j u)
  | .tree F r, j + 1, u => .tree F (r.setA j u)
  | .row n K r, j + 1, u => .row n K (r.setA j u)
theorem len_setA : ∀ (D : Ds) (j : Nat) (u : Value), (D.setA j u).len = D.len
  | .nil, _, _ => rfl
  | .atom _ _, 0, _ => rfl
  | .attrs _ _, 0, _ => rfl
  | .tree _ _, 0, _ => rfl
  | .row _ _ _, 0, _ => rfl
  | .atom _ r, j + 1, u => by simp only [setA, len, len_setA r]
  | .attrs _ r, j + 1, u => by simp only [setA, len, len_setA r]
  | .tree _ r, j + 1, u => by simp only [setA, len, len_setA r]
  | .row _ _ r, j + 1, u => by simp only [setA, len, len_setA r]
/-- cell j, if it leads to a row of attributes -/
def getL : Ds → Nat → Option (List (ByteArray × ByteArray))
  | .nil, _ => none
  | .atom _ _, 0 => none
  | .attrs al _, 0 => some al
  | .tree _ _, 0 => none
  | .row _ _ _, 0 => none
  | .atom _ r, j + 1 => r.getL j
  | .attrs _ r, j + 1 => r.getL j
  | .tree _ r, j + 1 => r.getL j
  | .row _ _ r, j + 1 => r.getL j
def setL : Ds → Nat → List (ByteArray × ByteArray) → Ds
  | .nil, _, _ => .nil
  | .atom v r, 0, _ => .atom v r
  | .attrs _ r, 0, u => .attrs u r
  | .tree F r, 0, _ => .tree F r
  | .row n K r, 0, _ => .row n K r
  | .atom v r, j + 1, u => .atom v (r.setL j u)
  | .attrs al r, j + 1, u => .attrs al (r.setL j u)
  | .tree F r, j + 1, u => .tree F (r.setL j u)
  | .row n K r, j + 1, u => .row n K (r.setL j u)
end Ds

/-- from ⟨g, o⟩ on it stands; bl: the blocks that it leads to, in order -/
def DLay (w : World) : Nat → Nat → Ds → List Nat → Prop
  | _, _, .nil, bl => bl = []
  | g, o, .atom v r, bl => CellW w g o v ∧ DLay w g (o + 1) r bl
  | g, o, .attrs al r, bl => ∃ A c ba br, bl = ba ++ br ∧ (CellW w g o (.slice A al.length c) ∧ al.length ≤ c ∧ al.length ≤ maxLen ∧ AlRow w A al ba) ∧ DLay w g (o + 1) r br
  | g, o, .tree F r, bl => ∃ A c ba br, bl = ba ++ br ∧ (CellW w g o (.slice A F.len c) ∧ F.len ≤ c ∧ F.len ≤ maxLen ∧ KRow w A F ba) ∧ DLay w g (o + 1) r br
  | g, o, .row n K r, bl => ∃ A c ba br, bl = ba ++ br ∧ (CellW w g o (.slice A n c) ∧ n ≤ c ∧ n ≤ maxLen ∧ ((n = 0 ∧ K.len = 0 ∧ ba = []) ∨ ∃ h b', A = some ⟨h, 0, none⟩ ∧ ba = h :: b' ∧ DLay w h 0 K b')) ∧ DLay w g (o + 1) r br
theorem DLay.same {w w' : World} : ∀ {D : Ds} {g o : Nat} {bl : List Nat}, DLay w g o D bl → w'.heap[g]? = w.heap[g]? → (∀ k ∈ bl, w'.heap[k]? = w.heap[k]?) → DLay w' g o D bl
  | .nil, _, _, _, h, _, _ => h
  | .atom v r, g, o, bl, ⟨h1, h2⟩, hg, hb => ⟨h1.same hg, h2.same hg hb⟩
  | .attrs al r, g, o, bl, ⟨A, c, ba, br, e, ⟨h1, h2, h3, h4⟩, h5⟩, hg, hb => by
    subst e
    exact ⟨A, c, ba, br, rfl, ⟨h1.same hg, h2, h3, h4.same fun k hk => hb k (by simp [hk])⟩, h5.same hg fun k hk => hb k (by simp [hk])⟩
  | .tree F r, g, o, bl, ⟨A, c, ba, br, e, ⟨h1, h2, h3, h4⟩, h5⟩, hg, hb => by
    subst e
    exact ⟨A, c, ba, br, rfl, ⟨h1.same hg, h2, h3, h4.same fun k hk => hb k (by simp [hk])⟩, h5.same hg fun k hk => hb k (by simp [hk])⟩
  | .row n K r, g, o, bl, ⟨A, c, ba, br, e, ⟨h1, h2, h3, h4⟩, h5⟩, hg, hb => by
    subst e
    refine ⟨A, c, ba, br, rfl, ⟨h1.same hg, h2, h3, ?_⟩, h5.same hg fun k hk => hb k (by simp [hk])⟩
    rcases h4 with h4 | ⟨h, b', e1, e2, h6⟩
    · exact Or.inl h4
    · subst e2
      exact Or.inr ⟨h, b', e1, rfl, h6.same (hb h (by simp)) fun k hk => hb k (by simp [hk])⟩
theorem AlRow.off {w : World} {A : Option Addr} {al : List (ByteArray × ByteArray)} {ba : List Nat} (h : AlRow w A al ba) {g m : Nat} (hg : g ∉ ba) (u : Value) : AlRow (w.setCell ⟨g, m, none⟩ u) A al ba :=
  h.same fun k hk => Below.heap_setCell _ _ _ _ (fun e => hg (by rw [show g = k from e.symm]; exact hk))
/-- behind a write elsewhere -/
theorem DLay.off {w : World} : ∀ {D : Ds} {g o g' m : Nat} {bl : List Nat}, DLay w g o D bl → (g' ≠ g ∨ m < o ∨ o + D.len ≤ m) → g' ∉ bl → ∀ u, DLay (w.setCell ⟨g', m, none⟩ u) g o D bl
  | .nil, _, _, _, _, _, h, _, _, _ => h
  | .atom v r, g, o, g', m, bl, ⟨h1, h2⟩, hm, hb, u => by
    simp only [Ds.len] at hm
    exact ⟨h1.set (hm.imp id fun h => by omega) u, h2.off (hm.imp id fun h => by omega) hb u⟩
  | .attrs al r, g, o, g', m, bl, ⟨A, c, ba, br, e, ⟨h1, h2, h3, h4⟩, h5⟩, hm, hb, u => by
    subst e
    simp only [Ds.len] at hm
    have hk : ∀ k ∈ ba ++ br, (w.setCell ⟨g', m, none⟩ u).heap[k]? = w.heap[k]? := fun k hk => Below.heap_setCell _ _ _ _ (fun e => hb (by rw [show g' = k from e.symm]; exact hk))
    exact ⟨A, c, ba, br, rfl, ⟨h1.set (hm.imp id fun h => by omega) u, h2, h3, h4.same fun k h => hk k (by simp [h])⟩, h5.off (hm.imp id fun h => by omega) (fun h => hb (by simp [h])) u⟩
  | .tree F r, g, o, g', m, bl, ⟨A, c, ba, br, e, ⟨h1, h2, h3, h4⟩, h5⟩, hm, hb, u => by
    subst e
    simp only [Ds.len] at hm
    have hk : ∀ k ∈ ba ++ br, (w.setCell ⟨g', m, none⟩ u).heap[k]? = w.heap[k]? := fun k hk => Below.heap_setCell _ _ _ _ (fun e => hb (by rw [show g' = k from e.symm]; exact hk))
    exact ⟨A, c, ba, br, rfl, ⟨h1.set (hm.imp id fun h => by omega) u, h2, h3, h4.same fun k h => hk k (by simp [h])⟩, h5.off (hm.imp id fun h => by omega) (fun h => hb (by simp [h])) u⟩
  | .row n K r, g, o, g', m, bl, ⟨A, c, ba, br, e, ⟨h1, h2, h3, h4⟩, h5⟩, hm, hb, u => by
    subst e
    simp only [Ds.len] at hm
    have hk : ∀ k ∈ ba ++ br, (w.setCell ⟨g', m, none⟩ u).heap[k]? = w.heap[k]? := fun k hk => Below.heap_setCell _ _ _ _ (fun e => hb (by rw [show g' = k from e.symm]; exact hk))
    refine ⟨A, c, ba, br, rfl, ⟨h1.set (hm.imp id fun h => by omega) u, h2, h3, ?_⟩, h5.off (hm.imp id fun h => by omega) (fun h => hb (by simp [h])) u⟩
    rcases h4 with h4 | ⟨h, b', e1, e2, h6⟩
    · exact Or.inl h4
    · subst e2
      exact Or.inr ⟨h, b', e1, rfl, h6.same (hk h (by simp)) fun k h => hk k (by simp [h])⟩
theorem DLay.split {w : World} : ∀ {P S : Ds} {g o : Nat} {bl : List Nat}, DLay w g o (P.app S) bl → ∃ b1 b2, bl = b1 ++ b2 ∧ DLay w g o P b1 ∧ DLay w g (o + P.len) S b2
  | .nil, S, g, o, bl, h => ⟨[], bl, rfl, rfl, h⟩
  | .atom v r, S, g, o, bl, ⟨h1, h2⟩ => by
    obtain ⟨b1, b2, e, i1, i2⟩ := DLay.split h2
    exact ⟨b1, b2, e, ⟨h1, i1⟩, by simp only [Ds.len]; rw [show o + (r.len + 1) = o + 1 + r.len by omega]; exact i2⟩
  | .attrs al r, S, g, o, bl, ⟨A, c, ba, br, e, h1, h5⟩ => by
    obtain ⟨b1, b2, e2, i1, i2⟩ := DLay.split h5
    exact ⟨ba ++ b1, b2, by rw [e, e2, List.append_assoc], ⟨A, c, ba, b1, rfl, h1, i1⟩, by simp only [Ds.len]; rw [show o + (r.len + 1) = o + 1 + r.len by omega]; exact i2⟩
  | .tree F r, S, g, o, bl, ⟨A, c, ba, br, e, h1, h5⟩ => by
    obtain ⟨b1, b2, e2, i1, i2⟩ := DLay.split h5
    exact ⟨ba ++ b1, b2, by rw [e, e2, List.append_assoc], ⟨A, c, ba, b1, rfl, h1, i1⟩, by simp only [Ds.len]; rw [show o + (r.len + 1) = o + 1 + r.len by omega]; exact i2⟩
  | .row n K r, S, g, o, bl, ⟨A, c, ba, br, e, h1, h5⟩ => by
    obtain ⟨b1, b2, e2, i1, i2⟩ := DLay.split h5
    exact ⟨ba ++ b1, b2, by rw [e, e2, List.append_assoc], ⟨A, c, ba, b1, rfl, h1, i1⟩, by simp only [Ds.len]; rw [show o + (r.len + 1) = o + 1 + r.len by omega]; exact i2⟩
theorem DLay.join {w : World} : ∀ {P S : Ds} {g o : Nat} {b1 b2 : List Nat}, DLay w g o P b1 → DLay w g (o + P.len) S b2 → DLay w g o (P.app S) (b1 ++ b2)
  | .nil, S, g, o, b1, b2, h, k => by obtain rfl : b1 = [] := h; exact k
  | .atom v r, S, g, o, b1, b2, ⟨h1, h2⟩, k => ⟨h1, h2.join (by simp only [Ds.len] at k; rw [show o + 1 + r.len = o + (r.len + 1) by omega]; exact k)⟩
  | .attrs al r, S, g, o, b1, b2, ⟨A, c, ba, br, e, h1, h5⟩, k => by
    subst e
    exact ⟨A, c, ba, br ++ b2, by rw [List.append_assoc], h1, h5.join (by simp only [Ds.len] at k; rw [show o + 1 + r.len = o + (r.len + 1) by omega]; exact k)⟩
  | .tree F r, S, g, o, b1, b2, ⟨A, c, ba, br, e, h1, h5⟩, k => by
    subst e
    exact ⟨A, c, ba, br ++ b2, by rw [List.append_assoc], h1, h5.join (by simp only [Ds.len] at k; rw [show o + 1 + r.len = o + (r.len + 1) by omega]; exact k)⟩
  | .row n K r, S, g, o, b1, b2, ⟨A, c, ba, br, e, h1, h5⟩, k => by
    subst e
    exact ⟨A, c, ba, br ++ b2, by rw [List.append_assoc], h1, h5.join (by simp only [Ds.len] at k; rw [show o + 1 + r.len = o + (r.len + 1) by omega]; exact k)⟩
theorem DLay.cell {w : World} : ∀ {D : Ds} {g o j : Nat} {bl : List Nat} {v : Value}, DLay w g o D bl → D.getA j = some v → CellW w g (o + j) v
  | .nil, _, _, _, _, _, _, h => by cases h
  | .atom v r, g, o, 0, bl, x, ⟨h1, _⟩, h => by injection h with h; subst h; exact h1
  | .attrs _ _, _, _, 0, _, _, _, h => by cases h
  | .tree _ _, _, _, 0, _, _, _, h => by cases h
  | .row _ _ _, _, _, 0, _, _, _, h => by cases h
  | .atom v r, g, o, j + 1, bl, x, ⟨_, h2⟩, h => by rw [show o + (j + 1) = o + 1 + j by omega]; exact h2.cell h
  | .attrs al r, g, o, j + 1, bl, x, ⟨_, _, _, _, _, _, h5⟩, h => by rw [show o + (j + 1) = o + 1 + j by omega]; exact h5.cell h
  | .tree F r, g, o, j + 1, bl, x, ⟨_, _, _, _, _, _, h5⟩, h => by rw [show o + (j + 1) = o + 1 + j by omega]; exact h5.cell h
  | .row n K r, g, o, j + 1, bl, x, ⟨_, _, _, _, _, _, h5⟩, h => by rw [show o + (j + 1) = o + 1 + j by omega]; exact h5.cell h
/-- a store into a cell that leads nowhere -/
theorem DLay.put {w : World} : ∀ {D : Ds} {g o j : Nat} {bl : List Nat} {v : Value}, DLay w g o D bl → D.getA j = some v → g ∉ bl → ∀ u, DLay (w.setCell ⟨g, o + j, none⟩ u) g o (D.setA j u) bl
  | .nil, _, _, _, _, _, _, h, _, _ => by cases h
  | .atom v r, g, o, 0, bl, x, ⟨h1, h2⟩, _, hb, u => ⟨h1.put u, h2.off (Or.inr (Or.inl (by omega))) hb u⟩
  | .attrs _ _, _, _, 0, _, _, _, h, _, _ => by cases h
  | .tree _ _, _, _, 0, _, _, _, h, _, _ => by cases h
  | .row _ _ _, _, _, 0, _, _, _, h, _, _ => by cases h
  | .atom v r, g, o, j + 1, bl, x, ⟨h1, h2⟩, h, hb, u => by
    rw [show o + (j + 1) = o + 1 + j by omega]
    exact ⟨h1.set (Or.inr (by omega)) u, h2.put h hb u⟩
  | .attrs al r, g, o, j + 1, bl, x, ⟨A, c, ba, br, e, ⟨h1, h2, h3, h4⟩, h5⟩, h, hb, u => by
    subst e
    rw [show o + (j + 1) = o + 1 + j by omega]
    have hk : ∀ k ∈ ba, (w.setCell ⟨g, o + 1 + j, none⟩ u).heap[k]? = w.heap[k]? := fun k hk => Below.heap_setCell _ _ _ _ (fun e => hb (by rw [show g = k from e.symm]; simp [hk]))
    exact ⟨A, c, ba, br, rfl, ⟨h1.set (Or.inr (by omega)) u, h2, h3, h4.same hk⟩, h5.put h (fun h => hb (by simp [h])) u⟩
  | .tree F r, g, o, j + 1, bl, x, ⟨A, c, ba, br, e, ⟨h1, h2, h3, h4⟩, h5⟩, h, hb, u => by
    subst e
    rw [show o + (j + 1) = o + 1 + j by omega]
    have hk : ∀ k ∈ ba, (w.setCell ⟨g, o + 1 + j, none⟩ u).heap[k]? = w.heap[k]? := fun k hk => Below.heap_setCell _ _ _ _ (fun e => hb (by rw [show g = k from e.symm]; simp [hk]))
    exact ⟨A, c, ba, br, rfl, ⟨h1.set (Or.inr (by omega)) u, h2, h3, h4.same hk⟩, h5.put h (fun h => hb (by simp [h])) u⟩
  | .row n K r, g, o, j + 1, bl, x, ⟨A, c, ba, br, e, ⟨h1, h2, h3, h4⟩, h5⟩, h, hb, u => by
    subst e
    rw [show o + (j + 1) = o + 1 + j by omega]
    have hk : ∀ k ∈ ba, (w.setCell ⟨g, o + 1 + j, none⟩ u).heap[k]? = w.heap[k]? := fun k hk => Below.heap_setCell _ _ _ _ (fun e => hb (by rw [show g = k from e.symm]; simp [hk]))
    refine ⟨A, c, ba, br, rfl, ⟨h1.set (Or.inr (by omega)) u, h2, h3, ?_⟩, h5.put h (fun h => hb (by simp [h])) u⟩
    rcases h4 with h4 | ⟨h, b', e1, e2, h6⟩
    · exact Or.inl h4
    · subst e2
      exact Or.inr ⟨h, b', e1, rfl, h6.same (hk h (by simp)) fun k h => hk k (by simp [h])⟩
end Go.Proofs.YtgkkmoliobhpiaaGreatDoor
namespace Go.Proofs.YtgkkmoliobhpiaaGreatDoor
open Go.ChangeShapes Go.WideShapes Go.ChangeAt Go.RowKit Go.Deep

/-- a cell that leads to a row of attributes; what becomes of all when only that row's blocks are written -/
theorem DLay.attrs {w : World} : ∀ {D : Ds} {g o j : Nat} {bl : List Nat} {al : List (ByteArray × ByteArray)}, DLay w g o D bl → D.getL j = some al → (g :: bl).Nodup →
    ∃ A c ba, (CellW w g (o + j) (.slice A al.length c) ∧ al.length ≤ c ∧ al.length ≤ maxLen ∧ AlRow w A al ba ∧ ∀ k ∈ ba, k ∈ bl) ∧
      ∀ w' al', al'.length = al.length → w'.heap[g]? = w.heap[g]? → (∀ k ∈ bl, k ∉ ba → w'.heap[k]? = w.heap[k]?) → AlRow w' A al' ba → DLay w' g o (D.setL j al') bl
  | .nil, _, _, _, _, _, _, h, _ => by cases h
  | .atom v r, g, o, 0, bl, al, _, h, _ => by cases h
  | .attrs al0 r, g, o, 0, bl, al, ⟨A, c, ba, br, e, ⟨h1, h2, h3, h4⟩, h5⟩, h, hn => by
    injection h with h; subst h; subst e
    refine ⟨A, c, ba, ⟨h1, h2, h3, h4, fun k hk => by simp [hk]⟩, fun w' al' hl hg hb ha => ⟨A, c, ba, br, rfl, ⟨by rw [hl]; exact h1.same hg, by rw [hl]; exact h2, by rw [hl]; exact h3, ha⟩, h5.same hg fun k hk => ?_⟩⟩
    have hd := (List.nodup_append.1 (List.nodup_cons.1 hn).2).2.2
    exact hb k (by simp [hk]) fun hc => hd k hc k hk rfl
  | .tree _ _, _, _, 0, _, _, _, h, _ => by cases h
  | .row _ _ _, _, _, 0, _, _, _, h, _ => by cases h
  | .atom v r, g, o, j + 1, bl, al, ⟨h1, h2⟩, h, hn => by
    obtain ⟨A, c, ba, ⟨i1, i2⟩, i3⟩ := h2.attrs h hn
    refine ⟨A, c, ba, ⟨by rw [show o + (j + 1) = o + 1 + j by omega]; exact i1, i2⟩, fun w' al' hl hg hb ha => ⟨h1.same hg, i3 w' al' hl hg hb ha⟩⟩
  | .attrs al0 r, g, o, j + 1, bl, al, ⟨A0, c0, ba0, br, e, ⟨h1, h2, h3, h4⟩, h5⟩, h, hn => by
    subst e
    have hn1 := List.nodup_cons.1 hn
    have hn2 := List.nodup_append.1 hn1.2
    obtain ⟨A, c, ba, ⟨i1, i2, i2', i2'', i4⟩, i3⟩ := h5.attrs h (List.nodup_cons.2 ⟨fun hc => hn1.1 (by simp [hc]), hn2.2.1⟩)
    refine ⟨A, c, ba, ⟨by rw [show o + (j + 1) = o + 1 + j by omega]; exact i1, i2, i2', i2'', fun k hk => by simp [i4 k hk]⟩, fun w' al' hl hg hb ha => ⟨A0, c0, ba0, br, rfl, ⟨h1.same hg, h2, h3, h4.same fun k hk => hb k (by simp [hk]) fun hc => hn2.2.2 k hk k (i4 k hc) rfl⟩, i3 w' al' hl hg (fun k hk hc => hb k (by simp [hk]) hc) ha⟩⟩
  | .tree F0 r, g, o, j + 1, bl, al, ⟨A0, c0, ba0, br, e, ⟨h1, h2, h3, h4⟩, h5⟩, h, hn => by
    subst e
    have hn1 := List.nodup_cons.1 hn
    have hn2 := List.nodup_append.1 hn1.2
    obtain ⟨A, c, ba, ⟨i1, i2, i2', i2'', i4⟩, i3⟩ := h5.attrs h (List.nodup_cons.2 ⟨fun hc => hn1.1 (by simp [hc]), hn2.2.1⟩)
    refine ⟨A, c, ba, ⟨by rw [show o + (j + 1) = o + 1 + j by omega]; exact i1, i2, i2', i2'', fun k hk => by simp [i4 k hk]⟩, fun w' al' hl hg hb ha => ⟨A0, c0, ba0, br, rfl, ⟨h1.same hg, h2, h3, h4.same fun k hk => hb k (by simp [hk]) fun hc => hn2.2.2 k hk k (i4 k hc) rfl⟩, i3 w' al' hl hg (fun k hk hc => hb k (by simp [hk]) hc) ha⟩⟩
  | .row n0 K0 r, g, o, j + 1, bl, al, ⟨A0, c0, ba0, br, e, ⟨h1, h2, h3, h4⟩, h5⟩, h, hn => by
    subst e
    have hn1 := List.nodup_cons.1 hn
    have hn2 := List.nodup_append.1 hn1.2
    obtain ⟨A, c, ba, ⟨i1, i2, i2', i2'', i4⟩, i3⟩ := h5.attrs h (List.nodup_cons.2 ⟨fun hc => hn1.1 (by simp [hc]), hn2.2.1⟩)
    refine ⟨A, c, ba, ⟨by rw [show o + (j + 1) = o + 1 + j by omega]; exact i1, i2, i2', i2'', fun k hk => by simp [i4 k hk]⟩, fun w' al' hl hg hb ha => ⟨A0, c0, ba0, br, rfl, ⟨h1.same hg, h2, h3, ?_⟩, i3 w' al' hl hg (fun k hk hc => hb k (by simp [hk]) hc) ha⟩⟩
    have hs : ∀ k ∈ ba0, w'.heap[k]? = w.heap[k]? := fun k hk => hb k (by simp [hk]) fun hc => hn2.2.2 k hk k (i4 k hc) rfl
    rcases h4 with h4 | ⟨h, b', e1, e2, h6⟩
    · exact Or.inl h4
    · subst e2
      exact Or.inr ⟨h, b', e1, rfl, h6.same (hs h (by simp)) fun k h => hs k (by simp [h])⟩

/-- a part F of a row at ⟨g, o⟩, with what is ahead of it and behind it -/
structure DIn (w : World) (g o : Nat) (P F R : Ds) (bp bf br : List Nat) : Prop where
  p : DLay w g 0 P bp
  f : DLay w g o F bf
  r : DLay w g (o + F.len) R br
  po : P.len = o
  nd : (g :: (bp ++ (bf ++ br))).Nodup
  lt : ∀ k ∈ g :: (bp ++ (bf ++ br)), k < w.heap.size
theorem DIn.enter {w : World} {g : Nat} {P F R : Ds} {bl : List Nat} (h : DLay w g 0 (P.app (F.app R)) bl) (hn : (g :: bl).Nodup) (hl : ∀ k ∈ g :: bl, k < w.heap.size) : ∃ bp bf br, bl = bp ++ (bf ++ br) ∧ DIn w g P.len P F R bp bf br := by
  obtain ⟨bp, b2, e1, i1, i2⟩ := DLay.split h
  obtain ⟨bf, br, e2, i3, i4⟩ := DLay.split i2
  subst e2; subst e1
  rw [Nat.zero_add] at i3 i4
  exact ⟨bp, bf, br, rfl, i1, i3, i4, rfl, hn, hl⟩
theorem DIn.leave {w : World} {g o : Nat} {P F R : Ds} {bp bf br : List Nat} (h : DIn w g o P F R bp bf br) : DLay w g 0 (P.app (F.app R)) (bp ++ (bf ++ br)) := by
  refine h.p.join ?_
  rw [Nat.zero_add, h.po]
  exact h.f.join h.r
theorem DIn.cell {w : World} {g o j : Nat} {P F R : Ds} {bp bf br : List Nat} {v : Value} (h : DIn w g o P F R bp bf br) (hj : F.getA j = some v) : CellW w g (o + j) v := h.f.cell hj
theorem Ds.getA_lt : ∀ {D : Ds} {j : Nat} {v : Value}, D.getA j = some v → j < D.len
  | .nil, _, _, h => by cases h
  | .atom _ _, 0, _, _ => Nat.succ_pos _
  | .attrs _ _, 0, _, h => by cases h
  | .tree _ _, 0, _, h => by cases h
  | .row _ _ _, 0, _, h => by cases h
  | .atom _ r, j + 1, _, h => Nat.succ_lt_succ (Ds.getA_lt (D := r) h)
  | .attrs _ r, j + 1, _, h => Nat.succ_lt_succ (Ds.getA_lt (D := r) h)
  | .tree _ r, j + 1, _, h => Nat.succ_lt_succ (Ds.getA_lt (D := r) h)
  | .row _ _ r, j + 1, _, h => Nat.succ_lt_succ (Ds.getA_lt (D := r) h)
theorem DIn.put {w : World} {g o j : Nat} {P F R : Ds} {bp bf br : List Nat} {v : Value} (h : DIn w g o P F R bp bf br) (hj : F.getA j = some v) (u : Value) : DIn (w.setCell ⟨g, o + j, none⟩ u) g o P (F.setA j u) R bp bf br := by
  have hn := (List.nodup_cons.1 h.nd).1
  have hlt := Ds.getA_lt hj
  refine ⟨h.p.off (Or.inr (Or.inr (by have := h.po; omega))) (fun e => hn (by simp [e])) u, h.f.put hj (fun e => hn (by simp [e])) u, ?_, h.po, h.nd, fun k hk => by rw [World.size_setCell]; exact h.lt k hk⟩
  rw [Ds.len_setA]
  exact h.r.off (Or.inr (Or.inl (by omega))) (fun e => hn (by simp [e])) u
theorem DIn.same {w w' : World} {g o : Nat} {P F R : Ds} {bp bf br : List Nat} (h : DIn w g o P F R bp bf br) (hB : Below w.heap.size w w') : DIn w' g o P F R bp bf br := by
  have hb : ∀ k ∈ g :: (bp ++ (bf ++ br)), w'.heap[k]? = w.heap[k]? := fun k hk => hB.block k (h.lt k hk)
  exact ⟨h.p.same (hb g (by simp)) fun k hk => hb k (by simp [hk]), h.f.same (hb g (by simp)) fun k hk => hb k (by simp [hk]), h.r.same (hb g (by simp)) fun k hk => hb k (by simp [hk]), h.po, h.nd, fun k hk => Nat.lt_of_lt_of_le (h.lt k hk) hB.size⟩
theorem Ds.len_setL : ∀ (D : Ds) (j : Nat) (u : List (ByteArray × ByteArray)), (D.setL j u).len = D.len
  | .nil, _, _ => rfl
  | .atom _ _, 0, _ => rfl
  | .attrs _ _, 0, _ => rfl
  | .tree _ _, 0, _ => rfl
  | .row _ _ _, 0, _ => rfl
  | .atom _ r, j + 1, u => by simp only [setL, len, Ds.len_setL r]
  | .attrs _ r, j + 1, u => by simp only [setL, len, Ds.len_setL r]
  | .tree _ r, j + 1, u => by simp only [setL, len, Ds.len_setL r]
  | .row _ _ r, j + 1, u => by simp only [setL, len, Ds.len_setL r]
theorem DIn.attrs {w : World} {g o j : Nat} {P F R : Ds} {bp bf br : List Nat} {al : List (ByteArray × ByteArray)} (h : DIn w g o P F R bp bf br) (hj : F.getL j = some al) :
    ∃ A c ba, (CellW w g (o + j) (.slice A al.length c) ∧ al.length ≤ c ∧ al.length ≤ maxLen ∧ AlRow w A al ba ∧ ∀ k ∈ ba, k ∈ bf) ∧
      ∀ w' al', al'.length = al.length → OnlyAt w w' ba → AlRow w' A al' ba → DIn w' g o P (F.setL j al') R bp bf br := by
  have hn := List.nodup_cons.1 h.nd
  have hn2 := List.nodup_append.1 hn.2
  have hn3 := List.nodup_append.1 hn2.2.1
  obtain ⟨A, c, ba, hc, hf⟩ := h.f.attrs hj (List.nodup_cons.2 ⟨fun hc => hn.1 (by simp [hc]), hn3.1⟩)
  refine ⟨A, c, ba, hc, fun w' al' hl hO ha => ?_⟩
  have hin := hc.2.2.2.2
  have hk : ∀ k ∈ g :: (bp ++ (bf ++ br)), k ∉ ba → w'.heap[k]? = w.heap[k]? := fun k hk hk2 => hO.block k (h.lt k hk) hk2
  have hg : g ∉ ba := fun e => hn.1 (by simp [hin g e])
  refine ⟨h.p.same (hk g (by simp) hg) fun k hk' => hk k (by simp [hk']) fun e => hn2.2.2 k hk' k (by simp [hin k e]) rfl, hf w' al' hl (hk g (by simp) hg) (fun k hk' hc' => hk k (by simp [hk']) hc') ha, ?_, h.po, h.nd, fun k hk => Nat.lt_of_lt_of_le (h.lt k hk) hO.size⟩
  rw [Ds.len_setL]
  exact h.r.same (hk g (by simp) hg) fun k hk' => hk k (by simp [hk']) fun e => hn3.2.2 k (hin k e) k hk' rfl
/-- a row that a slice leads to -/
def DRow (w : World) (A : Option Addr) (n : Nat) (D : Ds) (bl : List Nat) : Prop := (n = 0 ∧ D.len = 0 ∧ bl = []) ∨ ∃ g b', A = some ⟨g, 0, none⟩ ∧ bl = g :: b' ∧ DLay w g 0 D b'
theorem DRow.same {w w' : World} {A : Option Addr} {n : Nat} {D : Ds} {bl : List Nat} (h : DRow w A n D bl) (hb : ∀ k ∈ bl, w'.heap[k]? = w.heap[k]?) : DRow w' A n D bl := by
  rcases h with h | ⟨g, b', e1, e2, h⟩
  · exact Or.inl h
  · subst e2; exact Or.inr ⟨g, b', e1, rfl, h.same (hb g (by simp)) fun k hk => hb k (by simp [hk])⟩
end Go.Proofs.YtgkkmoliobhpiaaGreatDoor
namespace Go.Proofs.YtgkkmoliobhpiaaGreatDoor
open Go.ChangeShapes Go.WideShapes Go.ChangeAt Go.RowKit Go.Deep

/-- the values of a row of cells, and the rows that they lead to -/
def DVals (w : World) : List Value → Ds → List Nat → Prop
  | xs, .nil, bl => xs = [] ∧ bl = []
  | xs, .atom v r, bl => ∃ xr, xs = v :: xr ∧ DVals w xr r bl
  | xs, .attrs al r, bl => ∃ A c ba br xr, xs = .slice A al.length c :: xr ∧ bl = ba ++ br ∧ (al.length ≤ c ∧ al.length ≤ maxLen ∧ AlRow w A al ba) ∧ DVals w xr r br
  | xs, .tree F r, bl => ∃ A c ba br xr, xs = .slice A F.len c :: xr ∧ bl = ba ++ br ∧ (F.len ≤ c ∧ F.len ≤ maxLen ∧ KRow w A F ba) ∧ DVals w xr r br
  | xs, .row n K r, bl => ∃ A c ba br xr, xs = .slice A n c :: xr ∧ bl = ba ++ br ∧ (n ≤ c ∧ n ≤ maxLen ∧ DRow w A n K ba) ∧ DVals w xr r br
theorem DVals.same {w w' : World} : ∀ {D : Ds} {xs : List Value} {bl : List Nat}, DVals w xs D bl → (∀ k ∈ bl, w'.heap[k]? = w.heap[k]?) → DVals w' xs D bl
  | .nil, _, _, h, _ => h
  | .atom v r, xs, bl, ⟨xr, e, h⟩, hb => ⟨xr, e, h.same hb⟩
  | .attrs al r, xs, bl, ⟨A, c, ba, br, xr, e, e2, ⟨h1, h2, h3⟩, h⟩, hb => by
    subst e2; exact ⟨A, c, ba, br, xr, e, rfl, ⟨h1, h2, h3.same fun k hk => hb k (by simp [hk])⟩, h.same fun k hk => hb k (by simp [hk])⟩
  | .tree F r, xs, bl, ⟨A, c, ba, br, xr, e, e2, ⟨h1, h2, h3⟩, h⟩, hb => by
    subst e2; exact ⟨A, c, ba, br, xr, e, rfl, ⟨h1, h2, h3.same fun k hk => hb k (by simp [hk])⟩, h.same fun k hk => hb k (by simp [hk])⟩
  | .row n K r, xs, bl, ⟨A, c, ba, br, xr, e, e2, ⟨h1, h2, h3⟩, h⟩, hb => by
    subst e2; exact ⟨A, c, ba, br, xr, e, rfl, ⟨h1, h2, h3.same fun k hk => hb k (by simp [hk])⟩, h.same fun k hk => hb k (by simp [hk])⟩
theorem DVals.len {w : World} : ∀ {D : Ds} {xs : List Value} {bl : List Nat}, DVals w xs D bl → xs.length = D.len
  | .nil, _, _, h => by rw [h.1]; rfl
  | .atom v r, xs, bl, ⟨xr, e, h⟩ => by rw [e]; simp only [List.length_cons, h.len, Ds.len]
  | .attrs al r, xs, bl, ⟨A, c, ba, br, xr, e, e2, _, h⟩ => by rw [e]; simp only [List.length_cons, h.len, Ds.len]
  | .tree F r, xs, bl, ⟨A, c, ba, br, xr, e, e2, _, h⟩ => by rw [e]; simp only [List.length_cons, h.len, Ds.len]
  | .row n K r, xs, bl, ⟨A, c, ba, br, xr, e, e2, _, h⟩ => by rw [e]; simp only [List.length_cons, h.len, Ds.len]
theorem DVals.app {w : World} : ∀ {D E : Ds} {xs ys : List Value} {b1 b2 : List Nat}, DVals w xs D b1 → DVals w ys E b2 → DVals w (xs ++ ys) (D.app E) (b1 ++ b2)
  | .nil, E, xs, ys, b1, b2, h, k => by obtain ⟨rfl, rfl⟩ := h; exact k
  | .atom v r, E, xs, ys, b1, b2, ⟨xr, e, h⟩, k => by subst e; exact ⟨xr ++ ys, rfl, h.app k⟩
  | .attrs al r, E, xs, ys, b1, b2, ⟨A, c, ba, br, xr, e, e2, h1, h⟩, k => by subst e; subst e2; exact ⟨A, c, ba, br ++ b2, xr ++ ys, rfl, by rw [List.append_assoc], h1, h.app k⟩
  | .tree F r, E, xs, ys, b1, b2, ⟨A, c, ba, br, xr, e, e2, h1, h⟩, k => by subst e; subst e2; exact ⟨A, c, ba, br ++ b2, xr ++ ys, rfl, by rw [List.append_assoc], h1, h.app k⟩
  | .row n K r, E, xs, ys, b1, b2, ⟨A, c, ba, br, xr, e, e2, h1, h⟩, k => by subst e; subst e2; exact ⟨A, c, ba, br ++ b2, xr ++ ys, rfl, by rw [List.append_assoc], h1, h.app k⟩
theorem DVals.lay {w : World} {g : Nat} : ∀ {D : Ds} {xs : List Value} {bl : List Nat} {o : Nat}, DVals w xs D bl → (∀ j (h : j < xs.length), CellW w g (o + j) xs[j]) → DLay w g o D bl
  | .nil, _, _, _, h, _ => h.2
  | .atom v r, xs, bl, o, ⟨xr, e, h⟩, hc => by
    subst e
    exact ⟨hc 0 (by simp), h.lay fun j hj => by have := hc (j + 1) (by simp; omega); rw [show o + 1 + j = o + (j + 1) by omega]; simpa using this⟩
  | .attrs al r, xs, bl, o, ⟨A, c, ba, br, xr, e, e2, ⟨h1, h2, h3⟩, h⟩, hc => by
    subst e
    exact ⟨A, c, ba, br, e2, ⟨hc 0 (by simp), h1, h2, h3⟩, h.lay fun j hj => by have := hc (j + 1) (by simp; omega); rw [show o + 1 + j = o + (j + 1) by omega]; simpa using this⟩
  | .tree F r, xs, bl, o, ⟨A, c, ba, br, xr, e, e2, ⟨h1, h2, h3⟩, h⟩, hc => by
    subst e
    exact ⟨A, c, ba, br, e2, ⟨hc 0 (by simp), h1, h2, h3⟩, h.lay fun j hj => by have := hc (j + 1) (by simp; omega); rw [show o + 1 + j = o + (j + 1) by omega]; simpa using this⟩
  | .row n K r, xs, bl, o, ⟨A, c, ba, br, xr, e, e2, ⟨h1, h2, h3⟩, h⟩, hc => by
    subst e
    exact ⟨A, c, ba, br, e2, ⟨hc 0 (by simp), h1, h2, h3⟩, h.lay fun j hj => by have := hc (j + 1) (by simp; omega); rw [show o + 1 + j = o + (j + 1) by omega]; simpa using this⟩

/-- a row of records of one's own that may grow -/
def DG (w : World) (M : Nat) (ty : TypeId) (size : Nat) (v : Value) (n : Nat) (D : Ds) : Prop :=
  ∃ xs bl, w.ownsRow M ty size v n xs ∧ DVals w xs D bl ∧ bl.Nodup ∧ ∀ k ∈ bl, M ≤ k ∧ k < w.heap.size ∧ some k ≠ v.ownBlock
theorem ownsRow_below {w w' : World} {base : Nat} {e : TypeId} {size : Nat} {v : Value} {n : Nat} {xs : List Value} (h : w.ownsRow base e size v n xs) (hB : Below w.heap.size w w') : w'.ownsRow base e size v n xs := by
  obtain ⟨h1, h2⟩ := h
  refine ⟨h1, ?_⟩
  rcases h2 with h2 | ⟨g, cap, cur, hv, hg, hh, r⟩
  · exact Or.inl h2
  · exact Or.inr ⟨g, cap, cur, hv, hg, by rw [hB.block g (Array.getElem?_eq_some_iff.1 hh).1]; exact hh, r⟩
theorem DG.next {w w' : World} {M : Nat} {ty : TypeId} {size : Nat} {v : Value} {n : Nat} {D : Ds} (h : DG w M ty size v n D) (hB : Below w.heap.size w w') : DG w' M ty size v n D := by
  obtain ⟨xs, bl, h1, h2, h3, h4⟩ := h
  exact ⟨xs, bl, ownsRow_below h1 hB, h2.same fun k hk => hB.block k (h4 k hk).2.1, h3, fun k hk => ⟨(h4 k hk).1, Nat.lt_of_lt_of_le (h4 k hk).2.1 hB.size, (h4 k hk).2.2⟩⟩
theorem DG.nil {w : World} {M : Nat} {ty : TypeId} {size : Nat} : DG w M ty size (.slice none 0 0) 0 .nil := ⟨[], [], World.ownsRow_nil _ _ _ _, ⟨rfl, rfl⟩, List.nodup_nil, by simp⟩
theorem DG.lit0 {w : World} {M : Nat} {ty te : TypeId} {size : Nat} (hM : M ≤ w.heap.size) (ht : te = ty) : DG (w.alloc (.cells #[] te)) M ty size (.slice (some ⟨w.heap.size, 0, none⟩) 0 0) 0 .nil := by
  subst ht
  refine ⟨[], [], ?_, ⟨rfl, rfl⟩, List.nodup_nil, by simp⟩
  have := World.ownsRow_lit (base := M) (e := te) (size := size) w #[] 0 hM (Nat.zero_le _) (by simp)
  simpa using this
/-- .. a record more -/
theorem DG.push {w w0 w' : World} {M : Nat} {ty : TypeId} {size : Nat} {v v' : Value} {n : Nat} {D E : Ds} {xs ys : List Value} {bl be : List Nat} (hx : w.ownsRow M ty size v n xs) (hD : DVals w xs D bl) (hn : bl.Nodup) (hl : ∀ k ∈ bl, M ≤ k ∧ k < w.heap.size ∧ some k ≠ v.ownBlock)
    (hE : DVals w ys E be) (hne : be.Nodup) (hle : ∀ k ∈ be, M ≤ k ∧ k < w.heap.size ∧ some k ≠ v.ownBlock ∧ k ∉ bl)
    (h0 : Below w.heap.size w w0) (h1 : w'.ownsRow M ty size v' (n + 1) (xs ++ ys)) (hg : w0.grownBy w' v.ownBlock) (hat : v'.ownBlock = v.ownBlock ∨ v'.ownBlock = some w0.heap.size) : DG w' M ty size v' (n + 1) (D.app E) := by
  have hs : ∀ k, k < w.heap.size → some k ≠ v.ownBlock → w'.heap[k]? = w.heap[k]? := fun k h1 h2 => (hg.block k (Nat.lt_of_lt_of_le h1 h0.size) h2).trans (h0.block k h1)
  have hown : ∀ k, k < w.heap.size → some k ≠ v.ownBlock → some k ≠ v'.ownBlock := fun k h1 h2 => by
    rcases hat with e | e
    · rw [e]; exact h2
    · rw [e]; intro e2; injection e2 with e2; have := h0.size; omega
  refine ⟨xs ++ ys, bl ++ be, h1, (hD.same fun k hk => hs k (hl k hk).2.1 (hl k hk).2.2).app (hE.same fun k hk => hs k (hle k hk).2.1 (hle k hk).2.2.1), ?_, fun k hk => ?_⟩
  · exact List.nodup_append.2 ⟨hn, hne, fun a ha b hb e => (hle b hb).2.2.2 (by rw [← e]; exact ha)⟩
  · have hsz := Nat.le_trans h0.size hg.size
    rcases List.mem_append.1 hk with hk | hk
    · exact ⟨(hl k hk).1, Nat.lt_of_lt_of_le (hl k hk).2.1 hsz, hown k (hl k hk).2.1 (hl k hk).2.2⟩
    · exact ⟨(hle k hk).1, Nat.lt_of_lt_of_le (hle k hk).2.1 hsz, hown k (hle k hk).2.1 (hle k hk).2.2.1⟩
/-- what such a row looks like -/
theorem DG.form {w : World} {M : Nat} {ty : TypeId} {size : Nat} {v : Value} {n : Nat} {D : Ds} (h : DG w M ty size v n D) : ∃ A c bl, v = .slice A n c ∧ n ≤ c ∧ DRow w A n D bl ∧ bl.Nodup ∧ ∀ k ∈ bl, M ≤ k ∧ k < w.heap.size := by
  obtain ⟨xs, bl, hx, hD, hn, hl⟩ := h
  have hc := fun g hg => World.ownsRow.cells hx (g := g) hg
  have hlen := hD.len
  obtain ⟨h1, h2⟩ := hx
  rcases h2 with ⟨rfl, h0⟩ | ⟨g, cap, cur, rfl, hbs, hblk, hle, _, _, _⟩
  · have hD0 : D.len = 0 := by rw [← hlen, h1, h0]; simp
    have hb0 : bl = [] := by
      cases D with
      | nil => exact hD.2
      | atom => simp [Ds.len] at hD0
      | attrs => simp [Ds.len] at hD0
      | tree => simp [Ds.len] at hD0
      | row => simp [Ds.len] at hD0
    exact ⟨none, 0, [], by rw [h0], by omega, Or.inl ⟨h0, hD0, rfl⟩, List.nodup_nil, by simp⟩
  · refine ⟨_, cap, g :: bl, rfl, hle, Or.inr ⟨g, bl, rfl, rfl, hD.lay fun j hj => ⟨?_, ?_⟩⟩, List.nodup_cons.2 ⟨fun hc => (hl g hc).2.2 rfl, hn⟩, fun k hk => ?_⟩
    · have := hc g rfl j xs[j] (by simp [hj])
      rw [Addr.add_lit, Nat.zero_add] at this
      rw [Nat.zero_add]
      exact this
    · simp [World.frozen?, hblk]
    · rcases List.mem_cons.1 hk with rfl | hk
      · exact ⟨hbs, (Array.getElem?_eq_some_iff.1 hblk).1⟩
      · exact ⟨(hl k hk).1, (hl k hk).2.1⟩
end Go.Proofs.YtgkkmoliobhpiaaGreatDoor
