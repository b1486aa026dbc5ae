
import Derived.Test.YtbcbmgeoaejlmaaTo
namespace Go.Proofs.Ytbcbmgeoaejlmaa
open Go.ChangeShapes Go.WideShapes Go.ChangeAt Go.RowKit Go.Deep

/-- a cell that may be written -/
def CellW (w : World) (g o : Nat) (v : Value) : Prop := w.cell? ⟨g, o, none⟩ = some v ∧ w.frozen? ⟨g, o, none⟩ = false
theorem CellW.same {w w' : World} {g o : Nat} {v : Value} (h : CellW w g o v) (hb : w'.heap[g]? = w.heap[g]?) : CellW w' g o v :=
  ⟨(World.cell?_of_block (w := w) (a := ⟨g, o, none⟩) hb).trans h.1, (World.frozen?_of_block (w := w) (a := ⟨g, o, none⟩) hb).trans h.2⟩
theorem CellW.lt {w : World} {g o : Nat} {v : Value} (h : CellW w g o v) : g < w.heap.size := World.block_lt_of_cell? w ⟨g, o, none⟩ h.1
theorem CellW.put {w : World} {g o : Nat} {v : Value} (h : CellW w g o v) (u : Value) : CellW (w.setCell ⟨g, o, none⟩ u) g o u :=
  ⟨World.cell?_setCell_same _ _ _ h.1, by rw [World.frozen?_setCell]; exact h.2⟩
theorem CellW.set {w : World} {g o : Nat} {v : Value} (h : CellW w g o v) {g' o' : Nat} (hne : g' ≠ g ∨ o' ≠ o) (u : Value) : CellW (w.setCell ⟨g', o', none⟩ u) g o v :=
  ⟨by rw [World.cell?_setCell_other (h := fun e => by injection e with e1 e2; rcases hne with h | h; exact h e1; exact h e2)]; exact h.1, by rw [World.frozen?_setCell]; exact h.2⟩

/-- attributes in a row that may be written -/
def AlLay (w : World) (a : Nat) : Nat → List (ByteArray × ByteArray) → Prop
  | _, [] => True
  | o, x :: r => CellW w a o (.string x.1) ∧ CellW w a (o + 1) (.string x.2) ∧ x.1.size ≤ maxLen ∧ x.2.size ≤ maxLen ∧ AlLay w a (o + 2) r
theorem AlLay.same {w w' : World} {a : Nat} (hb : w'.heap[a]? = w.heap[a]?) : ∀ {al : List (ByteArray × ByteArray)} {o : Nat}, AlLay w a o al → AlLay w' a o al
  | [], _, _ => trivial
  | _ :: _, _, ⟨h1, h2, h3, h4, h5⟩ => ⟨h1.same hb, h2.same hb, h3, h4, AlLay.same hb h5⟩
theorem AlLay.at {w : World} {a : Nat} : ∀ {al : List (ByteArray × ByteArray)} {o : Nat}, AlLay w a o al → AsAt w a o al
  | [], _, _ => trivial
  | _ :: _, _, ⟨h1, h2, h3, h4, h5⟩ => ⟨h1.1, h2.1, h3, h4, AlLay.at h5⟩
/-- .. with the block that it has, if it has one -/
def AlRow (w : World) (A : Option Addr) (al : List (ByteArray × ByteArray)) (ba : List Nat) : Prop := (al = [] ∧ ba = []) ∨ ∃ a, A = some ⟨a, 0, none⟩ ∧ ba = [a] ∧ AlLay w a 0 al
theorem AlRow.same {w w' : World} {A : Option Addr} {al : List (ByteArray × ByteArray)} {ba : List Nat} (h : AlRow w A al ba) (hb : ∀ k ∈ ba, w'.heap[k]? = w.heap[k]?) : AlRow w' A al ba := by
  rcases h with h | ⟨a, h1, h2, h3⟩
  · exact Or.inl h
  · subst h2; exact Or.inr ⟨a, h1, rfl, h3.same (hb a (by simp))⟩

/-- a forest's cells in block g from o on; bl: the blocks of all that it leads to. All may be written. -/
def FoLay (w : World) (g : Nat) : Nat → Fo → List Nat → Prop
  | _, .nil, bl => bl = []
  | o, .cons k sp n t al kids rest, bl => ∃ (A K : Option Addr) (ca ck : Nat) (ba bk br : List Nat), bl = ba ++ bk ++ br ∧
    (CellW w g o (.int .i64 k) ∧ CellW w g (o + 1) (.int .i64 sp) ∧ CellW w g (o + 2) (.string n) ∧ CellW w g (o + 3) (.string t) ∧ n.size ≤ maxLen ∧ t.size ≤ maxLen) ∧
    (CellW w g (o + 4) (.slice A al.length ca) ∧ al.length ≤ ca ∧ al.length ≤ maxLen ∧ AlRow w A al ba) ∧
    (CellW w g (o + 5) (.slice K kids.len ck) ∧ kids.len ≤ ck ∧ kids.len ≤ maxLen ∧ ((kids.len = 0 ∧ bk = []) ∨ ∃ c b', K = some ⟨c, 0, none⟩ ∧ bk = c :: b' ∧ FoLay w c 0 kids b')) ∧
    FoLay w g (o + 6) rest br
theorem FoLay.same {w w' : World} : ∀ {F : Fo} {g o : Nat} {bl : List Nat}, FoLay w g o F bl → w'.heap[g]? = w.heap[g]? → (∀ k ∈ bl, w'.heap[k]? = w.heap[k]?) → FoLay w' g o F bl
  | .nil, _, _, _, h, _, _ => h
  | .cons k sp n t al kids rest, g, o, bl, ⟨A, K, ca, ck, ba, bk, br, hbl, ⟨c0, c1, c2, c3, z2, z3⟩, ⟨c4, h4, m4, r4⟩, ⟨c5, h5, m5, r5⟩, hr⟩, hg, hb => by
    subst hbl
    refine ⟨A, K, ca, ck, ba, bk, br, rfl, ⟨c0.same hg, c1.same hg, c2.same hg, c3.same hg, z2, z3⟩, ⟨c4.same hg, h4, m4, r4.same fun k hk => hb k (by simp [hk])⟩, ⟨c5.same hg, h5, m5, ?_⟩, hr.same hg fun k hk => hb k (by simp [hk])⟩
    rcases r5 with r5 | ⟨c, b', e1, e2, e3⟩
    · exact Or.inl r5
    · subst e2
      exact Or.inr ⟨c, b', e1, rfl, FoLay.same e3 (hb c (by simp)) fun k hk => hb k (by simp [hk])⟩
/-- as it is read -/
theorem FoLay.at {w : World} {lo hi : Nat} : ∀ {F : Fo} {g o : Nat} {bl : List Nat}, FoLay w g o F bl → (∀ k ∈ bl, lo ≤ k ∧ k < hi) → FoAt w lo hi g o F
  | .nil, _, _, _, _, _ => trivial
  | .cons k sp n t al kids rest, g, o, bl, ⟨A, K, ca, ck, ba, bk, br, hbl, ⟨c0, c1, c2, c3, z2, z3⟩, ⟨c4, h4, m4, r4⟩, ⟨c5, h5, m5, r5⟩, hr⟩, hb => by
    subst hbl
    refine ⟨⟨c0.1, c1.1, c2.1, c3.1, z2, z3⟩, ?_, ?_, hr.at fun k hk => hb k (by simp [hk])⟩
    · rcases r4 with ⟨e1, e2⟩ | ⟨a, e1, e2, e3⟩
      · subst e1
        exact ⟨A, ca, 0, 0, c4.1, ⟨h4, m4, fun h => absurd h (Nat.lt_irrefl _)⟩, trivial⟩
      · subst e2
        have := hb a (by simp)
        exact ⟨A, ca, a, 0, c4.1, ⟨h4, m4, fun _ => ⟨e1, this.1, this.2⟩⟩, e3.at⟩
    · rcases r5 with ⟨e1, e2⟩ | ⟨c, b', e1, e2, e3⟩
      · cases kids with
        | cons _ _ _ _ _ _ _ => simp [Fo.len] at e1
        | nil => exact ⟨K, ck, 0, 0, c5.1, ⟨h5, m5, fun h => absurd h (Nat.lt_irrefl _)⟩, trivial⟩
      · subst e2
        have := hb c (by simp)
        exact ⟨K, ck, c, 0, c5.1, ⟨h5, m5, fun _ => ⟨e1, this.1, this.2⟩⟩, FoLay.at e3 fun k hk => hb k (by simp [hk])⟩
theorem FoLay.app {w : World} : ∀ {F G : Fo} {g o : Nat} {b1 b2 : List Nat}, FoLay w g o F b1 → FoLay w g (o + 6 * F.len) G b2 → FoLay w g o (F.app G) (b1 ++ b2)
  | .nil, G, g, o, b1, b2, h, hG => by
    have h : b1 = [] := h
    subst h; simpa [Fo.app, Fo.len] using hG
  | .cons k sp n t al kids r, G, g, o, b1, b2, ⟨A, K, ca, ck, ba, bk, br, hbl, h1, h2, h3, h4⟩, hG => by
    subst hbl
    refine ⟨A, K, ca, ck, ba, bk, br ++ b2, by simp [List.append_assoc], h1, h2, h3, FoLay.app h4 ?_⟩
    simp only [Fo.len] at hG
    rw [show o + 6 + 6 * r.len = o + 6 * (r.len + 1) by omega]; exact hG

/-- a forest of its own: its row is block g; no two of its rows are one; all from B on -/
def Own (w : World) (B g : Nat) (F : Fo) (bl : List Nat) : Prop := B ≤ g ∧ g < w.heap.size ∧ FoLay w g 0 F bl ∧ (g :: bl).Nodup ∧ ∀ k ∈ bl, B ≤ k ∧ k < w.heap.size
theorem Own.same {w w' : World} {B g : Nat} {F : Fo} {bl : List Nat} (h : Own w B g F bl) (hs : w.heap.size ≤ w'.heap.size) (hb : ∀ k, k = g ∨ k ∈ bl → w'.heap[k]? = w.heap[k]?) : Own w' B g F bl :=
  ⟨h.1, Nat.lt_of_lt_of_le h.2.1 hs, h.2.2.1.same (hb g (Or.inl rfl)) fun k hk => hb k (Or.inr hk), h.2.2.2.1, fun k hk => ⟨(h.2.2.2.2 k hk).1, Nat.lt_of_lt_of_le (h.2.2.2.2 k hk).2 hs⟩⟩
theorem Own.next {w w' : World} {B g : Nat} {F : Fo} {bl : List Nat} (h : Own w B g F bl) (hB : Below w.heap.size w w') : Own w' B g F bl :=
  h.same hB.size fun k hk => hB.block k (by rcases hk with rfl | hk; exact h.2.1; exact (h.2.2.2.2 k hk).2)
theorem Own.at {w : World} {B g : Nat} {F : Fo} {bl : List Nat} (h : Own w B g F bl) : FoAt w B w.heap.size g 0 F := h.2.2.1.at h.2.2.2.2
theorem Own.row {w : World} {B g : Nat} {F : Fo} {bl : List Nat} (h : Own w B g F bl) (hl : F.len ≤ maxLen) : RowAt B w.heap.size (some ⟨g, 0, none⟩) F.len g 0 := ⟨hl, fun _ => ⟨rfl, h.1, h.2.1⟩⟩
end Go.Proofs.Ytbcbmgeoaejlmaa
