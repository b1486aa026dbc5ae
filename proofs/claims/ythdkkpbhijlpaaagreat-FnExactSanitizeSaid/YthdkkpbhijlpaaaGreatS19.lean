import Derived.Test.YthdkkpbhijlpaaaGreatS02
set_option linter.unusedVariables false
namespace Go.Proofs.YthdkkpbhijlpaaaGreat
open Go.ChangeShapes Go.WideShapes Go.ChangeAt Go.RowKit Go.Deep

/-- a cell that may be written -/
def CellW (w : World) (g o : Nat) (v : Value) : Prop := w.cell? ⟨g, o, none⟩ = some v ∧ w.frozen? ⟨g, o, none⟩ = false
theorem CellW.same {w w' : World} {g o : Nat} {v : Value} (h : CellW w g o v) (hb : w'.heap[g]? = w.heap[g]?) : CellW w' g o v :=
  ⟨(World.cell?_of_block (w := w) (a := ⟨g, o, none⟩) hb).trans h.1, (World.frozen?_of_block (w := w) (a := ⟨g, o, none⟩) hb).trans h.2⟩
theorem CellW.lt {w : World} {g o : Nat} {v : Value} (h : CellW w g o v) : g < w.heap.size := World.block_lt_of_cell? w ⟨g, o, none⟩ h.1
theorem CellW.put {w : World} {g o : Nat} {v : Value} (h : CellW w g o v) (u : Value) : CellW (w.setCell ⟨g, o, none⟩ u) g o u :=
  ⟨World.cell?_setCell_same _ _ _ h.1, by rw [World.frozen?_setCell]; exact h.2⟩
theorem CellW.set {w : World} {g o : Nat} {v : Value} (h : CellW w g o v) {g' o' : Nat} (hne : g' ≠ g ∨ o' ≠ o) (u : Value) : CellW (w.setCell ⟨g', o', none⟩ u) g o v :=
  ⟨by rw [World.cell?_setCell_other (h := fun e => by injection e with e1 e2; rcases hne with h | h; exact h e1; exact h e2)]; exact h.1, by rw [World.frozen?_setCell]; exact h.2⟩
/-- attributes in a row that may be written -/
def AlLay (w : World) (a : Nat) : Nat → List (ByteArray × ByteArray) → Prop
  | _, [] => True
  | o, x :: r => CellW w a o (.string x.1) ∧ CellW w a (o + 1) (.string x.2) ∧ x.1.size ≤ maxLen ∧ x.2.size ≤ maxLen ∧ AlLay w a (o + 2) r
theorem AlLay.same {w w' : World} {a : Nat} (hb : w'.heap[a]? = w.heap[a]?) : ∀ {al : List (ByteArray × ByteArray)} {o : Nat}, AlLay w a o al → AlLay w' a o al
  | [], _, _ => trivial
  | _ :: _, _, ⟨h1, h2, h3, h4, h5⟩ => ⟨h1.same hb, h2.same hb, h3, h4, AlLay.same hb h5⟩
theorem AlLay.at {w : World} {a : Nat} : ∀ {al : List (ByteArray × ByteArray)} {o : Nat}, AlLay w a o al → AsAt w a o al
  | [], _, _ => trivial
  | _ :: _, _, ⟨h1, h2, h3, h4, h5⟩ => ⟨h1.1, h2.1, h3, h4, AlLay.at h5⟩
/-- .. with the block that it has, if it has one -/
def AlRow (w : World) (A : Option Addr) (al : List (ByteArray × ByteArray)) (ba : List Nat) : Prop := (al = [] ∧ ba = []) ∨ ∃ a, A = some ⟨a, 0, none⟩ ∧ ba = [a] ∧ AlLay w a 0 al
theorem AlRow.same {w w' : World} {A : Option Addr} {al : List (ByteArray × ByteArray)} {ba : List Nat} (h : AlRow w A al ba) (hb : ∀ k ∈ ba, w'.heap[k]? = w.heap[k]?) : AlRow w' A al ba := by
  rcases h with h | ⟨a, h1, h2, h3⟩
  · exact Or.inl h
  · subst h2; exact Or.inr ⟨a, h1, rfl, h3.same (hb a (by simp))⟩
/-- a forest's cells in block g from o on; bl: the blocks of all that it leads to. All may be written. -/
def FoLay (w : World) (g : Nat) : Nat → Fo → List Nat → Prop
  | _, .nil, bl => bl = []
  | o, .cons k sp n t al kids rest, bl => ∃ (A K : Option Addr) (ca ck : Nat) (ba bk br : List Nat), bl = ba ++ bk ++ br ∧
    (CellW w g o (.int .i64 k) ∧ CellW w g (o + 1) (.int .i64 sp) ∧ CellW w g (o + 2) (.string n) ∧ CellW w g (o + 3) (.string t) ∧ n.size ≤ maxLen ∧ t.size ≤ maxLen) ∧
    (CellW w g (o + 4) (.slice A al.length ca) ∧ al.length ≤ ca ∧ al.length ≤ maxLen ∧ AlRow w A al ba) ∧
    (CellW w g (o + 5) (.slice K kids.len ck) ∧ kids.len ≤ ck ∧ kids.len ≤ maxLen ∧ ((kids.len = 0 ∧ bk = []) ∨ ∃ c b', K = some ⟨c, 0, none⟩ ∧ bk = c :: b' ∧ FoLay w c 0 kids b')) ∧
    FoLay w g (o + 6) rest br
theorem FoLay.same {w w' : World} : ∀ {F : Fo} {g o : Nat} {bl : List Nat}, FoLay w g o F bl → w'.heap[g]? = w.heap[g]? → (∀ k ∈ bl, w'.heap[k]? = w.heap[k]?) → FoLay w' g o F bl
  | .nil, _, _, _, h, _, _ => h
  | .cons k sp n t al kids rest, g, o, bl, ⟨A, K, ca, ck, ba, bk, br, hbl, ⟨c0, c1, c2, c3, z2, z3⟩, ⟨c4, h4, m4, r4⟩, ⟨c5, h5, m5, r5⟩, hr⟩, hg, hb => by
    subst hbl
    refine ⟨A, K, ca, ck, ba, bk, br, rfl, ⟨c0.same hg, c1.same hg, c2.same hg, c3.same hg, z2, z3⟩, ⟨c4.same hg, h4, m4, r4.same fun k hk => hb k (by simp [hk])⟩, ⟨c5.same hg, h5, m5, ?_⟩, hr.same hg fun k hk => hb k (by simp [hk])⟩
    rcases r5 with r5 | ⟨c, b', e1, e2, e3⟩
    · exact Or.inl r5
    · subst e2
      exact Or.inr ⟨c, b', e1, rfl, FoLay.same e3 (hb c (by simp)) fun k hk => hb k (by simp [hk])⟩
/-- as it is read -/
theorem FoLay.at {w : World} {lo hi : Nat} : ∀ {F : Fo} {g o : Nat} {bl : List Nat}, FoLay w g o F bl → (∀ k ∈ bl, lo ≤ k ∧ k < hi) → FoAt w lo hi g o F
  | .nil, _, _, _, _, _ => trivial
  | .cons k sp n t al kids rest, g, o, bl, ⟨A, K, ca, ck, ba, bk, br, hbl, ⟨c0, c1, c2, c3, z2, z3⟩, ⟨c4, h4, m4, r4⟩, ⟨c5, h5, m5, r5⟩, hr⟩, hb => by
    subst hbl
    refine ⟨⟨c0.1, c1.1, c2.1, c3.1, z2, z3⟩, ?_, ?_, hr.at fun k hk => hb k (by simp [hk])⟩
    · rcases r4 with ⟨e1, e2⟩ | ⟨a, e1, e2, e3⟩
      · subst e1
        exact ⟨A, ca, 0, 0, c4.1, ⟨h4, m4, fun h => absurd h (Nat.lt_irrefl _)⟩, trivial⟩
      · subst e2
        have := hb a (by simp)
        exact ⟨A, ca, a, 0, c4.1, ⟨h4, m4, fun _ => ⟨e1, this.1, this.2⟩⟩, e3.at⟩
    · rcases r5 with ⟨e1, e2⟩ | ⟨c, b', e1, e2, e3⟩
      · cases kids with
        | cons _ _ _ _ _ _ _ => simp [Fo.len] at e1
        | nil => exact ⟨K, ck, 0, 0, c5.1, ⟨h5, m5, fun h => absurd h (Nat.lt_irrefl _)⟩, trivial⟩
      · subst e2
        have := hb c (by simp)
        exact ⟨K, ck, c, 0, c5.1, ⟨h5, m5, fun _ => ⟨e1, this.1, this.2⟩⟩, FoLay.at e3 fun k hk => hb k (by simp [hk])⟩
theorem FoLay.app {w : World} : ∀ {F G : Fo} {g o : Nat} {b1 b2 : List Nat}, FoLay w g o F b1 → FoLay w g (o + 6 * F.len) G b2 → FoLay w g o (F.app G) (b1 ++ b2)
  | .nil, G, g, o, b1, b2, h, hG => by
    have h : b1 = [] := h
    subst h; simpa [Fo.app, Fo.len] using hG
  | .cons k sp n t al kids r, G, g, o, b1, b2, ⟨A, K, ca, ck, ba, bk, br, hbl, h1, h2, h3, h4⟩, hG => by
    subst hbl
    refine ⟨A, K, ca, ck, ba, bk, br ++ b2, by simp [List.append_assoc], h1, h2, h3, FoLay.app h4 ?_⟩
    simp only [Fo.len] at hG
    rw [show o + 6 + 6 * r.len = o + 6 * (r.len + 1) by omega]; exact hG
/-- a forest of its own: its row is block g; no two of its rows are one; all from B on -/
def Own (w : World) (B g : Nat) (F : Fo) (bl : List Nat) : Prop := B ≤ g ∧ g < w.heap.size ∧ FoLay w g 0 F bl ∧ (g :: bl).Nodup ∧ ∀ k ∈ bl, B ≤ k ∧ k < w.heap.size
theorem Own.same {w w' : World} {B g : Nat} {F : Fo} {bl : List Nat} (h : Own w B g F bl) (hs : w.heap.size ≤ w'.heap.size) (hb : ∀ k, k = g ∨ k ∈ bl → w'.heap[k]? = w.heap[k]?) : Own w' B g F bl :=
  ⟨h.1, Nat.lt_of_lt_of_le h.2.1 hs, h.2.2.1.same (hb g (Or.inl rfl)) fun k hk => hb k (Or.inr hk), h.2.2.2.1, fun k hk => ⟨(h.2.2.2.2 k hk).1, Nat.lt_of_lt_of_le (h.2.2.2.2 k hk).2 hs⟩⟩
theorem Own.next {w w' : World} {B g : Nat} {F : Fo} {bl : List Nat} (h : Own w B g F bl) (hB : Below w.heap.size w w') : Own w' B g F bl :=
  h.same hB.size fun k hk => hB.block k (by rcases hk with rfl | hk; exact h.2.1; exact (h.2.2.2.2 k hk).2)
theorem Own.at {w : World} {B g : Nat} {F : Fo} {bl : List Nat} (h : Own w B g F bl) : FoAt w B w.heap.size g 0 F := h.2.2.1.at h.2.2.2.2
theorem Own.row {w : World} {B g : Nat} {F : Fo} {bl : List Nat} (h : Own w B g F bl) (hl : F.len ≤ maxLen) : RowAt B w.heap.size (some ⟨g, 0, none⟩) F.len g 0 := ⟨hl, fun _ => ⟨rfl, h.1, h.2.1⟩⟩
end Go.Proofs.YthdkkpbhijlpaaaGreat
namespace Go.Proofs.YthdkkpbhijlpaaaGreat
open Go.ChangeShapes Go.WideShapes Go.ChangeAt Go.RowKit Go.Deep

theorem AlLay.set {w : World} {a : Nat} : ∀ {al : List (ByteArray × ByteArray)} {o : Nat} {g' o' : Nat}, AlLay w a o al → (g' ≠ a ∨ o + 2 * al.length ≤ o') → ∀ u, AlLay (w.setCell ⟨g', o', none⟩ u) a o al
  | [], _, _, _, _, _, _ => trivial
  | x :: r, o, g', o', ⟨h1, h2, h3, h4, h5⟩, hne, u => by
    simp only [List.length_cons] at hne
    exact ⟨h1.set (hne.imp id fun h => by omega) u, h2.set (hne.imp id fun h => by omega) u, h3, h4, AlLay.set h5 (hne.imp id fun h => by omega) u⟩
theorem AlLay.app {w : World} {a : Nat} : ∀ {p q : List (ByteArray × ByteArray)} {o : Nat}, AlLay w a o p → AlLay w a (o + 2 * p.length) q → AlLay w a o (p ++ q)
  | [], _, _, _, h => by simpa using h
  | x :: p, q, o, ⟨h1, h2, h3, h4, h5⟩, h => ⟨h1, h2, h3, h4, AlLay.app h5 (by simp at h; rw [show o + 2 + 2 * p.length = o + 2 * (p.length + 1) by omega]; exact h)⟩
theorem CellW.sets {w : World} {g o : Nat} {v : Value} (h : CellW w g o v) {g' : Nat} : ∀ (vs : List Value) (o' : Nat), (g' ≠ g ∨ o < o') → CellW (w.setCells g' o' vs) g o v := by
  intro vs
  induction vs generalizing w with
  | nil => intro _ _; exact h
  | cons u r ih => intro o' hne; exact ih (h.set (hne.imp id fun h => by omega) u) (o' + 1) (hne.imp id fun h => by omega)
theorem heap_setCells {g k : Nat} (hk : k ≠ g) : ∀ (vs : List Value) (o : Nat) (w : World), (w.setCells g o vs).heap[k]? = w.heap[k]?
  | [], _, _ => rfl
  | v :: r, o, w => by rw [World.setCells, heap_setCells hk r]; exact Below.heap_setCell _ _ _ _ hk
/-- behind a write further on in the forest's own row -/
theorem FoLay.sets {w : World} : ∀ {F : Fo} {g o m : Nat} {bl : List Nat}, FoLay w g o F bl → o + 6 * F.len ≤ m → g ∉ bl → ∀ vs, FoLay (w.setCells g m vs) g o F bl
  | .nil, _, _, _, _, h, _, _, _ => h
  | .cons k sp n t al kids rest, g, o, m, bl, ⟨A, K, ca, ck, ba, bk, br, hbl, ⟨c0, c1, c2, c3, z2, z3⟩, ⟨c4, h4, m4, r4⟩, ⟨c5, h5, m5, r5⟩, hr⟩, hm, hg, vs => by
    subst hbl
    simp only [Fo.len] at hm
    have hk : ∀ k ∈ ba ++ bk ++ br, (w.setCells g m vs).heap[k]? = w.heap[k]? := fun k hk => heap_setCells (fun e => hg (by rw [← e]; exact hk)) vs m w
    refine ⟨A, K, ca, ck, ba, bk, br, rfl, ⟨c0.sets vs m (Or.inr (by omega)), c1.sets vs m (Or.inr (by omega)), c2.sets vs m (Or.inr (by omega)), c3.sets vs m (Or.inr (by omega)), z2, z3⟩, ⟨c4.sets vs m (Or.inr (by omega)), h4, m4, r4.same fun k h => hk k (by simp [h])⟩,
      ⟨c5.sets vs m (Or.inr (by omega)), h5, m5, ?_⟩, hr.sets (by omega) (fun h => hg (by simp [h])) vs⟩
    rcases r5 with r5 | ⟨c, b', e1, e2, e3⟩
    · exact Or.inl r5
    · subst e2
      exact Or.inr ⟨c, b', e1, rfl, e3.same (hk c (by simp)) fun k h => hk k (by simp [h])⟩
theorem FoLay.one {w : World} {g m n : Nat} {k sp : Int} {nm t : ByteArray} {al : List (ByteArray × ByteArray)} {kids : Fo} {a c B : Nat} {bl : List Nat} (hr : Room w g n) (hm : m + 6 ≤ n)
    (h1 : nm.size ≤ maxLen) (h2 : t.size ≤ maxLen) (hl : al.length ≤ maxLen) (hkl : kids.len ≤ maxLen) (hal : AlLay w a 0 al) (hk : Own w B c kids bl) (ha : g < a) (hc : g < c) (hb : g < B) :
    FoLay (w.setCells g m [.int .i64 k, .int .i64 sp, .string nm, .string t, .slice (some ⟨a, 0, none⟩) al.length al.length, .slice (some ⟨c, 0, none⟩) kids.len kids.len]) g m (.one k sp nm t al kids) ([a] ++ (c :: bl) ++ []) := by
  have hin := World.cell?_setCells_in g [.int .i64 k, .int .i64 sp, .string nm, .string t, .slice (some ⟨a, 0, none⟩) al.length al.length, .slice (some ⟨c, 0, none⟩) kids.len kids.len] m w (fun j hj => by
    obtain ⟨⟨v, hv⟩, _⟩ := hr (m + j) (by simp at hj; omega)
    rw [hv]; rfl)
  have hfz : ∀ j, j < 6 → (w.setCells g m [.int .i64 k, .int .i64 sp, .string nm, .string t, .slice (some ⟨a, 0, none⟩) al.length al.length, .slice (some ⟨c, 0, none⟩) kids.len kids.len]).frozen? ⟨g, m + j, none⟩ = false := fun j hj => by
    simp only [World.setCells, World.frozen?_setCell]
    exact (hr (m + j) (by omega)).2
  have hout : ∀ b, b ≠ g → (w.setCells g m [.int .i64 k, .int .i64 sp, .string nm, .string t, .slice (some ⟨a, 0, none⟩) al.length al.length, .slice (some ⟨c, 0, none⟩) kids.len kids.len]).heap[b]? = w.heap[b]? := fun b hb => heap_setCells hb _ _ _
  refine ⟨some ⟨a, 0, none⟩, some ⟨c, 0, none⟩, al.length, kids.len, [a], c :: bl, [], rfl, ⟨⟨hin 0 (by simp), hfz 0 (by omega)⟩, ⟨hin 1 (by simp), hfz 1 (by omega)⟩, ⟨hin 2 (by simp), hfz 2 (by omega)⟩, ⟨hin 3 (by simp), hfz 3 (by omega)⟩, h1, h2⟩,
    ⟨⟨hin 4 (by simp), hfz 4 (by omega)⟩, Nat.le_refl _, hl, Or.inr ⟨a, rfl, rfl, hal.same (hout a (by omega))⟩⟩, ⟨⟨hin 5 (by simp), hfz 5 (by omega)⟩, Nat.le_refl _, hkl, Or.inr ⟨c, bl, rfl, rfl, hk.2.2.1.same (hout c (by omega)) fun k h => hout k (by have := (hk.2.2.2.2 k h).1; omega)⟩⟩, rfl⟩
theorem toAttrS_lay (al : List (ByteArray × ByteArray)) (w : World) (A : Option Addr) (c b o hi : Nat) (hA : RowAt 0 hi A al.length b o) (hl : al.length ≤ 1048576) (hh : hi ≤ w.heap.size) (hal : AsAt w b o al) :
    Calls Tryz.prog 73 #[.slice A al.length c] w fun e w' => e = .returned (.slice (some ⟨w.heap.size, 0, none⟩) al.length al.length) ∧ Below w.heap.size w w' ∧ w.heap.size < w'.heap.size ∧ AlLay w' w.heap.size 0 al := by
  have HA := Lib.hid hA
  have HS := Lib.hid hal
  have hmk := make_attrs al.length hl
  clear hA hal
  go_enter Tryz.func73, Tryz.ntmps73
  go_wp2
  go_loopw [4] (fun i wr => ∃ (k : Nat) (pre suf : List (ByteArray × ByteArray)), i = .int .i64 (k : Int) ∧ al = pre ++ suf ∧ pre.length = k ∧
    Hid (AsAt w b (o + k * 2) suf ∧ Below w.heap.size w wr ∧ w.heap.size < wr.heap.size ∧ AlLay wr w.heap.size 0 pre ∧ Room wr w.heap.size (al.length * 2))) (fun i wr => al.length - (intOf i).toNat)
  case atStart => exact ⟨0, [], al, rfl, rfl, rfl, Lib.hid ⟨by simpa using HS.out, (Below.refl _ _).alloc (Nat.le_refl _) _, by simp, trivial, room_made _ _ _ _⟩⟩
  case round =>
    obtain ⟨k, pre, suf, rfl, hp, hk, HH⟩ := hrel
    have HP := Lib.hid hp
    cases suf with
    | nil =>
      have hkl : k = al.length := by rw [hp]; simp [hk]
      clear hp hk
      subst hkl
      go_wp2
      go_ret
      exact ⟨rfl, HH.out.2.1, HH.out.2.2.1, by have := HH.out.2.2.2.1; rw [HP.out]; simpa using this⟩
    | cons x r =>
      have hkl : k < al.length := by rw [hp]; simp [hk]
      obtain ⟨⟨s1, s2, s3, s4, s5⟩, hB, hg, hpre, hroom⟩ := HH.out
      obtain ⟨rfl, hlo, hhi⟩ := HA.out.2 (by omega)
      have t1 := (hB.cell (p := ⟨b, o + k * 2, none⟩) (by show b < _; omega)).trans s1
      have t2 := (hB.cell (p := ⟨b, o + k * 2 + 1, none⟩) (by show b < _; omega)).trans s2
      have H5 := Lib.hid s5
      have HB := Lib.hid hB
      have HK := Lib.hid hk
      have HPR := Lib.hid hpre
      have HRO := Lib.hid hroom
      clear HH s1 s2 s5 hB hp hk hpre hroom
      go_wp2_with (go_at_call 121; go_loud (refine (toAttr_any x _ s3 s4).mono ?_; rintro e w' ⟨rfl, hB'⟩; obtain ⟨⟨v0, e0⟩, f0⟩ := (HRO.out.below hB' hg) (k * 2) (by omega); obtain ⟨⟨v1, e1⟩, f1⟩ := (HRO.out.below hB' hg) (k * 2 + 1) (by omega); have HB' := Lib.hid hB'; clear hB'))
      go_roundw
      case rel =>
        have hB' := HB'.out
        have hg' : w.heap.size < w'.heap.size := Nat.lt_of_lt_of_le hg hB'.size
        have hP' := HPR.out.same (w' := w') (hB'.block _ hg)
        have hpl := HK.out
        refine ⟨k + 1, pre ++ [x], r, by go_num, by rw [HP.out]; simp, by simp [HK.out], Lib.hid ⟨by rw [show o + (k + 1) * 2 = o + k * 2 + 2 by omega]; exact H5.out, ((HB.out.trans (hB'.mono HB.out.size)).setCell (p := ⟨_, _, none⟩) (Nat.le_refl _) _).setCell (p := ⟨_, _, none⟩) (Nat.le_refl _) _, by simpa using hg', ?_, ((HRO.out.below hB' hg).set _ _).set _ _⟩⟩
        refine AlLay.app ((hP'.set (Or.inr (by omega)) _).set (Or.inr (by omega)) _) ⟨?_, ?_, s3, s4, trivial⟩
        · rw [show 0 + 2 * pre.length = k * 2 by omega]
          exact (CellW.put ⟨e0, f0⟩ _).set (Or.inr (by omega)) _
        · rw [show 0 + 2 * pre.length + 1 = k * 2 + 1 by omega]
          exact CellW.put (v := v1) (CellW.set ⟨e1, f1⟩ (Or.inr (by omega)) _) _
      case measure => simp [intOf]; omega
def ToLay (F : Fo) : Prop := ∀ (w : World) (A : Option Addr) (c b o hi : Nat), F.small → F.len ≤ 1048576 → RowAt 0 hi A F.len b o → hi ≤ w.heap.size → FoAt w 0 hi b o F →
    Calls Tryz.prog 11 #[.slice A F.len c] w fun e w' => ∃ bl, e = .returned (.slice (some ⟨w.heap.size, 0, none⟩) F.len F.len) ∧ Below w.heap.size w w' ∧ Own w' w.heap.size w.heap.size F bl
theorem toNode_lay (k sp : Int) (n t : ByteArray) (al : List (ByteArray × ByteArray)) (kids : Fo) (ih : ToLay kids) (w : World) (A K : Option Addr) (c kc b o kb ko hi : Nat) (hs : kids.small) (hkl : kids.len ≤ 1048576) (hll : al.length ≤ 1048576)
    (_ : n.size ≤ maxLen) (_ : t.size ≤ maxLen) (hA : RowAt 0 hi A al.length b o) (hal : AsAt w b o al) (hK : RowAt 0 hi K kids.len kb ko) (hk : FoAt w 0 hi kb ko kids) (hh : hi ≤ w.heap.size) :
    Calls Tryz.prog 35 #[.agg #[.int .i64 k, .int .i64 sp, .string n, .string t, .slice A al.length c, .slice K kids.len kc]] w fun e w' =>
      ∃ g g' bl, e = .returned (.agg #[.int .i64 k, .int .i64 sp, .string n, .string t, .slice (some ⟨g, 0, none⟩) al.length al.length, .slice (some ⟨g', 0, none⟩) kids.len kids.len]) ∧ Below w.heap.size w w' ∧
        AlLay w' g 0 al ∧ w.heap.size ≤ g ∧ g < g' ∧ Own w' (g + 1) g' kids bl := by
  have HA := Lib.hid hA
  have HN := Lib.hid hal
  have HF := Lib.hid hk
  have HI := Lib.hid ih
  have HK := Lib.hid hK
  clear hal ih hk hA hK
  go_enter Tryz.func35, Tryz.ntmps35
  go_wp2_with (first
    | (go_at_call 73; go_loud (refine (toAttrS_lay al _ A c b o hi HA.out hll ?a1 ?a2).mono ?a3; (case a1 => (simp; omega)); (case a2 => exact al_below HA.out HN.out (by go_grown) hh); rintro e w' ⟨rfl, hB', hlt, hat⟩; simp only [World.size_alloc] at hB' hlt hat ⊢; obtain ⟨L1, L2, L3, B3⟩ := three_lay hB'; have r5 := L1.1 5; have e4 := L3.1 4; have f4 := L3.2 4; have K1 := Lib.hid L1; have K2 := Lib.hid L2; have K3 := Lib.hid L3; have KB := Lib.hid B3; have KA := Lib.hid hat; have KL := Lib.hid hlt; have KB' := Lib.hid hB'; clear L1 L2 L3 B3 hat hB' hlt; simp at r5 e4))
    | (go_at_call 11; go_loud (refine (HI.out _ K kc kb ko hi hs hkl HK.out ?b1 ?b2).mono ?b3; (case b1 => (have := KB.out.size; simp; omega)); (case b2 => exact FoAt.below HK.out HF.out (KB.out.setCell (p := ⟨_, _, none⟩) (by show w.heap.size ≤ w.heap.size + 1 + 1; omega) _) hh); rintro e w'' ⟨bl, rfl, hC, hfo⟩; simp only [World.size_setCell] at hC hfo ⊢; have hlt2 := hfo.2.1; have M3 := (K3.out.set 4 (.slice (some ⟨w.heap.size + 1 + 1 + 1, 0, none⟩) al.length al.length)).below hC (by have := KL.out; omega); have M2 := (K2.out.setOther (g' := w.heap.size + 1 + 1) (by omega) 4 (.slice (some ⟨w.heap.size + 1 + 1 + 1, 0, none⟩) al.length al.length)).below hC (by have := KL.out; omega); simp at M3; have m0 := M3.1; have m1 := M3.2; have n0 := M2.1; have n1 := M2.2; have KC := Lib.hid hC; have KF := Lib.hid hfo; have KL2 := Lib.hid hlt2; clear M3 M2 hC hfo hlt2))
    )
  (try simp only [Exit.inBlock, Exit.then])
  have M2 : Lay w'' (w.heap.size + 1) _ := ⟨n0, n1⟩
  have M3 := ((((((M2.setOther (g' := w.heap.size + 1 + 1) (by omega) 5 (.slice (some ⟨w'.heap.size, 0, none⟩) kids.len kids.len)).set 0 (.int .i64 k)).set 1 (.int .i64 sp)).set 2 (.string n)).set 3 (.string t)).set 4 (.slice (some ⟨w.heap.size + 1 + 1 + 1, 0, none⟩) al.length al.length)).set 5 (.slice (some ⟨w'.heap.size, 0, none⟩) kids.len kids.len)
  have hC := KC.out
  have hKL := KL.out
  have hKL2 := KL2.out
  have hno : ∀ (b : Nat), w.heap.size + 1 + 1 < b → ((((((((w''.setCell ⟨w.heap.size + 1 + 1, 5, none⟩ (.slice (some ⟨w'.heap.size, 0, none⟩) kids.len kids.len)).setCell ⟨w.heap.size + 1, 0, none⟩ (.int .i64 k)).setCell ⟨w.heap.size + 1, 1, none⟩ (.int .i64 sp)).setCell ⟨w.heap.size + 1, 2, none⟩ (.string n)).setCell ⟨w.heap.size + 1, 3, none⟩ (.string t)).setCell ⟨w.heap.size + 1, 4, none⟩ (.slice (some ⟨w.heap.size + 1 + 1 + 1, 0, none⟩) al.length al.length)).setCell ⟨w.heap.size + 1, 5, none⟩ (.slice (some ⟨w'.heap.size, 0, none⟩) kids.len kids.len)).heap[b]?) = w''.heap[b]? := fun b h => by
    have p1 : b ≠ w.heap.size + 1 := by omega
    have p2 : b ≠ w.heap.size + 1 + 1 := by omega
    rw [Below.heap_setCell _ _ _ _ p1, Below.heap_setCell _ _ _ _ p1, Below.heap_setCell _ _ _ _ p1, Below.heap_setCell _ _ _ _ p1, Below.heap_setCell _ _ _ _ p1, Below.heap_setCell _ _ _ _ p1, Below.heap_setCell _ _ _ _ p2]
  refine ret_node rfl M3 rfl rfl ⟨_, _, bl, rfl, ?_, ?_, ?_, ?_, ?_⟩
  · refine Below.trans (b := w'') (KB.out.trans (Below.trans (b := w'.setCell ⟨w.heap.size + 1 + 1, 4, none⟩ (.slice (some ⟨w.heap.size + 1 + 1 + 1, 0, none⟩) al.length al.length)) ((Below.refl _ _).setCell (p := ⟨_, _, none⟩) (by show w.heap.size ≤ w.heap.size + 1 + 1; omega) _) (hC.mono KB.out.size))) ?_
    go_grown
  · refine (KA.out.same (w' := w'') ?_).same (hno _ (by omega))
    rw [hC.block _ hKL, Below.heap_setCell _ _ _ _ (by show w.heap.size + 1 + 1 + 1 ≠ w.heap.size + 1 + 1; omega)]
  · omega
  · omega
  · have hf := KF.out
    refine Own.same ⟨by omega, hf.2.1, hf.2.2.1, hf.2.2.2.1, fun k hk => ⟨by have := (hf.2.2.2.2 k hk).1; omega, (hf.2.2.2.2 k hk).2⟩⟩ (by simp) fun b hb => hno b (by rcases hb with rfl | hb; omega; have := (hf.2.2.2.2 b hb).1; omega)
theorem toNodeS_lay_lt : ∀ (N : Nat) (F : Fo), F.nodes < N → ToLay F := by
  intro N
  induction N with
  | zero => intro F hF; omega
  | succ N IH =>
  intro F hF w A c b o hi hsm hl hA hh hFo
  have HA := Lib.hid hA
  have HS := Lib.hid hFo
  have HF := Lib.hid hF
  have HI := Lib.hid IH
  have HSM := Lib.hid hsm
  have hmk := make_nodes F.len hl
  clear hA hFo hF IH hsm
  go_enter Tryz.func11, Tryz.ntmps11
  go_wp2
  go_loopw [4] (fun i wr => ∃ (k : Nat) (pre suf : Fo), i = .int .i64 (k : Int) ∧ F = pre.app suf ∧ pre.len = k ∧
    Hid (FoAt w 0 hi b (o + k * 6) suf ∧ Below w.heap.size w wr ∧ w.heap.size < wr.heap.size ∧ (∃ bl, FoLay wr w.heap.size 0 pre bl ∧ bl.Nodup ∧ ∀ k ∈ bl, w.heap.size < k ∧ k < wr.heap.size) ∧ Room wr w.heap.size (F.len * 6) ∧ suf.nodes < N + 1)) (fun i wr => F.len - (intOf i).toNat)
  case atStart => exact ⟨0, .nil, F, rfl, rfl, rfl, Lib.hid ⟨by simpa using HS.out, (Below.refl _ _).alloc (Nat.le_refl _) _, by simp, ⟨[], rfl, List.nodup_nil, fun _ h => by cases h⟩, room_made _ _ _ _, HF.out⟩⟩
  case round =>
    obtain ⟨k, pre, suf, rfl, hp, hk, HH⟩ := hrel
    have HP := Lib.hid hp
    cases suf with
    | nil =>
      have hkl : k = F.len := by rw [hp, Fo.app_nil, hk]
      clear hp hk
      subst hkl
      go_wp2
      go_ret
      obtain ⟨_, hB, hg, ⟨bl, b1, b2, b3⟩, _, _⟩ := HH.out
      have hp := HP.out
      rw [Fo.app_nil] at hp
      exact ⟨bl, rfl, hB, Nat.le_refl _, hg, by rw [hp]; exact b1, List.nodup_cons.2 ⟨fun h => absurd (b3 _ h).1 (Nat.lt_irrefl _), b2⟩, fun k hk => ⟨Nat.le_of_lt (b3 k hk).1, (b3 k hk).2⟩⟩
    | cons xk xs xn xt xa kids r =>
      have hkl : k < F.len := by rw [hp, Fo.len_app, hk]; simp [Fo.len]
      obtain ⟨⟨⟨s0, s1, s2, s3, z2, z3⟩, ⟨A4, c4, b4, o4, s4, r4, a4⟩, ⟨A5, c5, b5, o5, s5, r5, a5⟩, sr⟩, hB, hg, hpre, hroom, hnd⟩ := HH.out
      replace r4 := r4.2
      replace r5 := r5.2
      obtain ⟨rfl, hlo, hhi⟩ := HA.out.2 (by omega)
      have hb : b < w.heap.size := by omega
      have t0 := (hB.cell (p := ⟨b, _, none⟩) hb).trans s0
      have t1 := (hB.cell (p := ⟨b, _, none⟩) hb).trans s1
      have t2 := (hB.cell (p := ⟨b, _, none⟩) hb).trans s2
      have t3 := (hB.cell (p := ⟨b, _, none⟩) hb).trans s3
      have t4 := (hB.cell (p := ⟨b, _, none⟩) hb).trans s4
      have t5 := (hB.cell (p := ⟨b, _, none⟩) hb).trans s5
      have HSM' : Hid (xa.length ≤ 1048576 ∧ kids.len ≤ 1048576 ∧ kids.small ∧ r.small) := by have := HSM.out; rw [hp] at this; exact Fo.small_app pre this
      have HR := Lib.hid sr
      have HB := Lib.hid hB
      have H4 := Lib.hid a4
      have H5 := Lib.hid a5
      have R4 := Lib.hid r4
      have R5 := Lib.hid r5
      have HND := Lib.hid hnd
      have HK := Lib.hid hk
      have HPR := Lib.hid hpre
      have HRO := Lib.hid hroom
      clear HH s0 s1 s2 s3 s4 s5 sr hB hnd a4 a5 r4 r5 hp hk hpre hroom
      go_wp2_with (go_at_call 35; go_loud (refine (toNode_lay xk xs xn xt xa kids (HI.out kids (by have := HND.out; simp [Fo.nodes] at this; omega)) _ A4 A5 c4 c5 b4 o4 b5 o5 hi HSM'.out.2.2.1 HSM'.out.2.1 HSM'.out.1 z2 z3 R4.out (al_below R4.out H4.out HB.out hh) R5.out (FoAt.below R5.out H5.out HB.out hh) (Nat.le_trans hh HB.out.size)).mono ?_; rintro e w' ⟨g1, g2, b2, rfl, hB', hat, l1, l2, hfo⟩; obtain ⟨⟨v0, e0⟩, f0⟩ := (HRO.out.below hB' hg) (k * 6) (by omega); obtain ⟨⟨v1, e1⟩, f1⟩ := (HRO.out.below hB' hg) (k * 6 + 1) (by omega); obtain ⟨⟨v2, e2⟩, f2⟩ := (HRO.out.below hB' hg) (k * 6 + 2) (by omega); obtain ⟨⟨v3, e3⟩, f3⟩ := (HRO.out.below hB' hg) (k * 6 + 3) (by omega); obtain ⟨⟨v4, e4⟩, f4⟩ := (HRO.out.below hB' hg) (k * 6 + 4) (by omega); obtain ⟨⟨v5, e5⟩, f5⟩ := (HRO.out.below hB' hg) (k * 6 + 5) (by omega); have HB' := Lib.hid hB'; have HAT := Lib.hid hat; have HFO := Lib.hid hfo; have HLL := Lib.hid (And.intro l1 l2); clear hB' hat hfo l1 l2))
      go_roundw
      case rel =>
        refine ⟨k + 1, pre.app (.one xk xs xn xt xa kids), r, by go_num, by rw [HP.out, Fo.app_assoc]; rfl, by rw [Fo.len_app, HK.out]; rfl, Lib.hid ⟨by rw [show o + (k + 1) * 6 = o + k * 6 + 6 by omega]; exact HR.out, ?_⟩⟩
        have hB' := HB'.out
        obtain ⟨l1, l2⟩ := HLL.out
        have hs' := hB'.size
        have hrw := HRO.out.below hB' hg
        have hpl := HK.out
        obtain ⟨bl, b1, b2', b3⟩ := HPR.out
        have hfo := HFO.out
        have hF1 := b1.same (w' := w') (hB'.block _ hg) (fun k hk => hB'.block k (b3 k hk).2)
        have key : Below w.heap.size w (w'.setCells w.heap.size (k * 6) [.int .i64 xk, .int .i64 xs, .string xn, .string xt, .slice (some ⟨g1, 0, none⟩) xa.length xa.length, .slice (some ⟨g2, 0, none⟩) kids.len kids.len]) ∧
            w.heap.size < (w'.setCells w.heap.size (k * 6) [.int .i64 xk, .int .i64 xs, .string xn, .string xt, .slice (some ⟨g1, 0, none⟩) xa.length xa.length, .slice (some ⟨g2, 0, none⟩) kids.len kids.len]).heap.size ∧
            (∃ bl, FoLay (w'.setCells w.heap.size (k * 6) [.int .i64 xk, .int .i64 xs, .string xn, .string xt, .slice (some ⟨g1, 0, none⟩) xa.length xa.length, .slice (some ⟨g2, 0, none⟩) kids.len kids.len]) w.heap.size 0 (pre.app (.one xk xs xn xt xa kids)) bl ∧ bl.Nodup ∧ ∀ k_1 ∈ bl, w.heap.size < k_1 ∧ k_1 < (w'.setCells w.heap.size (k * 6) [.int .i64 xk, .int .i64 xs, .string xn, .string xt, .slice (some ⟨g1, 0, none⟩) xa.length xa.length, .slice (some ⟨g2, 0, none⟩) kids.len kids.len]).heap.size) ∧
            Room (w'.setCells w.heap.size (k * 6) [.int .i64 xk, .int .i64 xs, .string xn, .string xt, .slice (some ⟨g1, 0, none⟩) xa.length xa.length, .slice (some ⟨g2, 0, none⟩) kids.len kids.len]) w.heap.size (F.len * 6) ∧ r.nodes < N + 1 := by
          rw [size_setCells]
          refine ⟨(HB.out.trans (hB'.mono HB.out.size)).trans (below_setCells (Nat.le_refl _) _ _ _), by omega, ⟨bl ++ ([g1] ++ (g2 :: b2) ++ []), ?_, ?_, ?_⟩, hrw.sets _ _, by have := HND.out; simp [Fo.nodes] at this; omega⟩
          · refine FoLay.app (hF1.sets (by rw [hpl]; omega) (fun h => absurd (b3 _ h).1 (Nat.lt_irrefl _)) _) ?_
            rw [hpl, show 0 + 6 * k = k * 6 by omega]
            exact FoLay.one (m := k * 6) (n := F.len * 6) hrw (by omega) z2 z3 (by have := R4.out.1; exact this) (R5.out.1) HAT.out hfo (by omega) (by have := hfo.1; omega) (by omega)
          · have hn := hfo.2.2.2.1
            refine List.nodup_append.2 ⟨b2', ?_, ?_⟩
            · simp only [List.append_nil, List.singleton_append]
              refine List.nodup_cons.2 ⟨?_, hn⟩
              intro hm
              rcases List.mem_cons.1 hm with e | hm
              · omega
              · have := (hfo.2.2.2.2 _ hm).1; omega
            · intro x hx y hy e
              have h1 := (b3 x hx).2
              simp only [List.append_nil, List.singleton_append, List.mem_cons] at hy
              rcases hy with rfl | rfl | hy
              · omega
              · omega
              · have := (hfo.2.2.2.2 _ hy).1; omega
          · intro x hx
            rcases List.mem_append.1 hx with hx | hx
            · have := b3 x hx; omega
            · have h2 := hfo.2.1
              simp only [List.append_nil, List.singleton_append, List.mem_cons] at hx
              rcases hx with rfl | rfl | hx
              · omega
              · omega
              · have := hfo.2.2.2.2 _ hx; omega
        exact key
      case measure => simp [intOf]; omega
theorem toNodeS_lay (F : Fo) : ToLay F := toNodeS_lay_lt (F.nodes + 1) F (Nat.lt_succ_self _)
end Go.Proofs.YthdkkpbhijlpaaaGreat
