
import Derived.Test.YtbcbmgeoaejlmaaFine
namespace Go.Proofs.Ytbcbmgeoaejlmaa
open Go.ChangeShapes Go.WideShapes Go.ChangeAt Go.RowKit Go.Deep

/-- what was there stays, but for the blocks of C -/
structure But (C : Nat → Prop) (w w' : World) : Prop where
  os : w'.os = w.os
  tape : w'.tape = w.tape
  output : w'.output = w.output
  size : w.heap.size ≤ w'.heap.size
  block : ∀ k, k < w.heap.size → ¬ C k → w'.heap[k]? = w.heap[k]?

theorem But.refl (C : Nat → Prop) (w : World) : But C w w := ⟨rfl, rfl, rfl, Nat.le_refl _, fun _ _ _ => rfl⟩
theorem But.trans {C D : Nat → Prop} {a b c : World} (h : But C a b) (k : But D b c) (hD : ∀ i, D i → C i ∨ a.heap.size ≤ i) : But C a c :=
  ⟨k.os.trans h.os, k.tape.trans h.tape, k.output.trans h.output, Nat.le_trans h.size k.size, fun i hi hC =>
    (k.block i (Nat.lt_of_lt_of_le hi h.size) fun d => (hD i d).elim hC fun x => absurd hi (Nat.not_lt.2 x)).trans (h.block i hi hC)⟩
theorem But.mono {C D : Nat → Prop} {w w' : World} (h : But C w w') (hs : ∀ k, C k → D k) : But D w w' := ⟨h.os, h.tape, h.output, h.size, fun k hk hd => h.block k hk fun c => hd (hs k c)⟩
theorem But.of_below {C : Nat → Prop} {w w' : World} (h : Below w.heap.size w w') : But C w w' := ⟨h.os, h.tape, h.output, h.size, fun k hk _ => h.block k hk⟩
theorem But.below {C : Nat → Prop} {w w' : World} {B : Nat} (h : But C w w') (hC : ∀ k, C k → B ≤ k) (hB : B ≤ w.heap.size) : Below B w w' :=
  ⟨h.os, h.tape, h.output, h.size, fun k hk => h.block k (Nat.lt_of_lt_of_le hk hB) fun c => absurd hk (Nat.not_lt.2 (hC k c))⟩
theorem But.drew {C : Nat → Prop} {a w : World} (h : But C a w) : But C a w.drew := ⟨h.os, h.tape, h.output, h.size, h.block⟩
theorem But.cell {C : Nat → Prop} {w w' : World} (h : But C w w') {p : Addr} (hp : p.block < w.heap.size) (hC : ¬ C p.block) : w'.cell? p = w.cell? p := World.cell?_of_block (w := w) (h.block p.block hp hC)
theorem But.frozen {C : Nat → Prop} {w w' : World} (h : But C w w') {p : Addr} (hp : p.block < w.heap.size) (hC : ¬ C p.block) : w'.frozen? p = w.frozen? p := World.frozen?_of_block (w := w) (h.block p.block hp hC)
theorem But.setCell {C : Nat → Prop} {a w : World} (h : But C a w) {p : Addr} (hp : C p.block ∨ a.heap.size ≤ p.block) (u : Value) : But C a (w.setCell p u) :=
  ⟨h.os, h.tape, h.output, by rw [World.size_setCell]; exact h.size, fun k hk hC => (Below.heap_setCell w p u k (by rintro rfl; rcases hp with c | c; exact hC c; omega)).trans (h.block k hk hC)⟩
theorem But.alloc {C : Nat → Prop} {a w : World} (h : But C a w) (o : Obj) : But C a (w.alloc o) :=
  ⟨h.os, h.tape, h.output, by have := h.size; simp; omega, fun k hk hC => (Below.heap_alloc w o k (Nat.lt_of_lt_of_le hk h.size)).trans (h.block k hk hC)⟩
def No (_ : Nat) : Prop := False
theorem But.none {C : Nat → Prop} {w w' : World} (h : But No w w') : But C w w' := h.mono fun _ h => h.elim
theorem But.no {w w' : World} (h : Below w.heap.size w w') : But No w w' := But.of_below h

/-- new blocks at most, and none of them of bytes -/
structure Kin (w w' : World) : Prop where
  but : But No w w'
  new : ∀ k c fz, w.heap.size ≤ k → w'.heap[k]? = some (.cells c 5 fz) → False
theorem Kin.refl (w : World) : Kin w w := ⟨But.refl _ _, fun k c fz hk h => by rw [Array.getElem?_eq_none hk] at h; cases h⟩
theorem Kin.drew {a w : World} (h : Kin a w) : Kin a w.drew := ⟨h.but.drew, h.new⟩
theorem Kin.alloc {a w : World} (h : Kin a w) (cs : Array Value) (t : TypeId) (ht : t ≠ 5) : Kin a (w.alloc (.cells cs t)) := ⟨h.but.alloc _, fun k c fz hk hc => by
  rw [show (w.alloc (.cells cs t)).heap = w.heap.push (.cells cs t) from rfl, Array.getElem?_push] at hc
  split at hc
  · injection hc with hc; injection hc with _ hc _; exact ht hc
  · exact h.new k c fz hk hc⟩

theorem FoAt.but {C : Nat → Prop} {w w' : World} {lo hi : Nat} {A : Option Addr} {F : Fo} {b o : Nat} (hA : RowAt lo hi A F.len b o) (h : FoAt w lo hi b o F) (hB : But C w w') (hh : hi ≤ w.heap.size) (hC : ∀ k, C k → hi ≤ k) : FoAt w' lo hi b o F :=
  h.carry (Nat.le_refl _) (Nat.le_refl _) (fun b o _ h2 => hB.cell (p := ⟨b, o, none⟩) (by show b < _; omega) (fun c => by have := hC _ c; simp at this; omega))
    (fun j hj => hB.cell (p := ⟨b, o + j, none⟩) (by have := (hA.2 (by omega)).2.2; show b < _; omega) (fun c => by have := hC _ c; have := (hA.2 (by omega)).2.2; simp at *; omega))

/-- a node stands at ⟨b, o⟩, but for its kids -/
def NdAt (w : World) (lo hi b o : Nat) (x : Nd) : Prop :=
  (w.cell? ⟨b, o, none⟩ = some (.int .i64 x.k) ∧ w.cell? ⟨b, o + 1, none⟩ = some (.int .i64 x.sp) ∧ w.cell? ⟨b, o + 2, none⟩ = some (.string x.n) ∧ w.cell? ⟨b, o + 3, none⟩ = some (.string x.t) ∧ x.n.size ≤ maxLen ∧ x.t.size ≤ maxLen) ∧
    (∃ A c b' o', w.cell? ⟨b, o + 4, none⟩ = some (.slice A x.al.length c) ∧ RowC lo hi A x.al.length c b' o' ∧ AsAt w b' o' x.al)
theorem AsAt.but {C : Nat → Prop} {w w' : World} {lo hi b o : Nat} {A : Option Addr} {al : List (ByteArray × ByteArray)} (hA : RowAt lo hi A al.length b o) (h : AsAt w b o al) (hB : But C w w') (hh : hi ≤ w.heap.size) (hC : ∀ k, C k → hi ≤ k) : AsAt w' b o al := by
  cases al with
  | nil => trivial
  | cons x r => exact h.carry fun o => hB.cell (p := ⟨b, o, none⟩) (by have := (hA.2 (by simp)).2.2; show b < _; omega) (fun c => by have := hC _ c; have := (hA.2 (by simp)).2.2; simp at *; omega)
theorem NdAt.but {C : Nat → Prop} {w w' : World} {lo hi b o : Nat} {x : Nd} (h : NdAt w lo hi b o x) (hb : b < hi) (hB : But C w w') (hh : hi ≤ w.heap.size) (hC : ∀ k, C k → hi ≤ k) : NdAt w' lo hi b o x := by
  obtain ⟨⟨h0, h1, h2, h3, h4, h5⟩, A, c, b', o', h6, h7, h8⟩ := h
  have e : ∀ j, w'.cell? ⟨b, j, none⟩ = w.cell? ⟨b, j, none⟩ := fun j => hB.cell (p := ⟨b, j, none⟩) (by show b < _; omega) (fun c => by have := hC _ c; simp at this; omega)
  exact ⟨⟨(e _).trans h0, (e _).trans h1, (e _).trans h2, (e _).trans h3, h4, h5⟩, A, c, b', o', (e _).trans h6, h7, h8.but h7.2 hB hh hC⟩

/-- a spot, and those that it lies within -/
def SpotAt (w : World) (C : Nat → Prop) (lo hi : Nat) : Option Addr → List Nd → Prop
  | p, [] => p = none
  | p, x :: r => ∃ g b o q, p = some ⟨g, 0, none⟩ ∧ hi ≤ g ∧ g < w.heap.size ∧ ¬ C g ∧ w.cell? ⟨g, 0, none⟩ = some (.pointer (some ⟨b, o, none⟩)) ∧ w.cell? ⟨g, 2, none⟩ = some (.pointer q) ∧ b < hi ∧ NdAt w lo hi b o x ∧ SpotAt w C lo hi q r
theorem SpotAt.but {C D : Nat → Prop} {w w' : World} {lo hi : Nat} (hB : But C w w') (hh : hi ≤ w.heap.size) (hC : ∀ k, C k → hi ≤ k) (hD : ∀ k, D k → C k ∨ w.heap.size ≤ k) : ∀ {ch : List Nd} {p : Option Addr}, SpotAt w C lo hi p ch → SpotAt w' D lo hi p ch
  | [], _, h => h
  | x :: r, _, ⟨g, b, o, q, h1, h2, h3, h4, h5, h6, h7, h8, h9⟩ =>
    ⟨g, b, o, q, h1, h2, Nat.lt_of_lt_of_le h3 hB.size, fun d => (hD g d).elim h4 fun x => by omega, (hB.cell (p := ⟨g, 0, none⟩) h3 h4).trans h5, (hB.cell (p := ⟨g, 2, none⟩) h3 h4).trans h6, h7, h8.but h7 hB hh hC, SpotAt.but hB hh hC hD h9⟩

/-- what a call of a visitor leaves -/
def Seen {σ : Type} (st : σ → List Nd → σ × Bool) (Inv : σ → (Nat → Prop) → World → Prop) (s : σ) (C : Nat → Prop) (ch : List Nd) (w : World) (e : Ending) (w' : World) : Prop :=
  ∃ D : Nat → Prop, e = .returned (.bool (st s ch).2) ∧ Inv (st s ch).1 D w' ∧ But C w w' ∧ ∀ k, D k → C k ∨ w.heap.size ≤ k
/-- function g, with what it has captured, visits as st says; Inv: its own state, in the blocks C -/
structure Vis (P : Program) (g : Nat) (cap : Array Value) (lo hi : Nat) {σ : Type} (ok : σ → List Nd → Prop) (st : σ → List Nd → σ × Bool) (Inv : σ → (Nat → Prop) → World → Prop) : Prop where
  own : ∀ s C w, Inv s C w → ∀ k, C k → hi ≤ k ∧ k < w.heap.size
  keep : ∀ s C w w', Inv s C w → Kin w w' → Inv s C w'
  call : ∀ s C w q ch, ch ≠ [] → ch.length ≤ 1048576 → ok s ch → Inv s C w → SpotAt w C lo hi q ch → hi ≤ w.heap.size → Calls P g (#[.pointer q] ++ cap) w (Seen st Inv s C ch w)
/-- what a walk over a forest leaves -/
def Gone {σ : Type} (st : σ → List Nd → σ × Bool) (Inv : σ → (Nat → Prop) → World → Prop) (s : σ) (C : Nat → Prop) (ch : List Nd) (F : Fo) (w : World) (e : Ending) (w' : World) : Prop :=
  ∃ D : Nat → Prop, e = .returned (.bool (trav st F ch s).2) ∧ Inv (trav st F ch s).1 D w' ∧ But C w w' ∧ ∀ k, D k → C k ∨ w.heap.size ≤ k
/-- the kids of the node at ⟨b, o⟩ -/
def KidsAt (w : World) (lo hi b o : Nat) (kids : Fo) : Prop := ∃ A c b' o', w.cell? ⟨b, o + 5, none⟩ = some (.slice A kids.len c) ∧ RowC lo hi A kids.len c b' o' ∧ FoAt w lo hi b' o' kids
theorem KidsAt.but {C : Nat → Prop} {w w' : World} {lo hi b o : Nat} {kids : Fo} (h : KidsAt w lo hi b o kids) (hb : b < hi) (hB : But C w w') (hh : hi ≤ w.heap.size) (hC : ∀ k, C k → hi ≤ k) : KidsAt w' lo hi b o kids := by
  obtain ⟨A, c, b', o', h1, h2, h3⟩ := h
  exact ⟨A, c, b', o', (hB.cell (p := ⟨b, o + 5, none⟩) (by show b < _; omega) (fun c => by have := hC _ c; simp at this; omega)).trans h1, h2, h3.but h2.2 hB hh hC⟩
/-- a spot, and those that it lies within, with their places and their kids -/
def SpotP (w : World) (C : Nat → Prop) (lo hi : Nat) : Option Addr → List NP → Prop
  | p, [] => p = none
  | p, x :: r => ∃ g b o q, p = some ⟨g, 0, none⟩ ∧ hi ≤ g ∧ g < w.heap.size ∧ ¬ C g ∧ w.cell? ⟨g, 0, none⟩ = some (.pointer (some ⟨b, o, none⟩)) ∧ w.cell? ⟨g, 2, none⟩ = some (.pointer q) ∧ b < hi ∧ NdAt w lo hi b o x.1 ∧ w.cell? ⟨g, 1, none⟩ = some (.int .i64 (x.2.1 : Int)) ∧ KidsAt w lo hi b o x.2.2 ∧ SpotP w C lo hi q r
theorem SpotP.but {C D : Nat → Prop} {w w' : World} {lo hi : Nat} (hB : But C w w') (hh : hi ≤ w.heap.size) (hC : ∀ k, C k → hi ≤ k) (hD : ∀ k, D k → C k ∨ w.heap.size ≤ k) : ∀ {ch : List NP} {p : Option Addr}, SpotP w C lo hi p ch → SpotP w' D lo hi p ch
  | [], _, h => h
  | x :: r, _, ⟨g, b, o, q, h1, h2, h3, h4, h5, h6, h7, h8, h8', hk, h9⟩ =>
    ⟨g, b, o, q, h1, h2, Nat.lt_of_lt_of_le h3 hB.size, fun d => (hD g d).elim h4 fun x => by omega, (hB.cell (p := ⟨g, 0, none⟩) h3 h4).trans h5, (hB.cell (p := ⟨g, 2, none⟩) h3 h4).trans h6, h7, h8.but h7 hB hh hC, (hB.cell (p := ⟨g, 1, none⟩) h3 h4).trans h8', hk.but h7 hB hh hC, SpotP.but hB hh hC hD h9⟩
theorem SpotP.bare {C : Nat → Prop} {w : World} {lo hi : Nat} : ∀ {ch : List NP} {p : Option Addr}, SpotP w C lo hi p ch → SpotAt w C lo hi p (ch.map Prod.fst)
  | [], _, h => h
  | _ :: _, _, ⟨g, b, o, q, h1, h2, h3, h4, h5, h6, h7, h8, _, _, h9⟩ => ⟨g, b, o, q, h1, h2, h3, h4, h5, h6, h7, h8, SpotP.bare h9⟩
def Seen2 {σ : Type} (st : σ → List NP → σ × Bool) (Inv : σ → (Nat → Prop) → World → Prop) (s : σ) (C : Nat → Prop) (ch : List NP) (w : World) (e : Ending) (w' : World) : Prop :=
  ∃ D : Nat → Prop, e = .returned (.bool (st s ch).2) ∧ Inv (st s ch).1 D w' ∧ But C w w' ∧ ∀ k, D k → C k ∨ w.heap.size ≤ k
structure Vis2 (P : Program) (g : Nat) (cap : Array Value) (lo hi : Nat) {σ : Type} (ok : σ → List NP → Prop) (st : σ → List NP → σ × Bool) (Inv : σ → (Nat → Prop) → World → Prop) : Prop where
  own : ∀ s C w, Inv s C w → ∀ k, C k → hi ≤ k ∧ k < w.heap.size
  keep : ∀ s C w w', Inv s C w → Kin w w' → Inv s C w'
  call : ∀ s C w q ch, ch ≠ [] → ch.length ≤ 1048576 → ok s ch → Inv s C w → SpotP w C lo hi q ch → hi ≤ w.heap.size → Calls P g (#[.pointer q] ++ cap) w (Seen2 st Inv s C ch w)
def Gone2 {σ : Type} (st : σ → List NP → σ × Bool) (Inv : σ → (Nat → Prop) → World → Prop) (s : σ) (C : Nat → Prop) (ch : List NP) (F : Fo) (j : Nat) (w : World) (e : Ending) (w' : World) : Prop :=
  ∃ D : Nat → Prop, e = .returned (.bool (trav2 st F ch j s).2) ∧ Inv (trav2 st F ch j s).1 D w' ∧ But C w w' ∧ ∀ k, D k → C k ∨ w.heap.size ≤ k
theorem Vis.two {P : Program} {g : Nat} {cap : Array Value} {lo hi : Nat} {σ : Type} {ok : σ → List Nd → Prop} {st : σ → List Nd → σ × Bool} {Inv : σ → (Nat → Prop) → World → Prop} (V : Vis P g cap lo hi ok st Inv) : Vis2 P g cap lo hi (Go.Proofs.Ytbcbmgeoaejlmaa.bare ok) (Go.Proofs.Ytbcbmgeoaejlmaa.bare st) Inv where
  own := V.own
  keep := V.keep
  call := fun s C w q ch hne hl ho hI hS hh => V.call s C w q (ch.map Prod.fst) (by simpa using hne) (by simpa using hl) ho hI hS.bare hh
end Go.Proofs.Ytbcbmgeoaejlmaa
