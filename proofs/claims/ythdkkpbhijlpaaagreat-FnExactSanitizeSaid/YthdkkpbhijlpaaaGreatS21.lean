import Derived.Laws.BytesArg
import Derived.Laws.IdiomStrings
import Derived.Test.YthdkkpbhijlpaaaGreatS20
import Derived.Test.YthdkkpbhijlpaaaGreatS19
set_option linter.unusedVariables false
namespace Go.Proofs.YthdkkpbhijlpaaaGreat
open Go.ChangeShapes Go.WideShapes Go.ChangeAt Go.RowKit Go.Deep

/-- what was there stays, but for the blocks of C -/
structure But (C : Nat → Prop) (w w' : World) : Prop where
  os : w'.os = w.os
  tape : w'.tape = w.tape
  output : w'.output = w.output
  size : w.heap.size ≤ w'.heap.size
  block : ∀ k, k < w.heap.size → ¬ C k → w'.heap[k]? = w.heap[k]?
theorem But.refl (C : Nat → Prop) (w : World) : But C w w := ⟨rfl, rfl, rfl, Nat.le_refl _, fun _ _ _ => rfl⟩
theorem But.trans {C D : Nat → Prop} {a b c : World} (h : But C a b) (k : But D b c) (hD : ∀ i, D i → C i ∨ a.heap.size ≤ i) : But C a c :=
  ⟨k.os.trans h.os, k.tape.trans h.tape, k.output.trans h.output, Nat.le_trans h.size k.size, fun i hi hC =>
    (k.block i (Nat.lt_of_lt_of_le hi h.size) fun d => (hD i d).elim hC fun x => absurd hi (Nat.not_lt.2 x)).trans (h.block i hi hC)⟩
theorem But.mono {C D : Nat → Prop} {w w' : World} (h : But C w w') (hs : ∀ k, C k → D k) : But D w w' := ⟨h.os, h.tape, h.output, h.size, fun k hk hd => h.block k hk fun c => hd (hs k c)⟩
theorem But.of_below {C : Nat → Prop} {w w' : World} (h : Below w.heap.size w w') : But C w w' := ⟨h.os, h.tape, h.output, h.size, fun k hk _ => h.block k hk⟩
theorem But.below {C : Nat → Prop} {w w' : World} {B : Nat} (h : But C w w') (hC : ∀ k, C k → B ≤ k) (hB : B ≤ w.heap.size) : Below B w w' :=
  ⟨h.os, h.tape, h.output, h.size, fun k hk => h.block k (Nat.lt_of_lt_of_le hk hB) fun c => absurd hk (Nat.not_lt.2 (hC k c))⟩
theorem But.drew {C : Nat → Prop} {a w : World} (h : But C a w) : But C a w.drew := ⟨h.os, h.tape, h.output, h.size, h.block⟩
theorem But.cell {C : Nat → Prop} {w w' : World} (h : But C w w') {p : Addr} (hp : p.block < w.heap.size) (hC : ¬ C p.block) : w'.cell? p = w.cell? p := World.cell?_of_block (w := w) (h.block p.block hp hC)
theorem But.frozen {C : Nat → Prop} {w w' : World} (h : But C w w') {p : Addr} (hp : p.block < w.heap.size) (hC : ¬ C p.block) : w'.frozen? p = w.frozen? p := World.frozen?_of_block (w := w) (h.block p.block hp hC)
theorem But.setCell {C : Nat → Prop} {a w : World} (h : But C a w) {p : Addr} (hp : C p.block ∨ a.heap.size ≤ p.block) (u : Value) : But C a (w.setCell p u) :=
  ⟨h.os, h.tape, h.output, by rw [World.size_setCell]; exact h.size, fun k hk hC => (Below.heap_setCell w p u k (by rintro rfl; rcases hp with c | c; exact hC c; omega)).trans (h.block k hk hC)⟩
theorem But.alloc {C : Nat → Prop} {a w : World} (h : But C a w) (o : Obj) : But C a (w.alloc o) :=
  ⟨h.os, h.tape, h.output, by have := h.size; simp; omega, fun k hk hC => (Below.heap_alloc w o k (Nat.lt_of_lt_of_le hk h.size)).trans (h.block k hk hC)⟩
def No (_ : Nat) : Prop := False
/-- new blocks at most, and none of them of bytes -/
structure Kin (w w' : World) : Prop where
  but : But No w w'
  new : ∀ k c fz, w.heap.size ≤ k → w'.heap[k]? = some (.cells c 5 fz) → False
theorem Kin.refl (w : World) : Kin w w := ⟨But.refl _ _, fun k c fz hk h => by rw [Array.getElem?_eq_none hk] at h; cases h⟩
theorem Kin.drew {a w : World} (h : Kin a w) : Kin a w.drew := ⟨h.but.drew, h.new⟩
theorem Kin.alloc {a w : World} (h : Kin a w) (cs : Array Value) (t : TypeId) (ht : t ≠ 5) : Kin a (w.alloc (.cells cs t)) := ⟨h.but.alloc _, fun k c fz hk hc => by
  rw [show (w.alloc (.cells cs t)).heap = w.heap.push (.cells cs t) from rfl, Array.getElem?_push] at hc
  split at hc
  · injection hc with hc; injection hc with _ hc _; exact ht hc
  · exact h.new k c fz hk hc⟩
theorem FoAt.but {C : Nat → Prop} {w w' : World} {lo hi : Nat} {A : Option Addr} {F : Fo} {b o : Nat} (hA : RowAt lo hi A F.len b o) (h : FoAt w lo hi b o F) (hB : But C w w') (hh : hi ≤ w.heap.size) (hC : ∀ k, C k → hi ≤ k) : FoAt w' lo hi b o F :=
  h.carry (Nat.le_refl _) (Nat.le_refl _) (fun b o _ h2 => hB.cell (p := ⟨b, o, none⟩) (by show b < _; omega) (fun c => by have := hC _ c; simp at this; omega))
    (fun j hj => hB.cell (p := ⟨b, o + j, none⟩) (by have := (hA.2 (by omega)).2.2; show b < _; omega) (fun c => by have := hC _ c; have := (hA.2 (by omega)).2.2; simp at *; omega))
/-- a node stands at ⟨b, o⟩, but for its kids -/
def NdAt (w : World) (lo hi b o : Nat) (x : Nd) : Prop :=
  (w.cell? ⟨b, o, none⟩ = some (.int .i64 x.k) ∧ w.cell? ⟨b, o + 1, none⟩ = some (.int .i64 x.sp) ∧ w.cell? ⟨b, o + 2, none⟩ = some (.string x.n) ∧ w.cell? ⟨b, o + 3, none⟩ = some (.string x.t) ∧ x.n.size ≤ maxLen ∧ x.t.size ≤ maxLen) ∧
    (∃ A c b' o', w.cell? ⟨b, o + 4, none⟩ = some (.slice A x.al.length c) ∧ RowC lo hi A x.al.length c b' o' ∧ AsAt w b' o' x.al)
theorem AsAt.but {C : Nat → Prop} {w w' : World} {lo hi b o : Nat} {A : Option Addr} {al : List (ByteArray × ByteArray)} (hA : RowAt lo hi A al.length b o) (h : AsAt w b o al) (hB : But C w w') (hh : hi ≤ w.heap.size) (hC : ∀ k, C k → hi ≤ k) : AsAt w' b o al := by
  cases al with
  | nil => trivial
  | cons x r => exact h.carry fun o => hB.cell (p := ⟨b, o, none⟩) (by have := (hA.2 (by simp)).2.2; show b < _; omega) (fun c => by have := hC _ c; have := (hA.2 (by simp)).2.2; simp at *; omega)
theorem NdAt.but {C : Nat → Prop} {w w' : World} {lo hi b o : Nat} {x : Nd} (h : NdAt w lo hi b o x) (hb : b < hi) (hB : But C w w') (hh : hi ≤ w.heap.size) (hC : ∀ k, C k → hi ≤ k) : NdAt w' lo hi b o x := by
  obtain ⟨⟨h0, h1, h2, h3, h4, h5⟩, A, c, b', o', h6, h7, h8⟩ := h
  have e : ∀ j, w'.cell? ⟨b, j, none⟩ = w.cell? ⟨b, j, none⟩ := fun j => hB.cell (p := ⟨b, j, none⟩) (by show b < _; omega) (fun c => by have := hC _ c; simp at this; omega)
  exact ⟨⟨(e _).trans h0, (e _).trans h1, (e _).trans h2, (e _).trans h3, h4, h5⟩, A, c, b', o', (e _).trans h6, h7, h8.but h7.2 hB hh hC⟩
/-- a spot, and those that it lies within -/
def SpotAt (w : World) (C : Nat → Prop) (lo hi : Nat) : Option Addr → List Nd → Prop
  | p, [] => p = none
  | p, x :: r => ∃ g b o q, p = some ⟨g, 0, none⟩ ∧ hi ≤ g ∧ g < w.heap.size ∧ ¬ C g ∧ w.cell? ⟨g, 0, none⟩ = some (.pointer (some ⟨b, o, none⟩)) ∧ w.cell? ⟨g, 2, none⟩ = some (.pointer q) ∧ b < hi ∧ NdAt w lo hi b o x ∧ SpotAt w C lo hi q r
theorem SpotAt.but {C D : Nat → Prop} {w w' : World} {lo hi : Nat} (hB : But C w w') (hh : hi ≤ w.heap.size) (hC : ∀ k, C k → hi ≤ k) (hD : ∀ k, D k → C k ∨ w.heap.size ≤ k) : ∀ {ch : List Nd} {p : Option Addr}, SpotAt w C lo hi p ch → SpotAt w' D lo hi p ch
  | [], _, h => h
  | x :: r, _, ⟨g, b, o, q, h1, h2, h3, h4, h5, h6, h7, h8, h9⟩ =>
    ⟨g, b, o, q, h1, h2, Nat.lt_of_lt_of_le h3 hB.size, fun d => (hD g d).elim h4 fun x => by omega, (hB.cell (p := ⟨g, 0, none⟩) h3 h4).trans h5, (hB.cell (p := ⟨g, 2, none⟩) h3 h4).trans h6, h7, h8.but h7 hB hh hC, SpotAt.but hB hh hC hD h9⟩
/-- what a call of a visitor leaves -/
def Seen {σ : Type} (st : σ → List Nd → σ × Bool) (Inv : σ → (Nat → Prop) → World → Prop) (s : σ) (C : Nat → Prop) (ch : List Nd) (w : World) (e : Ending) (w' : World) : Prop :=
  ∃ D : Nat → Prop, e = .returned (.bool (st s ch).2) ∧ Inv (st s ch).1 D w' ∧ But C w w' ∧ ∀ k, D k → C k ∨ w.heap.size ≤ k
/-- function g, with what it has captured, visits as st says; Inv: its own state, in the blocks C -/
structure Vis (P : Program) (g : Nat) (cap : Array Value) (lo hi : Nat) {σ : Type} (ok : σ → List Nd → Prop) (st : σ → List Nd → σ × Bool) (Inv : σ → (Nat → Prop) → World → Prop) : Prop where
  own : ∀ s C w, Inv s C w → ∀ k, C k → hi ≤ k ∧ k < w.heap.size
  keep : ∀ s C w w', Inv s C w → Kin w w' → Inv s C w'
  call : ∀ s C w q ch, ch ≠ [] → ch.length ≤ 1048576 → ok s ch → Inv s C w → SpotAt w C lo hi q ch → hi ≤ w.heap.size → Calls P g (#[.pointer q] ++ cap) w (Seen st Inv s C ch w)
/-- what a walk over a forest leaves -/
def Gone {σ : Type} (st : σ → List Nd → σ × Bool) (Inv : σ → (Nat → Prop) → World → Prop) (s : σ) (C : Nat → Prop) (ch : List Nd) (F : Fo) (w : World) (e : Ending) (w' : World) : Prop :=
  ∃ D : Nat → Prop, e = .returned (.bool (trav st F ch s).2) ∧ Inv (trav st F ch s).1 D w' ∧ But C w w' ∧ ∀ k, D k → C k ∨ w.heap.size ≤ k
/-- the kids of the node at ⟨b, o⟩ -/
def KidsAt (w : World) (lo hi b o : Nat) (kids : Fo) : Prop := ∃ A c b' o', w.cell? ⟨b, o + 5, none⟩ = some (.slice A kids.len c) ∧ RowC lo hi A kids.len c b' o' ∧ FoAt w lo hi b' o' kids
theorem KidsAt.but {C : Nat → Prop} {w w' : World} {lo hi b o : Nat} {kids : Fo} (h : KidsAt w lo hi b o kids) (hb : b < hi) (hB : But C w w') (hh : hi ≤ w.heap.size) (hC : ∀ k, C k → hi ≤ k) : KidsAt w' lo hi b o kids := by
  obtain ⟨A, c, b', o', h1, h2, h3⟩ := h
  exact ⟨A, c, b', o', (hB.cell (p := ⟨b, o + 5, none⟩) (by show b < _; omega) (fun c => by have := hC _ c; simp at this; omega)).trans h1, h2, h3.but h2.2 hB hh hC⟩
/-- a spot, and those that it lies within, with their places and their kids -/
def SpotP (w : World) (C : Nat → Prop) (lo hi : Nat) : Option Addr → List NP → Prop
  | p, [] => p = none
  | p, x :: r => ∃ g b o q, p = some ⟨g, 0, none⟩ ∧ hi ≤ g ∧ g < w.heap.size ∧ ¬ C g ∧ w.cell? ⟨g, 0, none⟩ = some (.pointer (some ⟨b, o, none⟩)) ∧ w.cell? ⟨g, 2, none⟩ = some (.pointer q) ∧ b < hi ∧ NdAt w lo hi b o x.1 ∧ w.cell? ⟨g, 1, none⟩ = some (.int .i64 (x.2.1 : Int)) ∧ KidsAt w lo hi b o x.2.2 ∧ SpotP w C lo hi q r
theorem SpotP.but {C D : Nat → Prop} {w w' : World} {lo hi : Nat} (hB : But C w w') (hh : hi ≤ w.heap.size) (hC : ∀ k, C k → hi ≤ k) (hD : ∀ k, D k → C k ∨ w.heap.size ≤ k) : ∀ {ch : List NP} {p : Option Addr}, SpotP w C lo hi p ch → SpotP w' D lo hi p ch
  | [], _, h => h
  | x :: r, _, ⟨g, b, o, q, h1, h2, h3, h4, h5, h6, h7, h8, h8', hk, h9⟩ =>
    ⟨g, b, o, q, h1, h2, Nat.lt_of_lt_of_le h3 hB.size, fun d => (hD g d).elim h4 fun x => by omega, (hB.cell (p := ⟨g, 0, none⟩) h3 h4).trans h5, (hB.cell (p := ⟨g, 2, none⟩) h3 h4).trans h6, h7, h8.but h7 hB hh hC, (hB.cell (p := ⟨g, 1, none⟩) h3 h4).trans h8', hk.but h7 hB hh hC, SpotP.but hB hh hC hD h9⟩
theorem SpotP.bare {C : Nat → Prop} {w : World} {lo hi : Nat} : ∀ {ch : List NP} {p : Option Addr}, SpotP w C lo hi p ch → SpotAt w C lo hi p (ch.map Prod.fst)
  | [], _, h => h
  | _ :: _, _, ⟨g, b, o, q, h1, h2, h3, h4, h5, h6, h7, h8, _, _, h9⟩ => ⟨g, b, o, q, h1, h2, h3, h4, h5, h6, h7, h8, SpotP.bare h9⟩
def Seen2 {σ : Type} (st : σ → List NP → σ × Bool) (Inv : σ → (Nat → Prop) → World → Prop) (s : σ) (C : Nat → Prop) (ch : List NP) (w : World) (e : Ending) (w' : World) : Prop :=
  ∃ D : Nat → Prop, e = .returned (.bool (st s ch).2) ∧ Inv (st s ch).1 D w' ∧ But C w w' ∧ ∀ k, D k → C k ∨ w.heap.size ≤ k
structure Vis2 (P : Program) (g : Nat) (cap : Array Value) (lo hi : Nat) {σ : Type} (ok : σ → List NP → Prop) (st : σ → List NP → σ × Bool) (Inv : σ → (Nat → Prop) → World → Prop) : Prop where
  own : ∀ s C w, Inv s C w → ∀ k, C k → hi ≤ k ∧ k < w.heap.size
  keep : ∀ s C w w', Inv s C w → Kin w w' → Inv s C w'
  call : ∀ s C w q ch, ch ≠ [] → ch.length ≤ 1048576 → ok s ch → Inv s C w → SpotP w C lo hi q ch → hi ≤ w.heap.size → Calls P g (#[.pointer q] ++ cap) w (Seen2 st Inv s C ch w)
def Gone2 {σ : Type} (st : σ → List NP → σ × Bool) (Inv : σ → (Nat → Prop) → World → Prop) (s : σ) (C : Nat → Prop) (ch : List NP) (F : Fo) (j : Nat) (w : World) (e : Ending) (w' : World) : Prop :=
  ∃ D : Nat → Prop, e = .returned (.bool (trav2 st F ch j s).2) ∧ Inv (trav2 st F ch j s).1 D w' ∧ But C w w' ∧ ∀ k, D k → C k ∨ w.heap.size ≤ k
theorem Vis.two {P : Program} {g : Nat} {cap : Array Value} {lo hi : Nat} {σ : Type} {ok : σ → List Nd → Prop} {st : σ → List Nd → σ × Bool} {Inv : σ → (Nat → Prop) → World → Prop} (V : Vis P g cap lo hi ok st Inv) : Vis2 P g cap lo hi (Go.Proofs.YthdkkpbhijlpaaaGreat.bare ok) (Go.Proofs.YthdkkpbhijlpaaaGreat.bare st) Inv where
  own := V.own
  keep := V.keep
  call := fun s C w q ch hne hl ho hI hS hh => V.call s C w q (ch.map Prod.fst) (by simpa using hne) (by simpa using hl) ho hI hS.bare hh
end Go.Proofs.YthdkkpbhijlpaaaGreat
namespace Go.Proofs.YthdkkpbhijlpaaaGreat
open Go.ChangeShapes Go.WideShapes Go.ChangeAt Go.RowKit Go.Deep

/-! ### The text of a mark -/
/-- the digits of a number, none of nought -/
def decAll (k : Nat) : List UInt8 := if _h : k = 0 then [] else decAll (k / 10) ++ [UInt8.ofNat (48 + k % 10)]
termination_by k
decreasing_by omega
theorem decAll_zero : decAll 0 = [] := by rw [decAll]; rfl
theorem decAll_step {k : Nat} (h : 0 < k) : decAll k = decAll (k / 10) ++ [UInt8.ofNat (48 + k % 10)] := by rw [decAll, dif_neg (by omega)]
theorem decAll_len : ∀ k : Nat, (decAll k).length ≤ k := by
  intro k
  induction k using Nat.strongRecOn with
  | _ k ih =>
    by_cases h : k = 0
    · subst h; rw [decAll_zero]; exact Nat.le_refl _
    · rw [decAll_step (by omega), List.length_append]
      have := ih (k / 10) (by omega)
      simp only [List.length_cons, List.length_nil]
      omega
def markT (k : Nat) : ByteArray := ⟨(109 :: decAll k).toArray⟩
theorem markT_size (k : Nat) : (markT k).size ≤ k + 1 := by
  show (109 :: decAll k).toArray.size ≤ _
  rw [List.size_toArray, List.length_cons]
  have := decAll_len k
  omega
theorem ba_ext' {a b : ByteArray} (h : a.data.toList = b.data.toList) : a = b := by
  obtain ⟨⟨x⟩⟩ := a
  obtain ⟨⟨y⟩⟩ := b
  simp at h
  subst h
  rfl
theorem conv_byte (L : Nat) (c : UInt8) (n : Int) (hn : (c.toNat : Int) = n) (W : World) (h : W.cell? ⟨L, 0, none⟩ = some (.int .u8 n)) : (convert 126 9 (.slice (some ⟨L, 0, none⟩) 1 1)).run Tryz.prog W = .ok (.string ⟨[c].toArray⟩) W :=
  run_convert_bytes_back W 126 9 5 ⟨L, 0, none⟩ 1 [c] Tryz.underlying126 Tryz.underlying5 Tryz.underlying9 (fun j hj => by
    obtain rfl : j = 0 := by simpa using hj
    rw [← hn] at h
    exact h)
set_option maxHeartbeats 1000000 in
theorem markText_any (n : Nat) (h1 : 1 ≤ n) (h2 : n ≤ 1073741824) (w : World) :
    Calls Tryz.prog 44 #[.int .i64 (n : Int)] w fun e w' => e = .returned (.string (markT n)) ∧ Below w.heap.size w w' := by
  go_enter Tryz.func44, Tryz.ntmps44
  go_wp2
  go_loopw [0, 3] (fun i v wr => ∃ (j : Nat) (l : List UInt8), i = .int .i64 (j : Int) ∧ v = .string ⟨l.toArray⟩ ∧ j ≤ n ∧ l.length + j ≤ n + 0 ∧ Hid (decAll j ++ l = decAll n ∧ Below w.heap.size w wr)) (fun i _ _ => (intOf i).toNat)
  case atStart => exact ⟨n, [], rfl, rfl, Nat.le_refl _, by simp, Lib.hid ⟨by simp, Below.refl _ _⟩⟩
  case round =>
    obtain ⟨j, l, rfl, rfl, hj, hl, HH⟩ := hrel
    have hls : (⟨l.toArray⟩ : ByteArray).size = l.length := by simp [ByteArray.size]
    by_cases h0 : 0 < j
    · have hc : (((UInt8.ofNat (48 + j % 10)).toNat : Nat) : Int) = 48 + (j : Int) % 10 := by simp; omega
      have hst := decAll_step h0
      generalize UInt8.ofNat (48 + j % 10) = c at hc hst
      have e1 : (⟨[c].toArray⟩ : ByteArray) ++ ⟨l.toArray⟩ = ⟨(c :: l).toArray⟩ := ba_ext' (by simp [ByteArray.data_append])
      have n1 : (⟨[c].toArray⟩ : ByteArray).size = 1 := rfl
      have a1 : ∀ W, (Op.stringOp .add ⟨[c].toArray⟩ ⟨l.toArray⟩).run Tryz.prog W = .ok (.string ⟨(c :: l).toArray⟩) W := fun W => by rw [run_string_add_sum W _ _ (by omega), e1]
      have hcell : (wr.alloc (.cells #[.int .u8 (48 + (j : Int) % 10)] 5)).cell? ⟨wr.heap.size, 0, none⟩ = some (.int .u8 (48 + (j : Int) % 10)) := new_cell rfl
      have hcv := conv_byte wr.heap.size c (48 + (j : Int) % 10) hc _ hcell
      have HST := Lib.hid hst
      have HC := Lib.hid hc
      clear e1 n1 hst hc hls
      have h0' : 0 < (j : Int) := by omega
      have hw : IntKind.u8.wrap (48 + (j : Int) % 10) = 48 + (j : Int) % 10 := IntWalk.u8_in _ (by omega)
      go_wp2
      go_roundw
      case rel => exact ⟨j / 10, c :: l, by go_num, rfl, by omega, by simp; omega, Lib.hid ⟨by rw [← HH.out.1, HST.out, List.append_assoc]; rfl, HH.out.2.alloc HH.out.2.size _⟩⟩
      case measure => simp [intOf]; omega
    · obtain rfl : j = 0 := by omega
      have hl2 : l = decAll n := by have := HH.out.1; rw [decAll_zero] at this; simpa using this
      have e1 : (⟨#[109]⟩ : ByteArray) ++ ⟨l.toArray⟩ = markT n := ba_ext' (by rw [markT, hl2]; simp [ByteArray.data_append])
      have n1 : (⟨#[109]⟩ : ByteArray).size = 1 := rfl
      have a1 : ∀ W, (Op.stringOp .add ⟨#[109]⟩ ⟨l.toArray⟩).run Tryz.prog W = .ok (.string (markT n)) W := fun W => by rw [run_string_add_sum W _ _ (by omega), e1]
      clear e1 n1 hl2 hls
      go_wp2
      go_ret
      exact ⟨rfl, HH.out.2⟩
end Go.Proofs.YthdkkpbhijlpaaaGreat
namespace Go.Proofs.YthdkkpbhijlpaaaGreat
open Go.ChangeShapes Go.WideShapes Go.ChangeAt Go.RowKit Go.Deep

def markAl : List (ByteArray × ByteArray) → Nat → List (ByteArray × ByteArray)
  | [], _ => []
  | _ :: r, m => (markT m, markT (m + 1)) :: markAl r (m + 2)
theorem markAl_len : ∀ (al : List (ByteArray × ByteArray)) (m : Nat), (markAl al m).length = al.length
  | [], _ => rfl
  | _ :: r, m => by simp [markAl, markAl_len r]
theorem markAl_snoc : ∀ (pre : List (ByteArray × ByteArray)) (x : ByteArray × ByteArray) (m : Nat), markAl (pre ++ [x]) m = markAl pre m ++ [(markT (m + 2 * pre.length), markT (m + 2 * pre.length + 1))]
  | [], _, _ => rfl
  | _ :: p, x, m => by
    simp only [List.cons_append, markAl, markAl_snoc p x (m + 2), List.length_cons]
    rw [show m + 2 + 2 * p.length = m + 2 * (p.length + 1) by omega]
/-- how many marks -/
def Fo.cnt : Fo → Nat
  | .nil => 0
  | .cons _ _ _ _ al kids rest => 4 + 2 * al.length + kids.cnt + rest.cnt
def markFo : Fo → Nat → Fo
  | .nil, _ => .nil
  | .cons _ _ _ _ al kids rest, m => .cons m ((m + 1 : Nat) : Int) (markT (m + 2)) (markT (m + 3)) (markAl al (m + 4)) (markFo kids (m + 4 + 2 * al.length)) (markFo rest (m + 4 + 2 * al.length + kids.cnt))
theorem markFo_len : ∀ (F : Fo) (m : Nat), (markFo F m).len = F.len
  | .nil, _ => rfl
  | .cons _ _ _ _ _ _ rest, m => by simp [markFo, Fo.len, markFo_len rest]
theorem AlLay.split {w : World} {a : Nat} : ∀ {p q : List (ByteArray × ByteArray)} {o : Nat}, AlLay w a o (p ++ q) → AlLay w a o p ∧ AlLay w a (o + 2 * p.length) q
  | [], _, _, h => ⟨trivial, by simpa using h⟩
  | x :: p, q, o, ⟨h1, h2, h3, h4, h5⟩ => by
    obtain ⟨i1, i2⟩ := AlLay.split h5
    refine ⟨⟨h1, h2, h3, h4, i1⟩, ?_⟩
    simp only [List.length_cons]
    rw [show o + 2 * (p.length + 1) = o + 2 + 2 * p.length by omega]; exact i2
theorem AlLay.off {w : World} {a : Nat} : ∀ {al : List (ByteArray × ByteArray)} {o : Nat} {g' o' : Nat}, AlLay w a o al → (g' ≠ a ∨ o' < o ∨ o + 2 * al.length ≤ o') → ∀ u, AlLay (w.setCell ⟨g', o', none⟩ u) a o al
  | [], _, _, _, _, _, _ => trivial
  | x :: r, o, g', o', ⟨h1, h2, h3, h4, h5⟩, hne, u => by
    simp only [List.length_cons] at hne
    exact ⟨h1.set (hne.imp id fun h => by omega) u, h2.set (hne.imp id fun h => by omega) u, h3, h4, AlLay.off h5 (hne.imp id fun h => by omega) u⟩
/-- only these blocks have been written -/
abbrev OnlyAt (w w' : World) (l : List Nat) : Prop := But (fun k => k ∈ l) w w'
theorem markAttrS_any (al : List (ByteArray × ByteArray)) (m : Nat) (w : World) (A : Option Addr) (c : Nat) (ba : List Nat) (h1 : 1 ≤ m) (h2 : m + 2 * al.length ≤ 1073741824) (hr : AlRow w A al ba) :
    Calls Tryz.prog 45 #[.slice A al.length c, .int .i64 (m : Int)] w fun e w' => e = .returned (.int .i64 ((m + 2 * al.length : Nat) : Int)) ∧ AlRow w' A (markAl al m) ba ∧ OnlyAt w w' ba := by
  rcases hr with ⟨rfl, rfl⟩ | ⟨a, rfl, rfl, hl⟩
  · simp only [List.length_nil]
    go_enter Tryz.func45, Tryz.ntmps45
    go_wp2
    refine wp_loop_rounds 1 ?_
    rw [rounds_succ]
    go_wp2
    go_ret
    exact ⟨rfl, Or.inl ⟨rfl, rfl⟩, But.refl _ _⟩
  · have HL := Lib.hid hl
    clear hl
    go_enter Tryz.func45, Tryz.ntmps45
    go_wp2
    go_loopw [1, 5] (fun x i wr => ∃ (k : Nat) (pre suf : List (ByteArray × ByteArray)), x = .int .i64 ((m + 2 * k : Nat) : Int) ∧ i = .int .i64 (k : Int) ∧ al = pre ++ suf ∧ pre.length = k ∧ Hid (AlLay wr a 0 (markAl pre m ++ suf) ∧ OnlyAt w wr [a])) (fun x i wr => al.length - (intOf i).toNat)
    case atStart => exact ⟨0, [], al, by simp, rfl, rfl, rfl, Lib.hid ⟨HL.out, But.refl _ _⟩⟩
    case round =>
      obtain ⟨k, pre, suf, rfl, rfl, hp, hk, HH⟩ := hrel
      have HP := Lib.hid hp
      cases suf with
      | nil =>
        have hkl : k = al.length := by rw [hp]; simp [hk]
        clear hp hk
        subst hkl
        go_wp2
        go_ret
        obtain ⟨i1, i2⟩ := HH.out
        have hp := HP.out
        simp only [List.append_nil] at hp i1
        exact ⟨rfl, Or.inr ⟨a, rfl, rfl, by rw [hp]; exact i1⟩, i2⟩
      | cons x r =>
        have hkl : k < al.length := by rw [hp]; simp [hk]
        obtain ⟨i1, i2⟩ := HH.out
        obtain ⟨j1, j2⟩ := i1.split
        rw [markAl_len, hk] at j2
        obtain ⟨s1, s2, s3, s4, s5⟩ := j2
        rw [show 0 + 2 * k = k * 2 by omega] at s1 s2 s5
        have HK := Lib.hid hk
        have HJ := Lib.hid (And.intro j1 (And.intro i2 s5))
        have c1 := s1.1
        have f1 := s1.2
        have HS2 := Lib.hid s2
        have HS1 := Lib.hid s1
        clear HH hp hk i1 i2 j1 s1 s2 s3 s4 s5
        have ha : a < wr.heap.size := HS1.out.lt
        go_wp2_with fail
        rw [show ((m + 2 * k : Nat) : Int) = ((m + 2 * k : Nat) : Int) from rfl]
        refine (markText_any (m + 2 * k) (by omega) (by omega) _).mono ?_
        rintro e w1 ⟨rfl, hB1⟩
        have d1 := HS1.out.same (hB1.block a ha)
        have e1 := d1.1
        have g1 := d1.2
        have D2 := Lib.hid (HS2.out.same (hB1.block a ha))
        have D1 := Lib.hid d1
        have B1 := Lib.hid hB1
        clear hB1 d1
        go_wp2_with fail
        refine (markText_any (m + 2 * k + 1) (by omega) (by omega) _).mono ?_
        rintro e w2 ⟨rfl, hB2⟩
        have ha1 : a < (w1.setCell ⟨a, k * 2, none⟩ (.string (markT (m + 2 * k)))).heap.size := by rw [World.size_setCell]; exact D1.out.lt
        have d2 := (D2.out.set (g' := a) (o' := k * 2) (Or.inr (by omega)) (.string (markT (m + 2 * k)))).same (hB2.block a ha1)
        have e2 := d2.1
        have g2 := d2.2
        have D2' := Lib.hid d2
        have D1' := Lib.hid ((D1.out.put (.string (markT (m + 2 * k)))).same (hB2.block a ha1))
        have B2 := Lib.hid hB2
        clear hB2 d2
        go_wp2
        go_roundw
        case rel =>
          obtain ⟨j1, i2, s5⟩ := HJ.out
          have k1 := (((j1.same (B1.out.block a ha)).off (g' := a) (o' := k * 2) (Or.inr (Or.inr (by rw [markAl_len, HK.out]; omega))) (.string (markT (m + 2 * k)))).same (B2.out.block a ha1)).off (g' := a) (o' := k * 2 + 1) (Or.inr (Or.inr (by rw [markAl_len, HK.out]; omega))) (.string (markT (m + 2 * k + 1)))
          have k2 := (((s5.same (B1.out.block a ha)).off (g' := a) (o' := k * 2) (Or.inr (Or.inl (by omega))) (.string (markT (m + 2 * k)))).same (B2.out.block a ha1)).off (g' := a) (o' := k * 2 + 1) (Or.inr (Or.inl (by omega))) (.string (markT (m + 2 * k + 1)))
          have z1 := markT_size (m + 2 * k)
          have z2 := markT_size (m + 2 * k + 1)
          have hpl := HK.out
          refine ⟨k + 1, pre ++ [x], r, by go_num, by go_num, by rw [HP.out]; simp, by simp [HK.out], Lib.hid ⟨?_, ?_⟩⟩
          · have hm : markAl (pre ++ [x]) m = markAl pre m ++ [(markT (m + 2 * k), markT (m + 2 * k + 1))] := by rw [← hpl]; exact markAl_snoc pre x m
            rw [hm, List.append_assoc]
            refine AlLay.app k1 ?_
            rw [markAl_len, hpl, show 0 + 2 * k = k * 2 by omega]
            exact ⟨D1'.out.set (Or.inr (by omega)) _, D2'.out.put _, by show (markT (m + 2 * k)).size ≤ _; unfold maxLen; omega, by show (markT (m + 2 * k + 1)).size ≤ _; unfold maxLen; omega, k2⟩
          · exact (((i2.trans (But.of_below (C := fun k => k ∈ [a]) B1.out) (fun _ h => Or.inl h)).setCell (p := ⟨a, k * 2, none⟩) (Or.inl (by simp)) _).trans (But.of_below (C := fun k => k ∈ [a]) B2.out) (fun _ h => Or.inl h)).setCell (p := ⟨a, k * 2 + 1, none⟩) (Or.inl (by simp)) _
        case measure => simp [intOf]; omega
end Go.Proofs.YthdkkpbhijlpaaaGreat
