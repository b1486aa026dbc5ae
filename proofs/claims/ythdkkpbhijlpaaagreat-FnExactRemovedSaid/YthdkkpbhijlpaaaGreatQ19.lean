import Derived.IntWalk
import Derived.Laws.BytesArg
import Derived.Laws.IdiomStrings
import Derived.Test.YthdkkpbhijlpaaaGreatQ18
set_option linter.unusedVariables false
namespace Go.Proofs.YthdkkpbhijlpaaaGreat
open Go.ChangeShapes Go.WideShapes Go.ChangeAt Go.RowKit Go.Deep

/-- a node, but for its kids -/
structure Nd where
  k : Int
  sp : Int
  n : ByteArray
  t : ByteArray
  al : List (ByteArray × ByteArray)
def WordsIs (x : Nd) : Prop := x.t.size ≤ 120 ∧ x.sp = 0 ∧ x.n.size = 0 ∧ x.al.length = 0
def ElemIs (x : Nd) : Prop := namedB small tagB x.n = true ∧ 0 ≤ x.sp ∧ x.sp ≤ 2 ∧ x.t.size = 0 ∧ AlOK x.al
def NodeIs (x : Nd) : Prop := (x.k = 1 ∧ ElemIs x) ∨ (x.k = 2 ∧ 0 < x.t.size ∧ WordsIs x) ∨ (x.k = 3 ∧ WordsIs x)
/-- a raw element -/
def RawN (x : Nd) : Prop := x.sp = 0 ∧ inL rawL x.n = true
def VoidN (x : Nd) : Prop := x.sp = 0 ∧ inL voidL x.n = true
/-- what a parent, if there is one, may hold -/
def MayHold : List Nd → Int → Prop
  | [], _ => True
  | p :: _, k => (RawN p → k = 2) ∧ (¬ RawN p → p.k = 1 ∧ ¬ VoidN p)
def Fine : List Nd → Fo → Prop
  | _, .nil => True
  | ch, .cons k sp n t al kids rest => NodeIs ⟨k, sp, n, t, al⟩ ∧ MayHold ch k ∧ Fine (⟨k, sp, n, t, al⟩ :: ch) kids ∧ Fine ch rest
def Fo.deep : Fo → Nat
  | .nil => 0
  | .cons _ _ _ _ _ kids rest => max (1 + kids.deep) rest.deep
def Good (F : Fo) : Prop := F.nodes ≤ 60 ∧ F.deep ≤ 10 ∧ Fine [] F
open Classical in
noncomputable def goodB (F : Fo) : Bool := decide (Good F)
theorem goodB_true {F : Fo} (h : Good F) : goodB F = true := by simp [goodB, h]
theorem Fo.len_le_nodes : ∀ F : Fo, F.len ≤ F.nodes
  | .nil => Nat.le_refl _
  | .cons _ _ _ _ _ kids rest => by have := Fo.len_le_nodes rest; simp [Fo.len, Fo.nodes]; omega
/-- the whole walk over a forest, ahead of its kids each node, with those that it lies within -/
def trav {σ : Type} (st : σ → List Nd → σ × Bool) : Fo → List Nd → σ → σ × Bool
  | .nil, _, s => (s, true)
  | .cons k sp n t al kids rest, ch, s =>
    if (st s (⟨k, sp, n, t, al⟩ :: ch)).2 then
      if (trav st kids (⟨k, sp, n, t, al⟩ :: ch) (st s (⟨k, sp, n, t, al⟩ :: ch)).1).2 then trav st rest ch (trav st kids (⟨k, sp, n, t, al⟩ :: ch) (st s (⟨k, sp, n, t, al⟩ :: ch)).1).1
      else ((trav st kids (⟨k, sp, n, t, al⟩ :: ch) (st s (⟨k, sp, n, t, al⟩ :: ch)).1).1, false)
    else ((st s (⟨k, sp, n, t, al⟩ :: ch)).1, false)
theorem trav_on {σ : Type} {st : σ → List Nd → σ × Bool} {k sp : Int} {n t : ByteArray} {al : List (ByteArray × ByteArray)} {kids rest : Fo} {ch : List Nd} {s : σ} (h : (st s (⟨k, sp, n, t, al⟩ :: ch)).2 = true)
    (h2 : (trav st kids (⟨k, sp, n, t, al⟩ :: ch) (st s (⟨k, sp, n, t, al⟩ :: ch)).1).2 = true) :
    trav st (.cons k sp n t al kids rest) ch s = trav st rest ch (trav st kids (⟨k, sp, n, t, al⟩ :: ch) (st s (⟨k, sp, n, t, al⟩ :: ch)).1).1 := by rw [trav, if_pos h, if_pos h2]
/-- each state that the walk comes to is one that the visitor can go on from -/
def travP {σ : Type} (ok : σ → List Nd → Prop) (st : σ → List Nd → σ × Bool) : Fo → List Nd → σ → Prop
  | .nil, _, _ => True
  | .cons k sp n t al kids rest, ch, s => ok s (⟨k, sp, n, t, al⟩ :: ch) ∧ ((st s (⟨k, sp, n, t, al⟩ :: ch)).2 = true →
      travP ok st kids (⟨k, sp, n, t, al⟩ :: ch) (st s (⟨k, sp, n, t, al⟩ :: ch)).1 ∧
      ((trav st kids (⟨k, sp, n, t, al⟩ :: ch) (st s (⟨k, sp, n, t, al⟩ :: ch)).1).2 = true → travP ok st rest ch (trav st kids (⟨k, sp, n, t, al⟩ :: ch) (st s (⟨k, sp, n, t, al⟩ :: ch)).1).1))
def always {σ : Type} (_ : σ) (_ : List Nd) : Prop := True
/-- a node, its place beside the others, and its kids -/
abbrev NP := Nd × Nat × Fo
/-- the walk over a forest whose first node has place j -/
def trav2 {σ : Type} (st : σ → List NP → σ × Bool) : Fo → List NP → Nat → σ → σ × Bool
  | .nil, _, _, s => (s, true)
  | .cons k sp n t al kids rest, ch, j, s =>
    if (st s ((⟨k, sp, n, t, al⟩, j, kids) :: ch)).2 then
      if (trav2 st kids ((⟨k, sp, n, t, al⟩, j, kids) :: ch) 0 (st s ((⟨k, sp, n, t, al⟩, j, kids) :: ch)).1).2 then trav2 st rest ch (j + 1) (trav2 st kids ((⟨k, sp, n, t, al⟩, j, kids) :: ch) 0 (st s ((⟨k, sp, n, t, al⟩, j, kids) :: ch)).1).1
      else ((trav2 st kids ((⟨k, sp, n, t, al⟩, j, kids) :: ch) 0 (st s ((⟨k, sp, n, t, al⟩, j, kids) :: ch)).1).1, false)
    else ((st s ((⟨k, sp, n, t, al⟩, j, kids) :: ch)).1, false)
def travP2 {σ : Type} (ok : σ → List NP → Prop) (st : σ → List NP → σ × Bool) : Fo → List NP → Nat → σ → Prop
  | .nil, _, _, _ => True
  | .cons k sp n t al kids rest, ch, j, s => ok s ((⟨k, sp, n, t, al⟩, j, kids) :: ch) ∧ ((st s ((⟨k, sp, n, t, al⟩, j, kids) :: ch)).2 = true →
      travP2 ok st kids ((⟨k, sp, n, t, al⟩, j, kids) :: ch) 0 (st s ((⟨k, sp, n, t, al⟩, j, kids) :: ch)).1 ∧
      ((trav2 st kids ((⟨k, sp, n, t, al⟩, j, kids) :: ch) 0 (st s ((⟨k, sp, n, t, al⟩, j, kids) :: ch)).1).2 = true → travP2 ok st rest ch (j + 1) (trav2 st kids ((⟨k, sp, n, t, al⟩, j, kids) :: ch) 0 (st s ((⟨k, sp, n, t, al⟩, j, kids) :: ch)).1).1))
/-- a visitor that asks no places -/
def bare {σ α : Type} (f : σ → List Nd → α) : σ → List NP → α := fun s ch => f s (ch.map Prod.fst)
theorem trav2_bare {σ : Type} (st : σ → List Nd → σ × Bool) : ∀ (F : Fo) (ch : List NP) (j : Nat) (s : σ), trav2 (bare st) F ch j s = trav st F (ch.map Prod.fst) s
  | .nil, _, _, _ => rfl
  | .cons k sp n t al kids rest, ch, j, s => by
    simp only [trav2, trav, trav2_bare st kids, trav2_bare st rest, List.map_cons]
    rfl
theorem travP2_bare {σ : Type} (ok : σ → List Nd → Prop) (st : σ → List Nd → σ × Bool) : ∀ (F : Fo) (ch : List NP) (j : Nat) (s : σ), travP2 (bare ok) (bare st) F ch j s ↔ travP ok st F (ch.map Prod.fst) s
  | .nil, _, _, _ => Iff.rfl
  | .cons k sp n t al kids rest, ch, j, s => by
    simp only [travP2, travP, trav2_bare, travP2_bare ok st kids, travP2_bare ok st rest, List.map_cons]
    exact Iff.rfl
theorem travP_always {σ : Type} (st : σ → List Nd → σ × Bool) : ∀ (F : Fo) (ch : List Nd) (s : σ), travP always st F ch s
  | .nil, _, _ => trivial
  | .cons _ _ _ _ _ kids rest, _, _ => ⟨trivial, fun _ => ⟨travP_always st kids _ _, fun _ => travP_always st rest _ _⟩⟩
/-- the next number, as Go counts -/
def nextI (c : Int) : Int := IntKind.i64.wrap (c + 1)
theorem nextI_nat {c : Nat} (h : c ≤ 1048576) : nextI (c : Int) = ((c + 1 : Nat) : Int) := by
  unfold nextI; exact IntWalk.i64_in _ (by omega)
/-- the visitor that tells whether a tree is right -/
def OkAt (c : Int) : List Nd → Prop
  | [] => True
  | x :: ch => nextI c ≤ 60 ∧ ch.length + 1 ≤ 10 ∧ NodeIs x ∧ MayHold ch x.k
open Classical in
noncomputable def okB (c : Int) (ch : List Nd) : Bool := decide (OkAt c ch)
noncomputable def stOK (c : Int) (ch : List Nd) : Int × Bool := (nextI c, okB c ch)
theorem trav_ok : ∀ (F : Fo) (ch : List Nd) (c : Nat), c ≤ 60 → ch.length ≤ 10 →
    ((trav stOK F ch (c : Int)).2 = true ↔ c + F.nodes ≤ 60 ∧ ch.length + F.deep ≤ 10 ∧ Fine ch F) ∧ ((trav stOK F ch (c : Int)).2 = true → (trav stOK F ch (c : Int)).1 = ((c + F.nodes : Nat) : Int))
  | .nil, ch, c, hc, hch => by simp [trav, Fo.nodes, Fo.deep, Fine, hc, hch]
  | .cons k sp n t al kids rest, ch, c, hc, hch => by
    rw [trav]
    have hn := nextI_nat (c := c) (by omega)
    by_cases h1 : OkAt c (⟨k, sp, n, t, al⟩ :: ch)
    · have e1 : (stOK c (⟨k, sp, n, t, al⟩ :: ch)).2 = true := by simp [stOK, okB, h1]
      have e2 : (stOK c (⟨k, sp, n, t, al⟩ :: ch)).1 = ((c + 1 : Nat) : Int) := hn
      rw [if_pos e1, e2]
      obtain ⟨a1, a2, a3, a4⟩ := h1
      rw [hn] at a1
      obtain ⟨i1, i2⟩ := trav_ok kids (⟨k, sp, n, t, al⟩ :: ch) (c + 1) (by omega) (by simp; omega)
      by_cases h2 : (trav stOK kids (⟨k, sp, n, t, al⟩ :: ch) ((c + 1 : Nat) : Int)).2 = true
      · rw [if_pos h2, i2 h2]
        obtain ⟨b1, b2, b3⟩ := i1.1 h2
        simp at b2
        obtain ⟨j1, j2⟩ := trav_ok rest ch (c + 1 + kids.nodes) (by omega) hch
        refine ⟨?_, fun h => by rw [j2 h]; simp [Fo.nodes]; omega⟩
        rw [j1]
        simp only [Fo.nodes, Fo.deep, Fine]
        constructor
        · rintro ⟨x1, x2, x3⟩; exact ⟨by omega, by omega, a3, a4, b3, x3⟩
        · rintro ⟨x1, x2, _, _, _, x3⟩; exact ⟨by omega, by omega, x3⟩
      · rw [if_neg h2]
        refine ⟨⟨fun h => by simp at h, fun h => ?_⟩, fun h => by simp at h⟩
        exfalso
        apply h2
        rw [i1]
        simp only [Fo.nodes, Fo.deep, Fine] at h
        obtain ⟨x1, x2, _, _, x3, _⟩ := h
        exact ⟨by omega, by simp; omega, x3⟩
    · have e1 : ¬ (stOK c (⟨k, sp, n, t, al⟩ :: ch)).2 = true := by simp [stOK, okB, h1]
      rw [if_neg e1]
      refine ⟨⟨fun h => by simp at h, fun h => ?_⟩, fun h => by simp at h⟩
      exfalso
      apply h1
      simp only [Fo.nodes, Fo.deep, Fine] at h
      obtain ⟨x1, x2, x3, x4, _, _⟩ := h
      exact ⟨by rw [hn]; omega, by omega, x3, x4⟩
theorem trav_good (F : Fo) : (trav stOK F [] 0).2 = goodB F := by
  obtain ⟨h, _⟩ := trav_ok F [] 0 (by omega) (by simp)
  rw [Bool.eq_iff_iff]
  refine Iff.trans h ?_
  exact ⟨fun g => goodB_true ⟨by omega, by simpa using g.2.1, g.2.2⟩, fun g => (fun ⟨a, b, c⟩ => ⟨by omega, by simpa using b, c⟩) (show Good F by simpa [goodB] using g)⟩
theorem Fo.nodes_le : ∀ F : Fo, F.nodes ≤ F.len + F.size
  | .nil => Nat.le_refl _
  | .cons _ _ _ _ _ kids rest => by have := Fo.nodes_le kids; have := Fo.nodes_le rest; simp [Fo.len, Fo.nodes, Fo.size]; omega
/-! ### as the model looks at it: a node with its kids -/
/-- all that stand side by side are of kind 2 -/
def Fo.texts : Fo → Prop
  | .nil => True
  | .cons k _ _ _ _ _ rest => k = 2 ∧ rest.texts
/-- what the kids of such a node are -/
def KidsIs (x : Nd) (kids : Fo) : Prop := (x.k ≠ 1 → kids.len = 0) ∧ (x.k = 1 → x.sp = 0 → (inL voidL x.n = true → kids.len = 0) ∧ (inL voidL x.n = false → inL rawL x.n = true → kids.texts))
def SFine : Fo → Prop
  | .nil => True
  | .cons k sp n t al kids rest => NodeIs ⟨k, sp, n, t, al⟩ ∧ KidsIs ⟨k, sp, n, t, al⟩ kids ∧ SFine kids ∧ SFine rest
def AllMay (ch : List Nd) : Fo → Prop
  | .nil => True
  | .cons k _ _ _ _ _ rest => MayHold ch k ∧ AllMay ch rest
theorem raw_not_void {s : ByteArray} (h : inL rawL s = true) : inL voidL s = false := by
  rw [inL, List.any_eq_true] at h
  obtain ⟨l, hl, he⟩ := h
  rw [beq_iff_eq] at he
  rw [inL, ← he]
  simp [rawL] at hl
  rcases hl with rfl | rfl | rfl | rfl <;> decide
theorem raw_empty {s : ByteArray} (h : s.size = 0) : inL rawL s = false := by
  have : s.toList = [] := is_nil (by omega)
  rw [inL, this]; decide
theorem all_texts (ch : List Nd) (x : Nd) (h : RawN x) : ∀ F : Fo, AllMay (x :: ch) F ↔ F.texts
  | .nil => by simp [AllMay, Fo.texts]
  | .cons k sp n t al kids rest => by
    simp only [AllMay, Fo.texts, all_texts ch x h rest, MayHold]
    exact ⟨fun ⟨⟨a, _⟩, b⟩ => ⟨a h, b⟩, fun ⟨a, b⟩ => ⟨⟨fun _ => a, fun n => absurd h n⟩, b⟩⟩
theorem all_free (ch : List Nd) (x : Nd) (h : ¬ RawN x) (h1 : x.k = 1) (h2 : ¬ VoidN x) : ∀ F : Fo, AllMay (x :: ch) F
  | .nil => trivial
  | .cons _ _ _ _ _ _ rest => ⟨⟨fun r => absurd r h, fun _ => ⟨h1, h2⟩⟩, all_free ch x h h1 h2 rest⟩
theorem all_none (ch : List Nd) (x : Nd) (h : ¬ RawN x) (h1 : ¬ (x.k = 1 ∧ ¬ VoidN x)) : ∀ F : Fo, AllMay (x :: ch) F ↔ F.len = 0
  | .nil => by simp [AllMay, Fo.len]
  | .cons k sp n t al kids rest => by
    simp only [AllMay, Fo.len, MayHold]
    exact ⟨fun ⟨⟨_, a⟩, _⟩ => absurd (a h) h1, fun e => by omega⟩
theorem all_kids (ch : List Nd) (x : Nd) (hx : NodeIs x) (F : Fo) : AllMay (x :: ch) F ↔ KidsIs x F := by
  by_cases hr : RawN x
  · rw [all_texts ch x hr]
    obtain ⟨r1, r2⟩ := hr
    have hk : x.k = 1 := by
      rcases hx with ⟨h, _⟩ | ⟨_, _, h⟩ | ⟨_, h⟩
      · exact h
      · have := raw_empty h.2.2.1; simp [this] at r2
      · have := raw_empty h.2.2.1; simp [this] at r2
    have hv := raw_not_void r2
    exact ⟨fun h => ⟨fun n => absurd hk n, fun _ _ => ⟨fun v => by simp [hv] at v, fun _ _ => h⟩⟩, fun h => (h.2 hk r1).2 hv r2⟩
  · by_cases he : x.k = 1 ∧ ¬ VoidN x
    · obtain ⟨h1, h2⟩ := he
      refine ⟨fun _ => ⟨fun n => absurd h1 n, fun _ s => ⟨fun v => absurd ⟨s, v⟩ h2, fun _ r => absurd ⟨s, r⟩ hr⟩⟩, fun _ => all_free ch x hr h1 h2 F⟩
    · rw [all_none ch x hr he]
      constructor
      · intro h
        refine ⟨fun _ => h, fun _ s => ⟨fun _ => h, fun _ r => absurd ⟨s, r⟩ hr⟩⟩
      · rintro ⟨h1, h2⟩
        by_cases hk : x.k = 1
        · have hv : VoidN x := Classical.byContradiction fun n => he ⟨hk, n⟩
          exact (h2 hk hv.1).1 hv.2
        · exact h1 hk
theorem fine_iff : ∀ (F : Fo) (ch : List Nd), Fine ch F ↔ AllMay ch F ∧ SFine F
  | .nil, _ => by simp [Fine, AllMay, SFine]
  | .cons k sp n t al kids rest, ch => by
    simp only [Fine, AllMay, SFine, fine_iff kids, fine_iff rest]
    constructor
    · rintro ⟨a, b, ⟨c, d⟩, e, f⟩; exact ⟨⟨b, e⟩, a, (all_kids ch _ a kids).1 c, d, f⟩
    · rintro ⟨⟨b, e⟩, a, c, d, f⟩; exact ⟨a, b, ⟨(all_kids ch _ a kids).2 c, d⟩, e, f⟩
theorem all_top : ∀ F : Fo, AllMay [] F
  | .nil => trivial
  | .cons _ _ _ _ _ _ rest => ⟨trivial, all_top rest⟩
theorem fine_top (F : Fo) : Fine [] F ↔ SFine F := by rw [fine_iff]; exact ⟨fun h => h.2, fun h => ⟨all_top F, h⟩⟩
/-- right at a depth that is left -/
def GoodAt (d : Nat) (F : Fo) : Prop := F.nodes ≤ 60 ∧ F.deep ≤ d ∧ SFine F
theorem good_at (F : Fo) : Good F ↔ GoodAt 10 F := by simp [Good, GoodAt, fine_top]
end Go.Proofs.YthdkkpbhijlpaaaGreat
namespace Go.Proofs.YthdkkpbhijlpaaaGreat
open Go.ChangeShapes Go.WideShapes Go.ChangeAt Go.RowKit Go.Deep

/-- what was there stays, but for the blocks of C -/
structure But (C : Nat → Prop) (w w' : World) : Prop where
  os : w'.os = w.os
  tape : w'.tape = w.tape
  output : w'.output = w.output
  size : w.heap.size ≤ w'.heap.size
  block : ∀ k, k < w.heap.size → ¬ C k → w'.heap[k]? = w.heap[k]?
theorem But.refl (C : Nat → Prop) (w : World) : But C w w := ⟨rfl, rfl, rfl, Nat.le_refl _, fun _ _ _ => rfl⟩
theorem But.trans {C D : Nat → Prop} {a b c : World} (h : But C a b) (k : But D b c) (hD : ∀ i, D i → C i ∨ a.heap.size ≤ i) : But C a c :=
  ⟨k.os.trans h.os, k.tape.trans h.tape, k.output.trans h.output, Nat.le_trans h.size k.size, fun i hi hC =>
    (k.block i (Nat.lt_of_lt_of_le hi h.size) fun d => (hD i d).elim hC fun x => absurd hi (Nat.not_lt.2 x)).trans (h.block i hi hC)⟩
theorem But.mono {C D : Nat → Prop} {w w' : World} (h : But C w w') (hs : ∀ k, C k → D k) : But D w w' := ⟨h.os, h.tape, h.output, h.size, fun k hk hd => h.block k hk fun c => hd (hs k c)⟩
theorem But.of_below {C : Nat → Prop} {w w' : World} (h : Below w.heap.size w w') : But C w w' := ⟨h.os, h.tape, h.output, h.size, fun k hk _ => h.block k hk⟩
theorem But.below {C : Nat → Prop} {w w' : World} {B : Nat} (h : But C w w') (hC : ∀ k, C k → B ≤ k) (hB : B ≤ w.heap.size) : Below B w w' :=
  ⟨h.os, h.tape, h.output, h.size, fun k hk => h.block k (Nat.lt_of_lt_of_le hk hB) fun c => absurd hk (Nat.not_lt.2 (hC k c))⟩
theorem But.drew {C : Nat → Prop} {a w : World} (h : But C a w) : But C a w.drew := ⟨h.os, h.tape, h.output, h.size, h.block⟩
theorem But.cell {C : Nat → Prop} {w w' : World} (h : But C w w') {p : Addr} (hp : p.block < w.heap.size) (hC : ¬ C p.block) : w'.cell? p = w.cell? p := World.cell?_of_block (w := w) (h.block p.block hp hC)
theorem But.frozen {C : Nat → Prop} {w w' : World} (h : But C w w') {p : Addr} (hp : p.block < w.heap.size) (hC : ¬ C p.block) : w'.frozen? p = w.frozen? p := World.frozen?_of_block (w := w) (h.block p.block hp hC)
theorem But.setCell {C : Nat → Prop} {a w : World} (h : But C a w) {p : Addr} (hp : C p.block ∨ a.heap.size ≤ p.block) (u : Value) : But C a (w.setCell p u) :=
  ⟨h.os, h.tape, h.output, by rw [World.size_setCell]; exact h.size, fun k hk hC => (Below.heap_setCell w p u k (by rintro rfl; rcases hp with c | c; exact hC c; omega)).trans (h.block k hk hC)⟩
theorem But.alloc {C : Nat → Prop} {a w : World} (h : But C a w) (o : Obj) : But C a (w.alloc o) :=
  ⟨h.os, h.tape, h.output, by have := h.size; simp; omega, fun k hk hC => (Below.heap_alloc w o k (Nat.lt_of_lt_of_le hk h.size)).trans (h.block k hk hC)⟩
def No (_ : Nat) : Prop := False
theorem But.none {C : Nat → Prop} {w w' : World} (h : But No w w') : But C w w' := h.mono fun _ h => h.elim
/-- new blocks at most, and none of them of bytes -/
structure Kin (w w' : World) : Prop where
  but : But No w w'
  new : ∀ k c fz, w.heap.size ≤ k → w'.heap[k]? = some (.cells c 5 fz) → False
theorem Kin.refl (w : World) : Kin w w := ⟨But.refl _ _, fun k c fz hk h => by rw [Array.getElem?_eq_none hk] at h; cases h⟩
theorem Kin.drew {a w : World} (h : Kin a w) : Kin a w.drew := ⟨h.but.drew, h.new⟩
theorem Kin.alloc {a w : World} (h : Kin a w) (cs : Array Value) (t : TypeId) (ht : t ≠ 5) : Kin a (w.alloc (.cells cs t)) := ⟨h.but.alloc _, fun k c fz hk hc => by
  rw [show (w.alloc (.cells cs t)).heap = w.heap.push (.cells cs t) from rfl, Array.getElem?_push] at hc
  split at hc
  · injection hc with hc; injection hc with _ hc _; exact ht hc
  · exact h.new k c fz hk hc⟩
theorem FoAt.but {C : Nat → Prop} {w w' : World} {lo hi : Nat} {A : Option Addr} {F : Fo} {b o : Nat} (hA : RowAt lo hi A F.len b o) (h : FoAt w lo hi b o F) (hB : But C w w') (hh : hi ≤ w.heap.size) (hC : ∀ k, C k → hi ≤ k) : FoAt w' lo hi b o F :=
  h.carry (Nat.le_refl _) (Nat.le_refl _) (fun b o _ h2 => hB.cell (p := ⟨b, o, none⟩) (by show b < _; omega) (fun c => by have := hC _ c; simp at this; omega))
    (fun j hj => hB.cell (p := ⟨b, o + j, none⟩) (by have := (hA.2 (by omega)).2.2; show b < _; omega) (fun c => by have := hC _ c; have := (hA.2 (by omega)).2.2; simp at *; omega))
/-- a node stands at ⟨b, o⟩, but for its kids -/
def NdAt (w : World) (lo hi b o : Nat) (x : Nd) : Prop :=
  (w.cell? ⟨b, o, none⟩ = some (.int .i64 x.k) ∧ w.cell? ⟨b, o + 1, none⟩ = some (.int .i64 x.sp) ∧ w.cell? ⟨b, o + 2, none⟩ = some (.string x.n) ∧ w.cell? ⟨b, o + 3, none⟩ = some (.string x.t) ∧ x.n.size ≤ maxLen ∧ x.t.size ≤ maxLen) ∧
    (∃ A c b' o', w.cell? ⟨b, o + 4, none⟩ = some (.slice A x.al.length c) ∧ RowC lo hi A x.al.length c b' o' ∧ AsAt w b' o' x.al)
theorem AsAt.but {C : Nat → Prop} {w w' : World} {lo hi b o : Nat} {A : Option Addr} {al : List (ByteArray × ByteArray)} (hA : RowAt lo hi A al.length b o) (h : AsAt w b o al) (hB : But C w w') (hh : hi ≤ w.heap.size) (hC : ∀ k, C k → hi ≤ k) : AsAt w' b o al := by
  cases al with
  | nil => trivial
  | cons x r => exact h.carry fun o => hB.cell (p := ⟨b, o, none⟩) (by have := (hA.2 (by simp)).2.2; show b < _; omega) (fun c => by have := hC _ c; have := (hA.2 (by simp)).2.2; simp at *; omega)
theorem NdAt.but {C : Nat → Prop} {w w' : World} {lo hi b o : Nat} {x : Nd} (h : NdAt w lo hi b o x) (hb : b < hi) (hB : But C w w') (hh : hi ≤ w.heap.size) (hC : ∀ k, C k → hi ≤ k) : NdAt w' lo hi b o x := by
  obtain ⟨⟨h0, h1, h2, h3, h4, h5⟩, A, c, b', o', h6, h7, h8⟩ := h
  have e : ∀ j, w'.cell? ⟨b, j, none⟩ = w.cell? ⟨b, j, none⟩ := fun j => hB.cell (p := ⟨b, j, none⟩) (by show b < _; omega) (fun c => by have := hC _ c; simp at this; omega)
  exact ⟨⟨(e _).trans h0, (e _).trans h1, (e _).trans h2, (e _).trans h3, h4, h5⟩, A, c, b', o', (e _).trans h6, h7, h8.but h7.2 hB hh hC⟩
/-- a spot, and those that it lies within -/
def SpotAt (w : World) (C : Nat → Prop) (lo hi : Nat) : Option Addr → List Nd → Prop
  | p, [] => p = none
  | p, x :: r => ∃ g b o q, p = some ⟨g, 0, none⟩ ∧ hi ≤ g ∧ g < w.heap.size ∧ ¬ C g ∧ w.cell? ⟨g, 0, none⟩ = some (.pointer (some ⟨b, o, none⟩)) ∧ w.cell? ⟨g, 2, none⟩ = some (.pointer q) ∧ b < hi ∧ NdAt w lo hi b o x ∧ SpotAt w C lo hi q r
theorem SpotAt.but {C D : Nat → Prop} {w w' : World} {lo hi : Nat} (hB : But C w w') (hh : hi ≤ w.heap.size) (hC : ∀ k, C k → hi ≤ k) (hD : ∀ k, D k → C k ∨ w.heap.size ≤ k) : ∀ {ch : List Nd} {p : Option Addr}, SpotAt w C lo hi p ch → SpotAt w' D lo hi p ch
  | [], _, h => h
  | x :: r, _, ⟨g, b, o, q, h1, h2, h3, h4, h5, h6, h7, h8, h9⟩ =>
    ⟨g, b, o, q, h1, h2, Nat.lt_of_lt_of_le h3 hB.size, fun d => (hD g d).elim h4 fun x => by omega, (hB.cell (p := ⟨g, 0, none⟩) h3 h4).trans h5, (hB.cell (p := ⟨g, 2, none⟩) h3 h4).trans h6, h7, h8.but h7 hB hh hC, SpotAt.but hB hh hC hD h9⟩
/-- what a call of a visitor leaves -/
def Seen {σ : Type} (st : σ → List Nd → σ × Bool) (Inv : σ → (Nat → Prop) → World → Prop) (s : σ) (C : Nat → Prop) (ch : List Nd) (w : World) (e : Ending) (w' : World) : Prop :=
  ∃ D : Nat → Prop, e = .returned (.bool (st s ch).2) ∧ Inv (st s ch).1 D w' ∧ But C w w' ∧ ∀ k, D k → C k ∨ w.heap.size ≤ k
/-- function g, with what it has captured, visits as st says; Inv: its own state, in the blocks C -/
structure Vis (P : Program) (g : Nat) (cap : Array Value) (lo hi : Nat) {σ : Type} (ok : σ → List Nd → Prop) (st : σ → List Nd → σ × Bool) (Inv : σ → (Nat → Prop) → World → Prop) : Prop where
  own : ∀ s C w, Inv s C w → ∀ k, C k → hi ≤ k ∧ k < w.heap.size
  keep : ∀ s C w w', Inv s C w → Kin w w' → Inv s C w'
  call : ∀ s C w q ch, ch ≠ [] → ch.length ≤ 1048576 → ok s ch → Inv s C w → SpotAt w C lo hi q ch → hi ≤ w.heap.size → Calls P g (#[.pointer q] ++ cap) w (Seen st Inv s C ch w)
/-- what a walk over a forest leaves -/
def Gone {σ : Type} (st : σ → List Nd → σ × Bool) (Inv : σ → (Nat → Prop) → World → Prop) (s : σ) (C : Nat → Prop) (ch : List Nd) (F : Fo) (w : World) (e : Ending) (w' : World) : Prop :=
  ∃ D : Nat → Prop, e = .returned (.bool (trav st F ch s).2) ∧ Inv (trav st F ch s).1 D w' ∧ But C w w' ∧ ∀ k, D k → C k ∨ w.heap.size ≤ k
/-- the kids of the node at ⟨b, o⟩ -/
def KidsAt (w : World) (lo hi b o : Nat) (kids : Fo) : Prop := ∃ A c b' o', w.cell? ⟨b, o + 5, none⟩ = some (.slice A kids.len c) ∧ RowC lo hi A kids.len c b' o' ∧ FoAt w lo hi b' o' kids
theorem KidsAt.but {C : Nat → Prop} {w w' : World} {lo hi b o : Nat} {kids : Fo} (h : KidsAt w lo hi b o kids) (hb : b < hi) (hB : But C w w') (hh : hi ≤ w.heap.size) (hC : ∀ k, C k → hi ≤ k) : KidsAt w' lo hi b o kids := by
  obtain ⟨A, c, b', o', h1, h2, h3⟩ := h
  exact ⟨A, c, b', o', (hB.cell (p := ⟨b, o + 5, none⟩) (by show b < _; omega) (fun c => by have := hC _ c; simp at this; omega)).trans h1, h2, h3.but h2.2 hB hh hC⟩
/-- a spot, and those that it lies within, with their places and their kids -/
def SpotP (w : World) (C : Nat → Prop) (lo hi : Nat) : Option Addr → List NP → Prop
  | p, [] => p = none
  | p, x :: r => ∃ g b o q, p = some ⟨g, 0, none⟩ ∧ hi ≤ g ∧ g < w.heap.size ∧ ¬ C g ∧ w.cell? ⟨g, 0, none⟩ = some (.pointer (some ⟨b, o, none⟩)) ∧ w.cell? ⟨g, 2, none⟩ = some (.pointer q) ∧ b < hi ∧ NdAt w lo hi b o x.1 ∧ w.cell? ⟨g, 1, none⟩ = some (.int .i64 (x.2.1 : Int)) ∧ KidsAt w lo hi b o x.2.2 ∧ SpotP w C lo hi q r
theorem SpotP.but {C D : Nat → Prop} {w w' : World} {lo hi : Nat} (hB : But C w w') (hh : hi ≤ w.heap.size) (hC : ∀ k, C k → hi ≤ k) (hD : ∀ k, D k → C k ∨ w.heap.size ≤ k) : ∀ {ch : List NP} {p : Option Addr}, SpotP w C lo hi p ch → SpotP w' D lo hi p ch
  | [], _, h => h
  | x :: r, _, ⟨g, b, o, q, h1, h2, h3, h4, h5, h6, h7, h8, h8', hk, h9⟩ =>
    ⟨g, b, o, q, h1, h2, Nat.lt_of_lt_of_le h3 hB.size, fun d => (hD g d).elim h4 fun x => by omega, (hB.cell (p := ⟨g, 0, none⟩) h3 h4).trans h5, (hB.cell (p := ⟨g, 2, none⟩) h3 h4).trans h6, h7, h8.but h7 hB hh hC, (hB.cell (p := ⟨g, 1, none⟩) h3 h4).trans h8', hk.but h7 hB hh hC, SpotP.but hB hh hC hD h9⟩
theorem SpotP.bare {C : Nat → Prop} {w : World} {lo hi : Nat} : ∀ {ch : List NP} {p : Option Addr}, SpotP w C lo hi p ch → SpotAt w C lo hi p (ch.map Prod.fst)
  | [], _, h => h
  | _ :: _, _, ⟨g, b, o, q, h1, h2, h3, h4, h5, h6, h7, h8, _, _, h9⟩ => ⟨g, b, o, q, h1, h2, h3, h4, h5, h6, h7, h8, SpotP.bare h9⟩
def Seen2 {σ : Type} (st : σ → List NP → σ × Bool) (Inv : σ → (Nat → Prop) → World → Prop) (s : σ) (C : Nat → Prop) (ch : List NP) (w : World) (e : Ending) (w' : World) : Prop :=
  ∃ D : Nat → Prop, e = .returned (.bool (st s ch).2) ∧ Inv (st s ch).1 D w' ∧ But C w w' ∧ ∀ k, D k → C k ∨ w.heap.size ≤ k
structure Vis2 (P : Program) (g : Nat) (cap : Array Value) (lo hi : Nat) {σ : Type} (ok : σ → List NP → Prop) (st : σ → List NP → σ × Bool) (Inv : σ → (Nat → Prop) → World → Prop) : Prop where
  own : ∀ s C w, Inv s C w → ∀ k, C k → hi ≤ k ∧ k < w.heap.size
  keep : ∀ s C w w', Inv s C w → Kin w w' → Inv s C w'
  call : ∀ s C w q ch, ch ≠ [] → ch.length ≤ 1048576 → ok s ch → Inv s C w → SpotP w C lo hi q ch → hi ≤ w.heap.size → Calls P g (#[.pointer q] ++ cap) w (Seen2 st Inv s C ch w)
def Gone2 {σ : Type} (st : σ → List NP → σ × Bool) (Inv : σ → (Nat → Prop) → World → Prop) (s : σ) (C : Nat → Prop) (ch : List NP) (F : Fo) (j : Nat) (w : World) (e : Ending) (w' : World) : Prop :=
  ∃ D : Nat → Prop, e = .returned (.bool (trav2 st F ch j s).2) ∧ Inv (trav2 st F ch j s).1 D w' ∧ But C w w' ∧ ∀ k, D k → C k ∨ w.heap.size ≤ k
theorem Vis.two {P : Program} {g : Nat} {cap : Array Value} {lo hi : Nat} {σ : Type} {ok : σ → List Nd → Prop} {st : σ → List Nd → σ × Bool} {Inv : σ → (Nat → Prop) → World → Prop} (V : Vis P g cap lo hi ok st Inv) : Vis2 P g cap lo hi (Go.Proofs.YthdkkpbhijlpaaaGreat.bare ok) (Go.Proofs.YthdkkpbhijlpaaaGreat.bare st) Inv where
  own := V.own
  keep := V.keep
  call := fun s C w q ch hne hl ho hI hS hh => V.call s C w q (ch.map Prod.fst) (by simpa using hne) (by simpa using hl) ho hI hS.bare hh
end Go.Proofs.YthdkkpbhijlpaaaGreat
namespace Go.Proofs.YthdkkpbhijlpaaaGreat
open Go.ChangeShapes Go.WideShapes Go.ChangeAt Go.RowKit Go.Deep

/-- a row of nodes, and all that it leads to -/
def KRow (w : World) (K : Option Addr) (kids : Fo) (bk : List Nat) : Prop := (kids.len = 0 ∧ bk = []) ∨ ∃ c b', K = some ⟨c, 0, none⟩ ∧ bk = c :: b' ∧ FoLay w c 0 kids b'
theorem KRow.same {w w' : World} {K : Option Addr} {kids : Fo} {bk : List Nat} (h : KRow w K kids bk) (hb : ∀ k ∈ bk, w'.heap[k]? = w.heap[k]?) : KRow w' K kids bk := by
  rcases h with h | ⟨c, b', e1, e2, e3⟩
  · exact Or.inl h
  · subst e2; exact Or.inr ⟨c, b', e1, rfl, e3.same (hb c (by simp)) fun k hk => hb k (by simp [hk])⟩
end Go.Proofs.YthdkkpbhijlpaaaGreat
