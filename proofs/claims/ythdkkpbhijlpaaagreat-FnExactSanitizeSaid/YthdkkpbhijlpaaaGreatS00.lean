import Derived.Test.YthdkkpbhijlpaaaGreatRows
import Derived.WalkKit
import Derived.ProofKit
import Derived.OpenShut
import Derived.ShutString
import Derived.ChangeOld
import Derived.Below
import Derived.Lib.Hide
import Derived.Deep.Slices
import Derived.Deep.Strs
import Derived.Deep.SlicePairs
set_option linter.unusedVariables false
namespace Go.Proofs.YthdkkpbhijlpaaaGreat
open Go.ChangeShapes Go.WideShapes Go.ChangeAt Go.RowKit Go.Deep

theorem addr_block (a : Addr) (j : Nat) : (a.add j).block = a.block := by unfold Addr.add; split <;> rfl
/-- A forest: a node (kind, space, name, text, attributes), what stands within it, what stands behind it. -/
inductive Fo where
  | nil
  | cons (k sp : Int) (n t : ByteArray) (al : List (ByteArray × ByteArray)) (kids rest : Fo)
def Fo.len : Fo → Nat
  | .nil => 0
  | .cons _ _ _ _ _ _ r => r.len + 1
/-- from ⟨b, o⟩ on the attributes stand, two cells each -/
def AsAt (w : World) (b : Nat) : Nat → List (ByteArray × ByteArray) → Prop
  | _, [] => True
  | o, x :: r => w.cell? ⟨b, o, none⟩ = some (.string x.1) ∧ w.cell? ⟨b, o + 1, none⟩ = some (.string x.2) ∧ x.1.size ≤ maxLen ∧ x.2.size ≤ maxLen ∧ AsAt w b (o + 2) r
/-- a row's address: only a row with something in it has one -/
def RowAt (lo hi : Nat) (A : Option Addr) (n b o : Nat) : Prop := n ≤ maxLen ∧ (0 < n → A = some ⟨b, o, none⟩ ∧ lo ≤ b ∧ b < hi)
/-- .. and within its capacity -/
def RowC (lo hi : Nat) (A : Option Addr) (n c b o : Nat) : Prop := n ≤ c ∧ RowAt lo hi A n b o
/-- from ⟨b, o⟩ on the forest stands, six cells a node; all of it lies in blocks from lo up to hi -/
def FoAt (w : World) (lo hi : Nat) : Nat → Nat → Fo → Prop
  | _, _, .nil => True
  | b, o, .cons k sp n t al kids rest =>
    (w.cell? ⟨b, o, none⟩ = some (.int .i64 k) ∧ w.cell? ⟨b, o + 1, none⟩ = some (.int .i64 sp) ∧ w.cell? ⟨b, o + 2, none⟩ = some (.string n) ∧ w.cell? ⟨b, o + 3, none⟩ = some (.string t) ∧ n.size ≤ maxLen ∧ t.size ≤ maxLen) ∧
    (∃ A c b' o', w.cell? ⟨b, o + 4, none⟩ = some (.slice A al.length c) ∧ RowC lo hi A al.length c b' o' ∧ AsAt w b' o' al) ∧
    (∃ A c b' o', w.cell? ⟨b, o + 5, none⟩ = some (.slice A kids.len c) ∧ RowC lo hi A kids.len c b' o' ∧ FoAt w lo hi b' o' kids) ∧
    FoAt w lo hi b (o + 6) rest
theorem RowAt.mono {lo hi lo' hi' : Nat} {A : Option Addr} {n b o : Nat} (h : RowAt lo hi A n b o) (hl : lo' ≤ lo) (hh : hi ≤ hi') : RowAt lo' hi' A n b o :=
  ⟨h.1, fun h0 => ⟨(h.2 h0).1, by have := (h.2 h0).2.1; omega, by have := (h.2 h0).2.2; omega⟩⟩
theorem AsAt.carry {w w' : World} {b : Nat} : ∀ {al : List (ByteArray × ByteArray)} {o : Nat}, AsAt w b o al → (∀ o, w'.cell? ⟨b, o, none⟩ = w.cell? ⟨b, o, none⟩) → AsAt w' b o al
  | [], _, _, _ => trivial
  | _ :: _, _, ⟨h1, h2, h3, h4, h5⟩, hs => ⟨(hs _).trans h1, (hs _).trans h2, h3, h4, AsAt.carry h5 hs⟩
theorem FoAt.carry {w w' : World} {lo hi lo' hi' : Nat} (hl : lo' ≤ lo) (hh : hi ≤ hi') (hs : ∀ b o, lo ≤ b → b < hi → w'.cell? ⟨b, o, none⟩ = w.cell? ⟨b, o, none⟩) :
    ∀ {F : Fo} {b o : Nat}, FoAt w lo hi b o F → (∀ j, j < 6 * F.len → w'.cell? ⟨b, o + j, none⟩ = w.cell? ⟨b, o + j, none⟩) → FoAt w' lo' hi' b o F
  | .nil, _, _, _, _ => trivial
  | .cons k sp n t al kids rest, b, o, ⟨⟨c0, c1, c2, c3, c4, c5⟩, ⟨A, c, b', o', d1, d2, d3⟩, ⟨K, kc, kb, ko, e1, e2, e3⟩, hr⟩, s => by
    have hL : 6 ≤ 6 * (Fo.cons k sp n t al kids rest).len := by simp [Fo.len]; omega
    refine ⟨⟨(s 0 (by omega)).trans c0, (s 1 (by omega)).trans c1, (s 2 (by omega)).trans c2, (s 3 (by omega)).trans c3, c4, c5⟩, ⟨A, c, b', o', (s 4 (by omega)).trans d1, ⟨d2.1, d2.2.mono hl hh⟩, ?_⟩,
      ⟨K, kc, kb, ko, (s 5 (by omega)).trans e1, ⟨e2.1, e2.2.mono hl hh⟩, FoAt.carry hl hh hs e3 fun j hj => ?_⟩, FoAt.carry hl hh hs hr fun j hj => ?_⟩
    · cases al with
      | nil => trivial
      | cons x r =>
        have := d2.2.2 (by simp)
        exact d3.carry fun o => hs _ _ this.2.1 this.2.2
    · have := e2.2.2 (by omega)
      exact hs _ _ this.2.1 this.2.2
    · have := s (6 + j) (by simp [Fo.len]; omega)
      rwa [← Nat.add_assoc] at this
theorem FoAt.mono {w : World} {lo hi lo' hi' : Nat} (hl : lo' ≤ lo) (hh : hi ≤ hi') {F : Fo} {b o : Nat} (h : FoAt w lo hi b o F) : FoAt w lo' hi' b o F := h.carry hl hh (fun _ _ _ _ => rfl) (fun _ _ => rfl)
/-- what lies below B stays, while all below B stays -/
theorem FoAt.below {w w' : World} {lo hi B : Nat} {A : Option Addr} {F : Fo} {b o : Nat} (hA : RowAt lo hi A F.len b o) (h : FoAt w lo hi b o F) (hB : Below B w w') (hh : hi ≤ B) : FoAt w' lo hi b o F :=
  h.carry (Nat.le_refl _) (Nat.le_refl _) (fun b o _ h2 => hB.cell (p := ⟨b, o, none⟩) (by show b < B; omega)) (fun j hj => hB.cell (p := ⟨b, o + j, none⟩) (by have := (hA.2 (by omega)).2.2; show b < B; omega))
/-- forests side by side -/
def Fo.app : Fo → Fo → Fo
  | .nil, G => G
  | .cons k sp n t al kids rest, G => .cons k sp n t al kids (rest.app G)
theorem Fo.len_app : ∀ (F G : Fo), (F.app G).len = F.len + G.len
  | .nil, G => by simp [Fo.app, Fo.len]
  | .cons _ _ _ _ _ _ r, G => by simp [Fo.app, Fo.len, Fo.len_app r G]; omega
theorem Fo.app_nil : ∀ F : Fo, F.app .nil = F
  | .nil => rfl
  | .cons k sp n t al kids r => by simp [Fo.app, Fo.app_nil r]
theorem Fo.app_assoc : ∀ F G H : Fo, (F.app G).app H = F.app (G.app H)
  | .nil, _, _ => rfl
  | .cons k sp n t al kids r, G, H => by simp [Fo.app, Fo.app_assoc r G H]
theorem FoAt.app {w : World} {lo hi : Nat} : ∀ {F G : Fo} {b o : Nat}, FoAt w lo hi b o F → FoAt w lo hi b (o + 6 * F.len) G → FoAt w lo hi b o (F.app G)
  | .nil, G, b, o, _, hG => by simpa [Fo.app, Fo.len] using hG
  | .cons k sp n t al kids r, G, b, o, ⟨h1, h2, h3, h4⟩, hG => ⟨h1, h2, h3, FoAt.app h4 (by simp only [Fo.len] at hG; rw [show o + 6 + 6 * r.len = o + 6 * (r.len + 1) by omega]; exact hG)⟩
def Fo.one (k sp : Int) (n t : ByteArray) (al : List (ByteArray × ByteArray)) (kids : Fo) : Fo := .cons k sp n t al kids .nil
/-- a new block's cell -/
theorem new_cell {w : World} {cs : Array Value} {t : TypeId} {j : Nat} {v : Value} (hv : cs[j]? = some v) : (w.alloc (.cells cs t)).cell? ⟨w.heap.size, j, none⟩ = some v := by
  rw [World.cell?_alloc_new]; exact hv
/-- .. and behind a call that leaves what was there -/
theorem box_cell {w w' : World} {cs : Array Value} {t : TypeId} {j : Nat} {v : Value} (h : Below (w.alloc (.cells cs t)).heap.size (w.alloc (.cells cs t)) w') (hv : cs[j]? = some v) : w'.cell? ⟨w.heap.size, j, none⟩ = some v :=
  (h.cell (p := ⟨w.heap.size, j, none⟩) (by show w.heap.size < _; simp)).trans (new_cell hv)
/-- block g holds just these cells, and they may be written -/
def Lay (w : World) (g : Nat) (cs : Array Value) : Prop := (∀ j, w.cell? ⟨g, j, none⟩ = cs[j]?) ∧ ∀ j, w.frozen? ⟨g, j, none⟩ = false
theorem Lay.below {w w' : World} {g B : Nat} {cs : Array Value} (h : Lay w g cs) (hB : Below B w w') (hg : g < B) : Lay w' g cs :=
  ⟨fun j => (hB.cell (p := ⟨g, j, none⟩) hg).trans (h.1 j), fun j => (hB.frozen (p := ⟨g, j, none⟩) hg).trans (h.2 j)⟩
theorem Lay.new (w : World) (cs : Array Value) (t : TypeId) : Lay (w.alloc (.cells cs t)) w.heap.size cs := ⟨fun j => World.cell?_alloc_new _ _ _ _, fun j => by simp⟩
theorem Lay.alloc {w : World} {g : Nat} {cs : Array Value} (h : Lay w g cs) (hg : g < w.heap.size) (o : Obj) : Lay (w.alloc o) g cs :=
  h.below ((Below.refl w.heap.size w).alloc (Nat.le_refl _) o) hg
theorem Lay.set {w : World} {g : Nat} {cs : Array Value} (h : Lay w g cs) (i : Nat) (v : Value) : Lay (w.setCell ⟨g, i, none⟩ v) g (cs.setIfInBounds i v) := by
  refine ⟨fun j => ?_, fun j => by rw [World.frozen?_setCell]; exact h.2 j⟩
  by_cases e : j = i
  · subst e
    by_cases hj : j < cs.size
    · rw [World.cell?_setCell_same (u := cs[j]) _ _ _ (by rw [h.1]; simp [hj])]; simp [hj]
    · have h1 := h.1 j
      have : (w.setCell ⟨g, j, none⟩ v).cell? ⟨g, j, none⟩ = none := by
        have h2 : w.cell? ⟨g, j, none⟩ = none := by rw [h1]; exact Array.getElem?_eq_none (by omega)
        cases hc : (w.setCell ⟨g, j, none⟩ v).cell? ⟨g, j, none⟩ with
        | none => rfl
        | some u =>
          exfalso
          simp only [World.cell?, World.setCell] at hc h2
          simp [Array.getElem?_modify] at hc
          cases hb : w.heap[g]? with
          | none => simp [hb] at hc
          | some ob =>
            simp [hb] at hc h2
            cases ob <;> simp_all
      rw [this]; exact (Array.getElem?_eq_none (by simp; omega)).symm
  · rw [World.cell?_setCell_other (h := by simp <;> omega), h.1]; simp [Ne.symm e]
theorem oth0 {w : World} {g i b o : Nat} {v : Value} (h : g ≠ b) : (w.setCell ⟨g, i, none⟩ v).cell? ⟨b, o, none⟩ = w.cell? ⟨b, o, none⟩ := World.cell?_setCell_other _ _ _ _ (fun e => h (by injection e))
theorem Lay.setOther {w : World} {g g' : Nat} {cs : Array Value} (h : Lay w g cs) (hg : g' ≠ g) (i : Nat) (v : Value) : Lay (w.setCell ⟨g', i, none⟩ v) g cs :=
  ⟨fun j => by rw [oth0 hg]; exact h.1 j, fun j => by rw [World.frozen?_setCell]; exact h.2 j⟩
/-! ### An argument opened -/
section
variable {H : Type} {enc : TypeId × Value → H} {P : Program} {w : World} {base : Nat} {spare : Nat → Bool} {held : Bool}

/-- a list of attributes: two one-cell strings each -/
theorem open_as {t e : TypeId} {f0 f1 : Field} {fuel : Nat} {cs : List Value} {x : DataW H × List MemPlace} (ht : P.underlying t = some (.slice e)) (he : P.underlying e = some (.struct #[f0, f1]))
    (ce : P.cellsOf e = 2) (o0 : f0.offset = 0) (o1 : f1.offset = 1) (c0 : P.cellsOf f0.type = 1) (c1 : P.cellsOf f1.type = 1) (s0 : P.underlying f0.type = some .string) (s1 : P.underlying f1.type = some .string)
    (h : DataW.trod enc P w base spare held fuel t cs = some x) :
    ∃ (al : List (ByteArray × ByteArray)) (A : Option Addr) (c b o : Nat), cs = [.slice A al.length c] ∧ RowC 0 w.heap.size A al.length c b o ∧ AsAt w b o al := by
  rcases open_slice_pairs ht he ce o0 o1 c0 c1 h with ⟨rfl, _⟩ | ⟨a, len, cap, m, n, V0, V1, D0, D1, P0, P1, rfl, _, hl, hm, hmm, _, hx⟩
  · exact ⟨[], none, 0, 0, 0, rfl, ⟨Nat.le_refl _, Nat.zero_le _, fun h => absurd h (Nat.lt_irrefl _)⟩, trivial⟩
  have hlm : len ≤ m := by rw [hmm]; split <;> omega
  obtain ⟨b, o, spot⟩ := a
  by_cases hz : len = 0
  · subst hz
    exact ⟨[], _, cap, b, o, rfl, ⟨Nat.zero_le _, Nat.zero_le _, fun h => absurd h (Nat.lt_irrefl _)⟩, trivial⟩
  obtain ⟨hc, _⟩ := hx 0 (by omega)
  have hspot : spot = none := by simpa [Addr.add] using World.cell?_spot hc
  subst hspot
  have hlt : b < w.heap.size := by
    have := World.block_lt_of_cell? w _ hc
    rwa [addr_block] at this
  have key : ∀ j, j ≤ len → ∃ al : List (ByteArray × ByteArray), al.length = j ∧ AsAt w b (o + (len - j) * 2) al := by
    intro j
    induction j with
    | zero => intro _; exact ⟨[], rfl, trivial⟩
    | succ j ih =>
      intro hj
      obtain ⟨al, hlen, has⟩ := ih (by omega)
      obtain ⟨h0, h1, h2, h3⟩ := hx (len - (j + 1)) (by omega)
      obtain ⟨s, e0, _, z0⟩ := DataW.trod_string s0 h2
      obtain ⟨s', e1, _, z1⟩ := DataW.trod_string s1 h3
      simp at e0 e1
      rw [e0, add_plain] at h0
      rw [e1, add_plain] at h1
      refine ⟨(s, s') :: al, by simp [hlen], h0, by rw [Nat.add_assoc]; exact h1, z0, z1, ?_⟩
      rw [show o + (len - (j + 1)) * 2 + 2 = o + (len - j) * 2 by omega]
      exact has
  obtain ⟨al, hlen, has⟩ := key len (Nat.le_refl _)
  refine ⟨al, _, cap, b, o, by rw [hlen], ⟨by omega, by omega, fun _ => ⟨rfl, Nat.zero_le _, hlt⟩⟩, ?_⟩
  simpa using has
/-- a list of nodes, to whatever depth -/
theorem open_fo {t e ta ea : TypeId} {g0 g1 f0 f1 f2 f3 f4 f5 : Field} (ht : P.underlying t = some (.slice e)) (he : P.underlying e = some (.struct #[f0, f1, f2, f3, f4, f5]))
    (hta : P.underlying ta = some (.slice ea)) (hea : P.underlying ea = some (.struct #[g0, g1])) (ce : P.cellsOf e = 6) (cea : P.cellsOf ea = 2)
    (og : g0.offset = 0 ∧ g1.offset = 1 ∧ P.cellsOf g0.type = 1 ∧ P.cellsOf g1.type = 1 ∧ P.underlying g0.type = some .string ∧ P.underlying g1.type = some .string)
    (of : f0.offset = 0 ∧ f1.offset = 1 ∧ f2.offset = 2 ∧ f3.offset = 3 ∧ f4.offset = 4 ∧ f5.offset = 5)
    (cf : P.cellsOf f0.type = 1 ∧ P.cellsOf f1.type = 1 ∧ P.cellsOf f2.type = 1 ∧ P.cellsOf f3.type = 1 ∧ P.cellsOf f4.type = 1 ∧ P.cellsOf f5.type = 1)
    (uf : P.underlying f0.type = some (.int .i64) ∧ P.underlying f1.type = some (.int .i64) ∧ P.underlying f2.type = some .string ∧ P.underlying f3.type = some .string ∧ f4.type = ta ∧ f5.type = t) :
    ∀ (fuel : Nat) (cs : List Value) (x : DataW H × List MemPlace), DataW.trod enc P w base spare held fuel t cs = some x →
    ∃ (F : Fo) (A : Option Addr) (c b o : Nat), cs = [.slice A F.len c] ∧ RowC 0 w.heap.size A F.len c b o ∧ FoAt w 0 w.heap.size b o F := by
  obtain ⟨q0, q1, q2, q3, q4, q5⟩ := of
  obtain ⟨r0, r1, r2, r3, r4, r5⟩ := cf
  obtain ⟨u0, u1, u2, u3, u4, u5⟩ := uf
  obtain ⟨gq0, gq1, gr0, gr1, gu0, gu1⟩ := og
  intro fuel
  induction fuel using Nat.strongRecOn with
  | _ fuel ih =>
  intro cs x h
  have hf0 : fuel ≠ 0 := by rintro rfl; simp [DataW.trod] at h
  obtain ⟨fu, rfl⟩ : ∃ fu, fuel = fu + 1 := ⟨fuel - 1, by omega⟩
  rcases DataW.trod_slice ht h with ⟨rfl, _⟩ | ⟨a, len, cap, elems, rest, n, hn, rfl, _, _, hl, hm, hlen, hel, _, _⟩
  · exact ⟨.nil, none, 0, 0, 0, rfl, ⟨Nat.le_refl _, Nat.zero_le _, fun h => absurd h (Nat.lt_irrefl _)⟩, trivial⟩
  obtain rfl : n = fu := by omega
  have hx : ∀ i, i < len → ∃ cs', w.cells? base (a.add (i * 6)) 6 = some cs' ∧ ∃ y, DataW.trod enc P w base spare held n e cs' = some y := by
    intro i hi
    have := hel i hi
    rw [List.getElem?_eq_getElem (by omega), ce] at this
    obtain ⟨cs', h1, h2⟩ := Option.bind_eq_some_iff.1 this
    exact ⟨cs', h1, _, h2⟩
  obtain ⟨b, o, spot⟩ := a
  by_cases hz : len = 0
  · subst hz
    exact ⟨.nil, _, cap, b, o, rfl, ⟨Nat.zero_le _, Nat.zero_le _, fun h => absurd h (Nat.lt_irrefl _)⟩, trivial⟩
  have hsp : spot = none ∧ b < w.heap.size := by
    obtain ⟨cs', h1, y, h2⟩ := hx 0 (by omega)
    obtain ⟨_, hl6, hcell⟩ := World.cells?_some h1
    have hc := hcell 0 (by omega)
    rw [List.getElem?_eq_getElem (by omega)] at hc
    refine ⟨by simpa [Addr.add] using World.cell?_spot hc, ?_⟩
    have := World.block_lt_of_cell? w _ hc
    rwa [addr_block, addr_block] at this
  obtain ⟨rfl, hlt⟩ := hsp
  have key : ∀ j, j ≤ len → ∃ F : Fo, F.len = j ∧ FoAt w 0 w.heap.size b (o + (len - j) * 6) F := by
    intro j
    induction j with
    | zero => intro _; exact ⟨.nil, rfl, trivial⟩
    | succ j ihj =>
      intro hj
      obtain ⟨F, hlen, hF⟩ := ihj (by omega)
      obtain ⟨cs', h1, y, h2⟩ := hx (len - (j + 1)) (by omega)
      obtain ⟨_, hl6, hcell⟩ := World.cells?_some h1
      obtain ⟨xs, k, hk, _, _, hxl, hf⟩ := DataW.trod_struct he h2
      match xs, hxl, cs', hl6 with
      | [y0, y1, y2, y3, y4, y5], _, [v0, v1, v2, v3, v4, v5], _ =>
        have e0 := hf 0 f0 rfl
        have e1 := hf 1 f1 rfl
        have e2 := hf 2 f2 rfl
        have e3 := hf 3 f3 rfl
        have e4 := hf 4 f4 rfl
        have e5 := hf 5 f5 rfl
        simp [q0, q1, q2, q3, q4, q5, r0, r1, r2, r3, r4, r5] at e0 e1 e2 e3 e4 e5
        have d0 := hcell 0 (by omega)
        have d1 := hcell 1 (by omega)
        have d2 := hcell 2 (by omega)
        have d3 := hcell 3 (by omega)
        have d4 := hcell 4 (by omega)
        have d5 := hcell 5 (by omega)
        rw [Go.Deep.add_add, add_plain] at d0 d1 d2 d3 d4 d5
        simp at d0 d1 d2 d3 d4 d5
        obtain ⟨z0, p0, _, _⟩ := DataW.trod_int u0 e0
        obtain ⟨z1, p1, _, _⟩ := DataW.trod_int u1 e1
        obtain ⟨s2, p2, _, m2⟩ := DataW.trod_string u2 e2
        obtain ⟨s3, p3, _, m3⟩ := DataW.trod_string u3 e3
        rw [u4] at e4
        rw [u5] at e5
        obtain ⟨al, A, c, b', o', p4, l4, t4⟩ := open_as hta hea cea gq0 gq1 gr0 gr1 gu0 gu1 e4
        obtain ⟨K, A5, c5, b5, o5, p5, l5, t5⟩ := ih k (by omega) _ _ e5
        simp at p0 p1 p2 p3 p4 p5
        subst p0 p1 p2 p3 p4 p5
        refine ⟨.cons z0 z1 s2 s3 al K F, by simp [Fo.len, hlen], ⟨d0, by simpa [Nat.add_assoc] using d1, by simpa [Nat.add_assoc] using d2, by simpa [Nat.add_assoc] using d3, m2, m3⟩,
          ⟨A, c, b', o', by simpa [Nat.add_assoc] using d4, l4, t4⟩, ⟨A5, c5, b5, o5, by simpa [Nat.add_assoc] using d5, l5, t5⟩, ?_⟩
        rw [show o + (len - (j + 1)) * 6 + 6 = o + (len - j) * 6 by omega]
        exact hF
  obtain ⟨F, hlen, hF⟩ := key len (Nat.le_refl _)
  refine ⟨F, _, cap, b, o, by rw [hlen], ⟨by omega, by omega, fun _ => ⟨rfl, Nat.zero_le _, hlt⟩⟩, ?_⟩
  simpa using hF
end
end Go.Proofs.YthdkkpbhijlpaaaGreat
