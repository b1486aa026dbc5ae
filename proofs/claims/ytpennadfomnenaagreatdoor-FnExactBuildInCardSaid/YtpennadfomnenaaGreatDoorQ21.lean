import Derived.Deep.AppendLies
import Derived.Deep.RegionLaw
import Derived.Test.YtpennadfomnenaaGreatDoorQ20
set_option linter.unusedVariables false
namespace Go.Proofs.YtpennadfomnenaaGreatDoor
open Go.ChangeShapes Go.WideShapes Go.ChangeAt Go.RowKit Go.Deep

/-- what a step of impl's builder leaves; ex: blocks that were given -/
def OutI (bb : Nat) (fp : Nat → Prop) (ex : List Nat) (r : Rs) (w : World) (e : Ending) (w' : World) : Prop :=
  match r with
  | .bad c => e = .returned (.int .i64 c) ∧ Below bb w w'
  | .ok y => e = .returned (.int .i64 0) ∧ But fp w w' ∧ ∃ v v0 pv ps bF bl, BI w' bb y v v0 pv ps bF bl ∧ ∀ k, FpI bb v pv bF bl k → fp k ∨ k ∈ ex ∨ w.heap.size ≤ k
theorem add_bad (bb : Nat) (z : Zi) (v v0 pv : Value) (ps : List Value) (bF bl : List Nat) (k sp : Int) (n t : ByteArray) (al : List (ByteArray × ByteArray)) (A : Option Addr) (ca : Nat) (w : World) (c : Int) (ht : t.size ≤ maxLen)
    (h : BI w bb z v v0 pv ps bF bl) (hbad : z.add k sp n t al = .bad c) :
    Calls Tryz.prog 190 #[.pointer (some ⟨bb, 0, none⟩), .agg #[.int .i64 k, .int .i64 sp, .string n, .string t, .slice A al.length ca, .slice none 0 0]] w fun e w' => e = .returned (.int .i64 c) ∧ Below w.heap.size w w' := by
  obtain ⟨C, d, bs, hpv, _⟩ : ∃ (C : Option Addr) (d : Nat) (bs : Nat), pv = .slice C ps.length d ∧ True := by
    rcases h.op.2 with ⟨rfl, h0⟩ | ⟨g, cap, cur, rfl, _⟩
    · exact ⟨_, _, 0, by rw [h0], trivial⟩
    · exact ⟨_, _, 0, rfl, trivial⟩
  have p1 : w.cell? ⟨bb, 1, none⟩ = some pv := h.lay.1 1
  have p2 : w.cell? ⟨bb, 2, none⟩ = some (.int .i64 (z.c : Int)) := h.lay.1 2
  have hlen := h.len
  have hbb : bb < w.heap.size := World.block_lt_of_cell? w ⟨bb, 1, none⟩ p1
  have hfit := h.fit
  have hc60 := h.fit.2.1
  have h10 := h.fit.2.2.1
  unfold maxLen at ht
  rw [hpv] at p1
  clear h hpv
  unfold Zi.add at hbad
  rw [← hlen] at hbad h10
  have HB := Lib.hid hbad
  clear hbad hlen hfit
  have B1 := Lib.hid ((Below.refl w.heap.size w).alloc (Nat.le_refl _) (.cells #[.int .i64 k, .int .i64 sp, .string n, .string t, .slice A al.length ca, .slice none 0 0] 42))
  by_cases g1 : 10 ≤ ps.length
  · have e : c = 11 := by have := HB.out; rw [if_pos g1] at this; injection this with this; exact this.symm
    subst e
    clear HB
    go_enter Tryz.func190, Tryz.ntmps190
    go_wp2
    go_ret
    exact ⟨rfl, B1.out⟩
  · by_cases g2 : 60 ≤ z.c
    · have e : c = 6 := by have := HB.out; rw [if_neg g1, if_pos g2] at this; injection this with this; exact this.symm
      subst e
      clear HB
      go_enter Tryz.func190, Tryz.ntmps190
      go_wp2
      go_ret
      exact ⟨rfl, B1.out⟩
    · by_cases g3 : 120 < t.size
      · have e : c = 8 := by have := HB.out; rw [if_neg g1, if_neg g2, if_pos g3] at this; injection this with this; exact this.symm
        subst e
        clear HB
        go_enter Tryz.func190, Tryz.ntmps190
        go_wp2
        go_ret
        exact ⟨rfl, B1.out⟩
      · have := HB.out
        rw [if_neg g1, if_neg g2, if_neg g3] at this
        cases this
end Go.Proofs.YtpennadfomnenaaGreatDoor
namespace Go.Proofs.YtpennadfomnenaaGreatDoor
open Go.ChangeShapes Go.WideShapes Go.ChangeAt Go.RowKit Go.Deep

theorem setCell_comm (w : World) (a b : Addr) (u v : Value) (h : a.block ≠ b.block) : (w.setCell a u).setCell b v = (w.setCell b v).setCell a u := by
  unfold World.setCell
  simp only
  congr 1
  apply Array.ext
  · simp
  · intro i h1 h2
    simp only [Array.getElem_modify]
    by_cases e1 : a.block = i <;> by_cases e2 : b.block = i
    · exact absurd (e1.trans e2.symm) h
    · simp [e1, e2]
    · simp [e1, e2]
    · simp [e1, e2]
theorem setCell_block {w w' : World} {g o : Nat} {u : Value} (h : w'.heap[g]? = w.heap[g]?) : (w'.setCell ⟨g, o, none⟩ u).heap[g]? = (w.setCell ⟨g, o, none⟩ u).heap[g]? := by
  simp only [World.setCell, Array.getElem?_modify, if_true, h]
/-- a node stored, cell by cell -/
def six (w : World) (g o : Nat) (a b c d e f : Value) : World := (((((w.setCell ⟨g, o, none⟩ a).setCell ⟨g, o + 1, none⟩ b).setCell ⟨g, o + 2, none⟩ c).setCell ⟨g, o + 3, none⟩ d).setCell ⟨g, o + 4, none⟩ e).setCell ⟨g, o + 5, none⟩ f
theorem six_comm (w : World) (g o hb ho : Nat) (a b c d e f u : Value) (h : hb ≠ g) : six (w.setCell ⟨hb, ho, none⟩ u) g o a b c d e f = (six w g o a b c d e f).setCell ⟨hb, ho, none⟩ u := by
  unfold six
  rw [setCell_comm w ⟨hb, ho, none⟩ ⟨g, o, none⟩ u a h, setCell_comm _ ⟨hb, ho, none⟩ ⟨g, o + 1, none⟩ u b h, setCell_comm _ ⟨hb, ho, none⟩ ⟨g, o + 2, none⟩ u c h, setCell_comm _ ⟨hb, ho, none⟩ ⟨g, o + 3, none⟩ u d h, setCell_comm _ ⟨hb, ho, none⟩ ⟨g, o + 4, none⟩ u e h, setCell_comm _ ⟨hb, ho, none⟩ ⟨g, o + 5, none⟩ u f h]
theorem six_heap {w : World} {g o q : Nat} {a b c d e f : Value} (h : q ≠ g) : (six w g o a b c d e f).heap[q]? = w.heap[q]? := by
  have k : ∀ (w : World) (j : Nat) (u : Value), (w.setCell ⟨g, j, none⟩ u).heap[q]? = w.heap[q]? := fun w j u => Below.heap_setCell w ⟨g, j, none⟩ u q (by rintro rfl; exact h rfl)
  unfold six
  rw [k, k, k, k, k, k]
theorem six_size {w : World} {g o : Nat} {a b c d e f : Value} : (six w g o a b c d e f).heap.size = w.heap.size := by
  unfold six
  simp only [World.size_setCell]
def zeros6 : List Value := [.int .i64 0, .int .i64 0, .string ⟨#[]⟩, .string ⟨#[]⟩, .slice none 0 0, .slice none 0 0]
theorem own_six {w : World} {base g n cap : Nat} {xs : List Value} (ho : w.ownsRow base 42 6 (.slice (some ⟨g, 0, none⟩) (n + 1) cap) (n + 1) (xs ++ zeros6)) (hx : xs.length = n * 6) (a b c d e f : Value) :
    (six w g (n * 6) a b c d e f).ownsRow base 42 6 (.slice (some ⟨g, 0, none⟩) (n + 1) cap) (n + 1) (xs ++ [a, b, c, d, e, f]) := by
  have e0 := (ho.stored (n * 6) a).1
  have e1 := (e0.stored (n * 6 + 1) b).1
  have e2 := (e1.stored (n * 6 + 2) c).1
  have e3 := (e2.stored (n * 6 + 3) d).1
  have e4 := (e3.stored (n * 6 + 4) e).1
  have e5 := (e4.stored (n * 6 + 5) f).1
  have hl : ((((((xs ++ zeros6).set (n * 6) a).set (n * 6 + 1) b).set (n * 6 + 2) c).set (n * 6 + 3) d).set (n * 6 + 4) e).set (n * 6 + 5) f = xs ++ [a, b, c, d, e, f] := by
    rw [List.set_append_right _ _ (by omega), List.set_append_right _ _ (by omega), List.set_append_right _ _ (by omega), List.set_append_right _ _ (by omega), List.set_append_right _ _ (by omega), List.set_append_right _ _ (by omega), hx]
    simp only [Nat.sub_self, Nat.add_sub_cancel_left]
    rfl
  rw [hl] at e5
  exact e5
/-- impl's builder, but for its count -/
structure BH (w : World) (bb : Nat) (F : Fo) (up : List Fr) (c : Nat) (v v0 pv : Value) (ps : List Value) (bF bl : List Nat) : Prop where
  tr : Tr w (bb + 1) F up v v0 ps bF bl
  op : w.ownsRow (bb + 1) 86 1 pv ps.length ps
  dis : ∀ k ∈ ownL pv, k ∉ ownL v ++ bF ++ bl
  lay : Lay w bb #[v0, pv, .int .i64 (c : Int)]
theorem BI.toBH {w : World} {bb : Nat} {z : Zi} {v v0 pv : Value} {ps : List Value} {bF bl : List Nat} (h : BI w bb z v v0 pv ps bF bl) : BH w bb z.F z.up z.c v v0 pv ps bF bl := ⟨h.tr, h.op, h.dis, h.lay⟩
/-- the innermost row has a new value: it is stored where it is held -/
theorem BH.put {w W0 : World} {bb : Nat} {F F' : Fo} {up : List Fr} {c : Nat} {v v' v0 pv : Value} {ps : List Value} {bF bF' bl : List Nat} {hb ho : Nat} (h : BH w bb F up c v v0 pv ps bF bl) (hA : holdA bb ps = ⟨hb, ho, none⟩)
    (hs : w.heap.size ≤ W0.heap.size) (hk : ∀ q, q < w.heap.size → v.ownBlock ≠ some q → W0.heap[q]? = w.heap[q]?)
    (hG : GRow W0 (bb + 1) v' F' bF') (hn : (ownL v' ++ bF').Nodup) (hd : ∀ q ∈ ownL v' ++ bF', q ≠ bb ∧ q ∉ bl ∧ q ∉ ownL pv) :
    ∃ v0', BH (W0.setCell ⟨hb, ho, none⟩ v') bb F' up c v' v0' pv ps bF' bl ∧ (∀ q, q < w.heap.size → v.ownBlock ≠ some q → q ≠ hb → (W0.setCell ⟨hb, ho, none⟩ v').heap[q]? = w.heap[q]?) ∧ (hb = bb ∨ hb ∈ bl) := by
  obtain ⟨⟨hrow, hup, hnd⟩, hop, hdis, hlay⟩ := h
  have hbb : bb < w.heap.size := World.block_lt_of_cell? w ⟨bb, 0, none⟩ (hlay.1 0)
  have hlt : ∀ k ∈ ownL v ++ bF ++ bl, bb + 1 ≤ k ∧ k < w.heap.size := fun k hk => by
    rcases List.mem_append.1 hk with hk | hk
    · exact hrow.lt k hk
    · exact hup.lt k hk
  have hplt : ∀ k ∈ ownL pv, bb + 1 ≤ k ∧ k < w.heap.size := fun k hk => World.ownsRow.lt hop k (mem_ownL.1 hk)
  obtain ⟨hn1, hn2, hn3⟩ := List.nodup_append.1 hnd
  have own_ne : ∀ q, q ∈ bl ∨ q ∈ ownL pv ∨ q = bb → v.ownBlock ≠ some q := fun q hq e => by
    have hm := mem_ownL.2 e
    rcases hq with hq | hq | hq
    · exact hn3 q (by simp [hm]) q hq rfl
    · exact hdis q hq (by simp [hm])
    · have := hlt q (by simp [hm]); omega
  have far : ∀ q, q ≠ hb → (W0.setCell ⟨hb, ho, none⟩ v').heap[q]? = W0.heap[q]? := fun q hq => Below.heap_setCell W0 ⟨hb, ho, none⟩ v' q (by rintro rfl; exact hq rfl)
  have hG' : ∀ hbx : hb = bb ∨ hb ∈ bl, GRow (W0.setCell ⟨hb, ho, none⟩ v') (bb + 1) v' F' bF' := fun hbx => hG.sameB (by simp) fun k hk => far k (by
    rintro rfl
    have := hd k hk
    rcases hbx with e | e
    · exact this.1 e
    · exact this.2.1 e)
  have hnd' : ∀ {bl' : List Nat}, bl' = bl → (ownL v' ++ bF' ++ bl').Nodup := fun e => by
    subst e
    exact List.nodup_append.2 ⟨hn, hn2, fun a ha b hb e => by subst e; exact (hd a ha).2.1 hb⟩
  have hop' : ∀ hbx : hb = bb ∨ hb ∈ bl, (W0.setCell ⟨hb, ho, none⟩ v').ownsRow (bb + 1) 86 1 pv ps.length ps := fun hbx => ownsRow_same hop fun k hk' => by
    have hm := mem_ownL.2 hk'
    rw [far k (by
      rintro rfl
      rcases hbx with e | e
      · have := hplt k hm; omega
      · exact hdis k hm (by simp [e])), hk k (hplt k hm).2 (own_ne k (Or.inr (Or.inl hm)))]
  have hdis' : ∀ k ∈ ownL pv, k ∉ ownL v' ++ bF' ++ bl := fun k hk hm => by
    rcases List.mem_append.1 hm with hm | hm
    · exact (hd k hm).2.2 hk
    · exact hdis k hk (by simp [hm])
  cases up with
  | nil =>
    obtain ⟨e1, e2, e3⟩ := hup
    subst e2 e3 e1
    obtain ⟨rfl, rfl⟩ : bb = hb ∧ 0 = ho := by
      have : (⟨bb, 0, none⟩ : Addr) = ⟨hb, ho, none⟩ := hA
      injection this with a b _
      exact ⟨a, b⟩
    refine ⟨v', ⟨⟨hG' (Or.inl rfl), ⟨rfl, rfl, rfl⟩, hnd' rfl⟩, hop' (Or.inl rfl), hdis', ?_⟩, fun q h1 h2 h3 => (far q h3).trans (hk q h1 h2), Or.inl rfl⟩
    have h0 : Lay W0 bb #[v, pv, .int .i64 (c : Int)] := lay_same hlay (hk bb hbb (own_ne bb (Or.inr (Or.inr rfl))))
    have := h0.set 0 v'
    simpa using this
  | cons x up =>
    obtain ⟨g, cap, xs, b1, ba, A, ca, ps', bl', h1, h2, h3, h7, h8, h9, h10⟩ := hup
    obtain ⟨rfl, rfl⟩ : g = hb ∧ x.P.len * 6 + 5 = ho := by
      have : (⟨g, x.P.len * 6 + 5, none⟩ : Addr) = ⟨hb, ho, none⟩ := by rw [← hA, h7]; simp [holdA]
      injection this with a b _
      exact ⟨a, b⟩
    subst h9
    obtain ⟨hg, hB2⟩ := List.nodup_cons.1 hn2
    have hgm : g ∈ g :: (b1 ++ ba ++ bl') := by simp
    have hglt := hlt g (by simp)
    have same : ∀ q ∈ b1 ++ ba ++ bl', (W0.setCell ⟨g, x.P.len * 6 + 5, none⟩ v').heap[q]? = w.heap[q]? := fun q hq => by
      rw [far q (by rintro rfl; exact hg hq), hk q (hlt q (by simp only [List.mem_append, List.mem_cons] at hq ⊢; exact Or.inr (Or.inr hq))).2 (own_ne q (Or.inl (List.mem_cons.2 (Or.inr hq))))]
    have hgs : (W0.setCell ⟨g, x.P.len * 6 + 5, none⟩ v').heap[g]? = (w.setCell ⟨g, x.P.len * 6 + 5, none⟩ v').heap[g]? := setCell_block (hk g hglt.2 (own_ne g (Or.inl hgm)))
    have hst := (h1.stored (x.P.len * 6 + 5) v').1
    have hset : (xs ++ elV x.sp x.n x.al A ca v).set (x.P.len * 6 + 5) v' = xs ++ elV x.sp x.n x.al A ca v' := by
      rw [List.set_append_right _ _ (by rw [h2.len]; omega), h2.len, Nat.add_sub_cancel_left]; rfl
    rw [hset] at hst
    refine ⟨v0, ⟨⟨hG' (Or.inr hgm), ⟨g, cap, xs, b1, ba, A, ca, ps', bl', ownsRow_same hst fun k hk' => ?_, h2.same fun k hk' => same k (by simp [hk']), ⟨h3.1, h3.2.1, h3.2.2.1, h3.2.2.2.same fun k hk' => same k (by simp [hk'])⟩, h7, h8.same (by simpa using hs) fun k hk' => same k (by simp [hk']), rfl, fun k hk' => ⟨(h10 k hk').1, by rw [World.size_setCell]; exact Nat.lt_of_lt_of_le (h10 k hk').2 hs⟩⟩, hnd' rfl⟩, hop' (Or.inr hgm), hdis', ?_⟩, fun q h1 h2 h3 => (far q h3).trans (hk q h1 h2), Or.inr hgm⟩
    · injection hk' with hk'
      subst hk'
      exact hgs
    · exact lay_same hlay ((far bb (by omega)).trans (hk bb hbb (own_ne bb (Or.inr (Or.inr rfl)))))
end Go.Proofs.YtpennadfomnenaaGreatDoor
namespace Go.Proofs.YtpennadfomnenaaGreatDoor
open Go.ChangeShapes Go.WideShapes Go.ChangeAt Go.RowKit Go.Deep

/-- a node of its own is put behind the innermost row -/
theorem BH.push {w w1 : World} {bb : Nat} {F : Fo} {up : List Fr} {c : Nat} {v v0 pv : Value} {ps : List Value} {bF bl : List Nat} {hb ho gg cap : Nat} {xs : List Value} (h : BH w bb F up c v v0 pv ps bF bl) (hA : holdA bb ps = ⟨hb, ho, none⟩)
    (hs : w.heap.size ≤ w1.heap.size) (hk : ∀ q, q < w.heap.size → v.ownBlock ≠ some q → w1.heap[q]? = w.heap[q]?)
    (hown : w1.ownsRow (bb + 1) 42 6 (.slice (some ⟨gg, 0, none⟩) (F.len + 1) cap) (F.len + 1) (xs ++ zeros6)) (hv : FoVals w xs F bF) (hat : v.ownBlock = some gg ∨ w.heap.size ≤ gg)
    (k sp : Int) (n t : ByteArray) (al : List (ByteArray × ByteArray)) (A : Option Addr) (ca : Nat) (ba : List Nat) (hz : n.size ≤ maxLen ∧ t.size ≤ maxLen) (ha : al.length ≤ ca ∧ al.length ≤ maxLen ∧ AlRow w A al ba) (hba : ba.Nodup) (hbl : ∀ q ∈ ba, bb < q ∧ q < w.heap.size ∧ ¬ FpI bb v pv bF bl q) :
    ∃ v0', BH ((six w1 gg (F.len * 6) (.int .i64 k) (.int .i64 sp) (.string n) (.string t) (.slice A al.length ca) (.slice none 0 0)).setCell ⟨hb, ho, none⟩ (.slice (some ⟨gg, 0, none⟩) (F.len + 1) cap)) bb (F.app (.one k sp n t al .nil)) up c (.slice (some ⟨gg, 0, none⟩) (F.len + 1) cap) v0' pv ps (bF ++ ba) bl ∧
      (∀ q, q < w.heap.size → v.ownBlock ≠ some q → q ≠ hb → ((six w1 gg (F.len * 6) (.int .i64 k) (.int .i64 sp) (.string n) (.string t) (.slice A al.length ca) (.slice none 0 0)).setCell ⟨hb, ho, none⟩ (.slice (some ⟨gg, 0, none⟩) (F.len + 1) cap)).heap[q]? = w.heap[q]?) ∧ (hb = bb ∨ hb ∈ bl) ∧
      ∀ q, FpI bb (.slice (some ⟨gg, 0, none⟩) (F.len + 1) cap) pv (bF ++ ba) bl q → FpI bb v pv bF bl q ∨ q ∈ ba ∨ w.heap.size ≤ q := by
  have hbb : bb < w.heap.size := World.block_lt_of_cell? w ⟨bb, 0, none⟩ (h.lay.1 0)
  have htl := h.tr.lt
  have hplt : ∀ k ∈ ownL pv, bb + 1 ≤ k ∧ k < w.heap.size := fun k hk => World.ownsRow.lt h.op k (mem_ownL.1 hk)
  obtain ⟨hn1, hn2, hn3⟩ := List.nodup_append.1 h.tr.nd
  obtain ⟨hn4, hn5, hn6⟩ := List.nodup_append.1 hn1
  have hgl : bb + 1 ≤ gg ∧ gg < w1.heap.size := World.ownsRow.lt hown gg rfl
  -- the row's block is none of the others
  have hgo : ∀ q, q = gg → (q ≠ bb ∧ q ∉ bl ∧ q ∉ ownL pv) ∧ q ∉ bF ∧ q ∉ ba := by
    intro q e
    subst e
    rcases hat with e | e
    · have hm := mem_ownL.2 e
      refine ⟨⟨by omega, fun hq => hn3 q (by simp [hm]) q hq rfl, fun hq => h.dis q hq (by simp [hm])⟩, fun hq => hn6 q hm q hq rfl, fun hq => (hbl q hq).2.2 (Or.inr (Or.inr (by simp [hm])))⟩
    · refine ⟨⟨by omega, fun hq => ?_, fun hq => ?_⟩, fun hq => ?_, fun hq => ?_⟩
      · have := htl q (by simp [hq]); omega
      · have := hplt q hq; omega
      · have := htl q (by simp [hq]); omega
      · have := hbl q hq; omega
  have hsame : ∀ q ∈ bF ++ ba, (six w1 gg (F.len * 6) (.int .i64 k) (.int .i64 sp) (.string n) (.string t) (.slice A al.length ca) (.slice none 0 0)).heap[q]? = w.heap[q]? := fun q hq => by
    have hne : q ≠ gg := by
      rintro rfl
      rcases List.mem_append.1 hq with hq | hq
      · exact (hgo q rfl).2.1 hq
      · exact (hgo q rfl).2.2 hq
    rw [six_heap hne]
    rcases List.mem_append.1 hq with hq | hq
    · exact hk q (htl q (by simp [hq])).2 fun e => hn6 q (mem_ownL.2 e) q hq rfl
    · exact hk q (hbl q hq).2.1 fun e => (hbl q hq).2.2 (Or.inr (Or.inr (by simp [mem_ownL.2 e])))
  have hnd : (bF ++ ba).Nodup := List.nodup_append.2 ⟨hn5, hba, fun a ha b hb e => by subst e; exact (hbl a hb).2.2 (Or.inr (Or.inr (by simp [ha])))⟩
  have hltF : ∀ q ∈ bF ++ ba, bb + 1 ≤ q ∧ q < w.heap.size := fun q hq => by
    rcases List.mem_append.1 hq with hq | hq
    · exact htl q (by simp [hq])
    · have := hbl q hq; omega
  have hG : GRow (six w1 gg (F.len * 6) (.int .i64 k) (.int .i64 sp) (.string n) (.string t) (.slice A al.length ca) (.slice none 0 0)) (bb + 1) (.slice (some ⟨gg, 0, none⟩) (F.len + 1) cap) (F.app (.one k sp n t al .nil)) (bF ++ ba) := by
    refine ⟨xs ++ [.int .i64 k, .int .i64 sp, .string n, .string t, .slice A al.length ca, .slice none 0 0], ?_, ?_, hnd, fun q hq => ⟨(hltF q hq).1, by rw [six_size]; exact Nat.lt_of_lt_of_le (hltF q hq).2 hs⟩, fun q hq hm => ?_⟩
    · rw [Fo.len_app]
      exact own_six hown hv.len _ _ _ _ _ _
    · refine (hv.same fun q hq => hsame q (by simp [hq])).app (S := .one k sp n t al .nil) (b2 := ba) ⟨A, none, ca, 0, ba, [], [], [], rfl, by simp, hz, ⟨ha.1, ha.2.1, ha.2.2.same fun q hq => hsame q (by simp [hq])⟩, ⟨Nat.le_refl _, Nat.zero_le _, Or.inl ⟨rfl, rfl⟩⟩, rfl, rfl⟩
    · injection hq with hq
      subst hq
      rcases List.mem_append.1 hm with hm | hm
      · exact (hgo gg rfl).2.1 hm
      · exact (hgo gg rfl).2.2 hm
  obtain ⟨v0', r1, r2, r3⟩ := h.put hA (by rw [six_size]; exact hs) (fun q h1 h2 => by
    have hne : q ≠ gg := by
      rintro rfl
      rcases hat with e | e
      · exact h2 e
      · omega
    rw [six_heap hne]; exact hk q h1 h2) hG (by
      refine List.nodup_append.2 ⟨by simp [ownL, Value.ownBlock], hnd, fun a ha b hb e => ?_⟩
      subst e
      have := mem_ownL.1 ha
      injection this with this
      rcases List.mem_append.1 hb with hb | hb
      · exact (hgo a this.symm).2.1 hb
      · exact (hgo a this.symm).2.2 hb) (fun q hq => by
      rcases List.mem_append.1 hq with hq | hq
      · have := mem_ownL.1 hq
        injection this with this
        exact (hgo q this.symm).1
      · rcases List.mem_append.1 hq with hq | hq
        · exact ⟨by have := htl q (by simp [hq]); omega, fun hm => hn3 q (by simp [hq]) q hm rfl, fun hm => h.dis q hm (by simp [hq])⟩
        · have := hbl q hq
          exact ⟨by omega, fun hm => this.2.2 (Or.inr (Or.inr (by simp [hm]))), fun hm => this.2.2 (Or.inr (Or.inl hm))⟩)
  refine ⟨v0', r1, r2, r3, fun q hq => ?_⟩
  rcases hq with hq | hq | hq
  · exact Or.inl (Or.inl hq)
  · exact Or.inl (Or.inr (Or.inl hq))
  · simp only [List.mem_append] at hq
    rcases hq with (hq | hq | hq) | hq
    · have hgq : gg = q := by
        have := mem_ownL.1 hq
        injection this
      subst hgq
      rcases hat with e | e
      · exact Or.inl (Or.inr (Or.inr (by simp [mem_ownL.2 e])))
      · exact Or.inr (Or.inr e)
    · exact Or.inl (Or.inr (Or.inr (by simp [hq])))
    · exact Or.inr (Or.inl hq)
    · exact Or.inl (Or.inr (Or.inr (by simp [hq])))
end Go.Proofs.YtpennadfomnenaaGreatDoor
