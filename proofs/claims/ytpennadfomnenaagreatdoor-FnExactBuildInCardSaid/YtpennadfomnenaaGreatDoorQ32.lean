import Derived.Test.YtpennadfomnenaaGreatDoorQ31
set_option linter.unusedVariables false
namespace Go.Proofs.YtpennadfomnenaaGreatDoor
open Go.ChangeShapes Go.WideShapes Go.ChangeAt Go.RowKit Go.Deep

theorem BS.grow {w : World} {B bb : Nat} {z : Zi} {sv nv : Value} {nvs : List Value} {bl : List Nat} (h : BS w B bb z sv nv nvs bl) :
    ∃ gn cap v D e xs bF, nv = .slice (some ⟨gn, 0, none⟩) (z.up.length + 1) cap ∧ CellW w gn (z.up.length * 6 + 5) v ∧ v = .slice D z.F.len e ∧ w.ownsRow B 42 6 v z.F.len xs ∧ FoVals w xs z.F bF ∧
      (∀ q, v.ownBlock = some q → q ≠ bb ∧ q ≠ gn ∧ q ∉ ownL sv ∧ q < w.heap.size ∧ B ≤ q ∧ q ∈ bl) ∧ (gn ≠ bb ∧ gn < w.heap.size ∧ B ≤ gn ∧ gn ∈ ownL nv) ∧ (GRow w B v z.F bF ∧ ∀ q ∈ ownL v ++ bF, q ∈ bl) ∧
      ∀ (w1 : World) (gg cap1 : Nat) (k sp : Int) (n t : ByteArray) (al : List (ByteArray × ByteArray)) (kids : Fo) (A K : Option Addr) (ca ck : Nat) (ba bk : List Nat) (y : Zi), w.heap.size ≤ w1.heap.size → (∀ q, q < w.heap.size → v.ownBlock ≠ some q → w1.heap[q]? = w.heap[q]?) →
        w1.ownsRow B 42 6 (.slice (some ⟨gg, 0, none⟩) (z.F.len + 1) cap1) (z.F.len + 1) (xs ++ [.int .i64 k, .int .i64 sp, .string n, .string t, .slice A al.length ca, .slice K kids.len ck]) → (v.ownBlock = some gg ∨ w.heap.size ≤ gg) →
        (n.size ≤ maxLen ∧ t.size ≤ maxLen) → (al.length ≤ ca ∧ al.length ≤ maxLen ∧ AlRow w A al ba) → (kids.len ≤ ck ∧ kids.len ≤ maxLen ∧ KRow w K kids bk) → (ba ++ bk).Nodup → (∀ q ∈ ba ++ bk, B ≤ q ∧ q < w.heap.size ∧ ¬ FpS bb sv nv bl q) →
        y = ⟨z.F.app (.one k sp n t al kids), z.up, z.c⟩ → y.fit →
        ∃ nvs' bl', BS (w1.setCell ⟨gn, z.up.length * 6 + 5, none⟩ (.slice (some ⟨gg, 0, none⟩) (z.F.len + 1) cap1)) B bb y sv nv nvs' bl' ∧ ∀ q ∈ bl', q ∈ bl ∨ q ∈ ba ++ bk ∨ w.heap.size ≤ q := by
  obtain ⟨gn, cap, v, bF, rest, e1, e2, e3, e4, e5, e6, e7, e8⟩ := h.kids
  have hgm : gn ∈ ownL nv := mem_ownL.2 (by rw [e1]; rfl)
  have hgB := (World.ownsRow.lt h.nrow gn (mem_ownL.1 hgm)).1
  obtain ⟨D, e, bs, hv, _⟩ := e3.kids
  have hnd := h.nd
  rw [e4] at hnd
  obtain ⟨n1, n2, n3⟩ := List.nodup_append.1 hnd
  obtain ⟨n4, n5, n6⟩ := List.nodup_append.1 n1
  have hvl : ∀ q, v.ownBlock = some q → q ≠ bb ∧ q ≠ gn ∧ q ∉ ownL sv ∧ q < w.heap.size ∧ B ≤ q ∧ q ∈ bl := fun q hq => by
    have hm : q ∈ bl := by rw [e4]; exact List.mem_append.2 (Or.inl (List.mem_append.2 (Or.inl (mem_ownL.2 hq))))
    have hl := h.nod.lt q hm
    exact ⟨fun e => h.db (by rw [← e]; exact hm), fun e => e5 (by rw [← e]; exact hm), fun hs => (h.ds q hs).1 hm, hl.2, hl.1, hm⟩
  obtain ⟨xs, ho, hfv, hbn, hbb, hbg⟩ := id e3
  refine ⟨gn, cap, v, D, e, xs, bF, e1, e2, hv, ho, hfv, hvl, ⟨e6, e7, hgB, hgm⟩, ⟨e3, fun q hq => by rw [e4]; exact List.mem_append.2 (Or.inl hq)⟩, ?_⟩
  intro w1 gg cap1 k sp n t al kids A K ca ck ba bk y hs hk hown hat hz h4 h5 hnb hbl hy hf
  have hbF : ∀ q ∈ bF, q ∈ bl := fun q hq => by rw [e4]; exact List.mem_append.2 (Or.inl (List.mem_append.2 (Or.inr hq)))
  have hrest : ∀ q ∈ rest, q ∈ bl := fun q hq => by rw [e4]; exact List.mem_append.2 (Or.inr hq)
  have hG1 : GRow w1 B (.slice (some ⟨gg, 0, none⟩) (z.F.len + 1) cap1) (z.F.app (.one k sp n t al kids)) (bF ++ (ba ++ bk)) := by
    refine grow_push (v := v) hfv (fun q hq => ?_) ?_ (fun q hq hm => ?_) hz h4 h5 hown hk hs ?_
    · rcases List.mem_append.1 hq with hq | hq
      · exact hbb q hq
      · exact ⟨(hbl q hq).1, (hbl q hq).2.1⟩
    · exact List.nodup_append.2 ⟨hbn, hnb, fun a ha b hb e => by subst e; exact (hbl a hb).2.2 (Or.inr (Or.inr (Or.inr (hbF a ha))))⟩
    · rcases List.mem_append.1 hm with hm | hm
      · exact hbg q hq hm
      · exact (hbl q hm).2.2 (Or.inr (Or.inr (Or.inr (hvl q hq).2.2.2.2.2)))
    · rcases hat with e | e
      · exact Or.inl e.symm
      · exact Or.inr ⟨gg, rfl, e⟩
  have hggs : gg ≠ gn ∧ gg ≠ bb ∧ gg ∉ ownL sv ∧ gg ∉ rest ∧ gg ∉ bF ++ (ba ++ bk) := by
    have hbbl := (h.lt bb (Or.inl rfl)).2
    rcases hat with e | e
    · have := hvl gg e
      refine ⟨this.2.1, this.1, this.2.2.1, fun hq => n3 gg (List.mem_append.2 (Or.inl (mem_ownL.2 e))) gg hq rfl, fun hq => ?_⟩
      rcases List.mem_append.1 hq with hq | hq
      · exact n6 gg (mem_ownL.2 e) gg hq rfl
      · exact (hbl gg hq).2.2 (Or.inr (Or.inr (Or.inr this.2.2.2.2.2)))
    · refine ⟨by omega, by omega, fun hq => ?_, fun hq => ?_, fun hq => ?_⟩
      · have := (h.lt gg (Or.inr (Or.inl hq))).2; omega
      · have := (h.nod.lt gg (hrest gg hq)).2; omega
      · rcases List.mem_append.1 hq with hq | hq
        · have := (h.nod.lt gg (hbF gg hq)).2; omega
        · have := (hbl gg hq).2.1; omega
  have far : ∀ q, q ≠ gn → (w1.setCell ⟨gn, z.up.length * 6 + 5, none⟩ (.slice (some ⟨gg, 0, none⟩) (z.F.len + 1) cap1)).heap[q]? = w1.heap[q]? := fun q hq => Below.heap_setCell w1 ⟨gn, z.up.length * 6 + 5, none⟩ _ q (by rintro rfl; exact hq rfl)
  have hmem : ∀ q ∈ ownL (.slice (some ⟨gg, 0, none⟩) (z.F.len + 1) cap1) ++ (bF ++ (ba ++ bk)), q ≠ gn ∧ q ≠ bb ∧ q ∉ ownL sv := fun q hq => by
    rcases List.mem_append.1 hq with hq | hq
    · have := mem_ownL.1 hq
      injection this with this
      subst this
      exact ⟨hggs.1, hggs.2.1, hggs.2.2.1⟩
    · rcases List.mem_append.1 hq with hq | hq
      · exact ⟨fun e => e5 (by rw [← e]; exact hbF q hq), fun e => h.db (by rw [← e]; exact hbF q hq), fun hs => (h.ds q hs).1 (hbF q hq)⟩
      · have := (hbl q hq).2.2
        exact ⟨fun e => this (Or.inr (Or.inr (Or.inl (by rw [e]; exact hgm)))), fun e => this (Or.inl e), fun hs => this (Or.inr (Or.inl hs))⟩
  have c1 : ∀ q, q ∈ rest ∨ q = bb ∨ q ∈ ownL sv → (w1.setCell ⟨gn, z.up.length * 6 + 5, none⟩ (.slice (some ⟨gg, 0, none⟩) (z.F.len + 1) cap1)).heap[q]? = w.heap[q]? := by
    intro q hq
    have hqn : q ≠ gn ∧ v.ownBlock ≠ some q ∧ q < w.heap.size := by
      rcases hq with hq | hq | hq
      · refine ⟨fun e => e5 (by rw [← e]; exact hrest q hq), fun e => n3 q (List.mem_append.2 (Or.inl (mem_ownL.2 e))) q hq rfl, (h.nod.lt q (hrest q hq)).2⟩
      · subst hq
        exact ⟨fun e => e6 e.symm, fun e => (hvl q e).1 rfl, (h.lt q (Or.inl rfl)).2⟩
      · exact ⟨fun e => (h.dn gn hgm).2.2 (by rw [← e]; exact hq), fun e => (hvl q e).2.2.1 hq, (h.lt q (Or.inr (Or.inl hq))).2⟩
    rw [far q hqn.1, hk q hqn.2.2 hqn.2.1]
  have c2 : (ownL (.slice (some ⟨gg, 0, none⟩) (z.F.len + 1) cap1) ++ (bF ++ (ba ++ bk)) ++ rest).Nodup := by
    refine List.nodup_append.2 ⟨List.nodup_append.2 ⟨by simp [ownL, Value.ownBlock], ?_, fun a ha b hb e => ?_⟩, n2, fun a ha b hb e => ?_⟩
    · exact List.nodup_append.2 ⟨hbn, hnb, fun a ha b hb e => by subst e; exact (hbl a hb).2.2 (Or.inr (Or.inr (Or.inr (hbF a ha))))⟩
    · subst e
      have := mem_ownL.1 ha
      injection this with this
      subst this
      exact hggs.2.2.2.2 hb
    · subst e
      rcases List.mem_append.1 ha with ha | ha
      · have := mem_ownL.1 ha
        injection this with this
        subst this
        exact hggs.2.2.2.1 hb
      · rcases List.mem_append.1 ha with ha | ha
        · exact n3 a (List.mem_append.2 (Or.inr ha)) a hb rfl
        · exact (hbl a ha).2.2 (Or.inr (Or.inr (Or.inr (hrest a hb))))
  obtain ⟨nvs', r⟩ := e8 _ (.slice (some ⟨gg, 0, none⟩) (z.F.len + 1) cap1) _ (bF ++ (ba ++ bk)) y hy hf (by simpa using hs) c1 (setCell_block (hk gn e7 fun e => (hvl gn e).2.1 rfl)) (hG1.sameB (by simp) fun q hq => far q (hmem q hq).1) c2 hmem
  refine ⟨nvs', _, r, fun q hq => ?_⟩
  rcases List.mem_append.1 hq with hq | hq
  · rcases List.mem_append.1 hq with hq | hq
    · have := mem_ownL.1 hq
      injection this with this
      subst this
      rcases hat with e | e
      · exact Or.inl (hvl gg e).2.2.2.2.2
      · exact Or.inr (Or.inr e)
    · rcases List.mem_append.1 hq with hq | hq
      · exact Or.inl (hbF q hq)
      · exact Or.inr (Or.inl hq)
  · exact Or.inl (hrest q hq)
end Go.Proofs.YtpennadfomnenaaGreatDoor
