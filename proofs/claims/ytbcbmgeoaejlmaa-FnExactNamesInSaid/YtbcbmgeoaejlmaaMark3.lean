
import Derived.Test.YtbcbmgeoaejlmaaMark2
namespace Go.Proofs.Ytbcbmgeoaejlmaa
open Go.ChangeShapes Go.WideShapes Go.ChangeAt Go.RowKit Go.Deep

theorem FoLay.split {w : World} {g : Nat} : ∀ {P S : Fo} {o : Nat} {bl : List Nat}, FoLay w g o (P.app S) bl → ∃ b1 b2, bl = b1 ++ b2 ∧ FoLay w g o P b1 ∧ FoLay w g (o + 6 * P.len) S b2
  | .nil, S, o, bl, h => ⟨[], bl, rfl, rfl, by simpa [Fo.app, Fo.len] using h⟩
  | .cons k sp n t al kids r, S, o, bl, ⟨A, K, ca, ck, ba, bk, br, hbl, h1, h2, h3, h4⟩ => by
    obtain ⟨b1, b2, e, i1, i2⟩ := FoLay.split h4
    refine ⟨ba ++ bk ++ b1, b2, by rw [hbl, e]; simp [List.append_assoc], ⟨A, K, ca, ck, ba, bk, b1, rfl, h1, h2, h3, i1⟩, ?_⟩
    simp only [Fo.len]
    rw [show o + 6 * (r.len + 1) = o + 6 + 6 * r.len by omega]; exact i2
/-- behind a write elsewhere -/
theorem FoLay.off {w : World} : ∀ {F : Fo} {g o g' m : Nat} {bl : List Nat}, FoLay w g o F bl → (g' ≠ g ∨ m < o ∨ o + 6 * F.len ≤ m) → g' ∉ bl → ∀ u, FoLay (w.setCell ⟨g', m, none⟩ u) g o F bl
  | .nil, _, _, _, _, _, h, _, _, _ => h
  | .cons k sp n t al kids rest, g, o, g', m, bl, ⟨A, K, ca, ck, ba, bk, br, hbl, ⟨c0, c1, c2, c3, z2, z3⟩, ⟨c4, h4, m4, r4⟩, ⟨c5, h5, m5, r5⟩, hr⟩, hm, hg, u => by
    subst hbl
    simp only [Fo.len] at hm
    have hk : ∀ k ∈ ba ++ bk ++ br, (w.setCell ⟨g', m, none⟩ u).heap[k]? = w.heap[k]? := fun k hk => Below.heap_setCell _ _ _ _ (fun e => hg (by rw [show g' = k from e.symm]; exact hk))
    refine ⟨A, K, ca, ck, ba, bk, br, rfl, ⟨c0.set (hm.imp id fun h => by omega) u, c1.set (hm.imp id fun h => by omega) u, c2.set (hm.imp id fun h => by omega) u, c3.set (hm.imp id fun h => by omega) u, z2, z3⟩, ⟨c4.set (hm.imp id fun h => by omega) u, h4, m4, r4.same fun k h => hk k (by simp [h])⟩,
      ⟨c5.set (hm.imp id fun h => by omega) u, h5, m5, ?_⟩, hr.off (hm.imp id fun h => by omega) (fun h => hg (by simp [h])) u⟩
    rcases r5 with r5 | ⟨c, b', e1, e2, e3⟩
    · exact Or.inl r5
    · subst e2
      exact Or.inr ⟨c, b', e1, rfl, e3.same (hk c (by simp)) fun k h => hk k (by simp [h])⟩
/-- a row of nodes, and all that it leads to -/
def KRow (w : World) (K : Option Addr) (kids : Fo) (bk : List Nat) : Prop := (kids.len = 0 ∧ bk = []) ∨ ∃ c b', K = some ⟨c, 0, none⟩ ∧ bk = c :: b' ∧ FoLay w c 0 kids b'
theorem KRow.same {w w' : World} {K : Option Addr} {kids : Fo} {bk : List Nat} (h : KRow w K kids bk) (hb : ∀ k ∈ bk, w'.heap[k]? = w.heap[k]?) : KRow w' K kids bk := by
  rcases h with h | ⟨c, b', e1, e2, e3⟩
  · exact Or.inl h
  · subst e2; exact Or.inr ⟨c, b', e1, rfl, e3.same (hb c (by simp)) fun k hk => hb k (by simp [hk])⟩

/-- a node at ⟨g, o⟩, with those ahead of it and behind it -/
structure NodeIn (w : World) (g o : Nat) (pre rest : Fo) (v0 v1 v2 v3 v4 v5 : Value) (A : Option Addr) (al : List (ByteArray × ByteArray)) (ba : List Nat) (K : Option Addr) (kids : Fo) (bk b1 br : List Nat) : Prop where
  c0 : CellW w g o v0
  c1 : CellW w g (o + 1) v1
  c2 : CellW w g (o + 2) v2
  c3 : CellW w g (o + 3) v3
  c4 : CellW w g (o + 4) v4
  c5 : CellW w g (o + 5) v5
  p : FoLay w g 0 pre b1
  r : FoLay w g (o + 6) rest br
  a : AlRow w A al ba
  k : KRow w K kids bk
  po : 6 * pre.len = o
  nd : (g :: (b1 ++ (ba ++ bk ++ br))).Nodup
  lt : ∀ k ∈ g :: (b1 ++ (ba ++ bk ++ br)), k < w.heap.size
theorem NodeIn.put0 {w : World} {g o : Nat} {pre rest kids : Fo} {v0 v1 v2 v3 v4 v5 : Value} {A K : Option Addr} {al : List (ByteArray × ByteArray)} {b1 ba bk br : List Nat} (h : NodeIn w g o pre rest v0 v1 v2 v3 v4 v5 A al ba K kids bk b1 br) (u : Value) :
    NodeIn (w.setCell ⟨g, o, none⟩ u) g o pre rest u v1 v2 v3 v4 v5 A al ba K kids bk b1 br := by
  have hne : ∀ k ∈ b1 ++ (ba ++ bk ++ br), (w.setCell ⟨g, o, none⟩ u).heap[k]? = w.heap[k]? := fun k hk => Below.heap_setCell _ _ _ _ (fun e => (List.nodup_cons.1 h.nd).1 (by rw [show g = k from e.symm]; exact hk))
  exact ⟨h.c0.put u, h.c1.set (Or.inr (by omega)) u, h.c2.set (Or.inr (by omega)) u, h.c3.set (Or.inr (by omega)) u, h.c4.set (Or.inr (by omega)) u, h.c5.set (Or.inr (by omega)) u, h.p.off (Or.inr (Or.inr (by have := h.po; omega))) (fun e => (List.nodup_cons.1 h.nd).1 (by simp [e])) u, h.r.off (Or.inr (Or.inl (by omega))) (fun e => (List.nodup_cons.1 h.nd).1 (by simp [e])) u,
    h.a.same fun k hk => hne k (by simp [hk]), h.k.same fun k hk => hne k (by simp [hk]), h.po, h.nd, fun k hk => by rw [World.size_setCell]; exact h.lt k hk⟩
theorem NodeIn.put1 {w : World} {g o : Nat} {pre rest kids : Fo} {v0 v1 v2 v3 v4 v5 : Value} {A K : Option Addr} {al : List (ByteArray × ByteArray)} {b1 ba bk br : List Nat} (h : NodeIn w g o pre rest v0 v1 v2 v3 v4 v5 A al ba K kids bk b1 br) (u : Value) :
    NodeIn (w.setCell ⟨g, o + 1, none⟩ u) g o pre rest v0 u v2 v3 v4 v5 A al ba K kids bk b1 br := by
  have hne : ∀ k ∈ b1 ++ (ba ++ bk ++ br), (w.setCell ⟨g, o + 1, none⟩ u).heap[k]? = w.heap[k]? := fun k hk => Below.heap_setCell _ _ _ _ (fun e => (List.nodup_cons.1 h.nd).1 (by rw [show g = k from e.symm]; exact hk))
  exact ⟨h.c0.set (Or.inr (by omega)) u, h.c1.put u, h.c2.set (Or.inr (by omega)) u, h.c3.set (Or.inr (by omega)) u, h.c4.set (Or.inr (by omega)) u, h.c5.set (Or.inr (by omega)) u, h.p.off (Or.inr (Or.inr (by have := h.po; omega))) (fun e => (List.nodup_cons.1 h.nd).1 (by simp [e])) u, h.r.off (Or.inr (Or.inl (by omega))) (fun e => (List.nodup_cons.1 h.nd).1 (by simp [e])) u,
    h.a.same fun k hk => hne k (by simp [hk]), h.k.same fun k hk => hne k (by simp [hk]), h.po, h.nd, fun k hk => by rw [World.size_setCell]; exact h.lt k hk⟩
theorem NodeIn.put2 {w : World} {g o : Nat} {pre rest kids : Fo} {v0 v1 v2 v3 v4 v5 : Value} {A K : Option Addr} {al : List (ByteArray × ByteArray)} {b1 ba bk br : List Nat} (h : NodeIn w g o pre rest v0 v1 v2 v3 v4 v5 A al ba K kids bk b1 br) (u : Value) :
    NodeIn (w.setCell ⟨g, o + 2, none⟩ u) g o pre rest v0 v1 u v3 v4 v5 A al ba K kids bk b1 br := by
  have hne : ∀ k ∈ b1 ++ (ba ++ bk ++ br), (w.setCell ⟨g, o + 2, none⟩ u).heap[k]? = w.heap[k]? := fun k hk => Below.heap_setCell _ _ _ _ (fun e => (List.nodup_cons.1 h.nd).1 (by rw [show g = k from e.symm]; exact hk))
  exact ⟨h.c0.set (Or.inr (by omega)) u, h.c1.set (Or.inr (by omega)) u, h.c2.put u, h.c3.set (Or.inr (by omega)) u, h.c4.set (Or.inr (by omega)) u, h.c5.set (Or.inr (by omega)) u, h.p.off (Or.inr (Or.inr (by have := h.po; omega))) (fun e => (List.nodup_cons.1 h.nd).1 (by simp [e])) u, h.r.off (Or.inr (Or.inl (by omega))) (fun e => (List.nodup_cons.1 h.nd).1 (by simp [e])) u,
    h.a.same fun k hk => hne k (by simp [hk]), h.k.same fun k hk => hne k (by simp [hk]), h.po, h.nd, fun k hk => by rw [World.size_setCell]; exact h.lt k hk⟩
theorem NodeIn.put3 {w : World} {g o : Nat} {pre rest kids : Fo} {v0 v1 v2 v3 v4 v5 : Value} {A K : Option Addr} {al : List (ByteArray × ByteArray)} {b1 ba bk br : List Nat} (h : NodeIn w g o pre rest v0 v1 v2 v3 v4 v5 A al ba K kids bk b1 br) (u : Value) :
    NodeIn (w.setCell ⟨g, o + 3, none⟩ u) g o pre rest v0 v1 v2 u v4 v5 A al ba K kids bk b1 br := by
  have hne : ∀ k ∈ b1 ++ (ba ++ bk ++ br), (w.setCell ⟨g, o + 3, none⟩ u).heap[k]? = w.heap[k]? := fun k hk => Below.heap_setCell _ _ _ _ (fun e => (List.nodup_cons.1 h.nd).1 (by rw [show g = k from e.symm]; exact hk))
  exact ⟨h.c0.set (Or.inr (by omega)) u, h.c1.set (Or.inr (by omega)) u, h.c2.set (Or.inr (by omega)) u, h.c3.put u, h.c4.set (Or.inr (by omega)) u, h.c5.set (Or.inr (by omega)) u, h.p.off (Or.inr (Or.inr (by have := h.po; omega))) (fun e => (List.nodup_cons.1 h.nd).1 (by simp [e])) u, h.r.off (Or.inr (Or.inl (by omega))) (fun e => (List.nodup_cons.1 h.nd).1 (by simp [e])) u,
    h.a.same fun k hk => hne k (by simp [hk]), h.k.same fun k hk => hne k (by simp [hk]), h.po, h.nd, fun k hk => by rw [World.size_setCell]; exact h.lt k hk⟩
theorem NodeIn.same {w w' : World} {g o : Nat} {pre rest kids : Fo} {v0 v1 v2 v3 v4 v5 : Value} {A K : Option Addr} {al : List (ByteArray × ByteArray)} {b1 ba bk br : List Nat} (h : NodeIn w g o pre rest v0 v1 v2 v3 v4 v5 A al ba K kids bk b1 br) (hB : Below w.heap.size w w') :
    NodeIn w' g o pre rest v0 v1 v2 v3 v4 v5 A al ba K kids bk b1 br := by
  have hg : w'.heap[g]? = w.heap[g]? := hB.block g (h.lt g (by simp))
  have hk : ∀ k ∈ b1 ++ (ba ++ bk ++ br), w'.heap[k]? = w.heap[k]? := fun k hk => hB.block k (h.lt k (List.mem_cons_of_mem _ hk))
  exact ⟨h.c0.same hg, h.c1.same hg, h.c2.same hg, h.c3.same hg, h.c4.same hg, h.c5.same hg, h.p.same hg fun k hk' => hk k (by simp [hk']), h.r.same hg fun k hk' => hk k (by simp [hk']), h.a.same fun k hk' => hk k (by simp [hk']), h.k.same fun k hk' => hk k (by simp [hk']), h.po, h.nd,
    fun k hk => Nat.lt_of_lt_of_le (h.lt k hk) hB.size⟩
theorem NodeIn.attrs {w w' : World} {g o : Nat} {pre rest kids : Fo} {v0 v1 v2 v3 v4 v5 : Value} {A K : Option Addr} {al al' : List (ByteArray × ByteArray)} {b1 ba bk br : List Nat} (h : NodeIn w g o pre rest v0 v1 v2 v3 v4 v5 A al ba K kids bk b1 br) (hB : OnlyAt w w' ba) (ha : AlRow w' A al' ba) :
    NodeIn w' g o pre rest v0 v1 v2 v3 v4 v5 A al' ba K kids bk b1 br := by
  have hn := List.nodup_cons.1 h.nd
  have hn2 := List.nodup_append.1 hn.2
  have hn3 := List.nodup_append.1 hn2.2.1
  have hn4 := List.nodup_append.1 hn3.1
  have hg : w'.heap[g]? = w.heap[g]? := hB.block g (h.lt g (by simp)) fun hc => hn.1 (by simp [hc])
  have hp : ∀ k ∈ b1, w'.heap[k]? = w.heap[k]? := fun k hk => hB.block k (h.lt k (by simp [hk])) fun hc => hn2.2.2 k hk k (by simp [hc]) rfl
  have hr : ∀ k ∈ br, w'.heap[k]? = w.heap[k]? := fun k hk => hB.block k (h.lt k (by simp [hk])) fun hc => hn3.2.2 k (by simp [hc]) k hk rfl
  have hkk : ∀ k ∈ bk, w'.heap[k]? = w.heap[k]? := fun k hk => hB.block k (h.lt k (by simp [hk])) fun hc => hn4.2.2 k hc k hk rfl
  exact ⟨h.c0.same hg, h.c1.same hg, h.c2.same hg, h.c3.same hg, h.c4.same hg, h.c5.same hg, h.p.same hg hp, h.r.same hg hr, ha, h.k.same hkk, h.po, h.nd, fun k hk => Nat.lt_of_lt_of_le (h.lt k hk) hB.size⟩
theorem NodeIn.kids {w w' : World} {g o : Nat} {pre rest kids kids' : Fo} {v0 v1 v2 v3 v4 v5 : Value} {A K : Option Addr} {al : List (ByteArray × ByteArray)} {b1 ba bk br : List Nat} (h : NodeIn w g o pre rest v0 v1 v2 v3 v4 v5 A al ba K kids bk b1 br) (hB : OnlyAt w w' bk) (hk' : KRow w' K kids' bk) :
    NodeIn w' g o pre rest v0 v1 v2 v3 v4 v5 A al ba K kids' bk b1 br := by
  have hn := List.nodup_cons.1 h.nd
  have hn2 := List.nodup_append.1 hn.2
  have hn3 := List.nodup_append.1 hn2.2.1
  have hn4 := List.nodup_append.1 hn3.1
  have hg : w'.heap[g]? = w.heap[g]? := hB.block g (h.lt g (by simp)) fun hc => hn.1 (by simp [hc])
  have hp : ∀ k ∈ b1, w'.heap[k]? = w.heap[k]? := fun k hk => hB.block k (h.lt k (by simp [hk])) fun hc => hn2.2.2 k hk k (by simp [hc]) rfl
  have hr : ∀ k ∈ br, w'.heap[k]? = w.heap[k]? := fun k hk => hB.block k (h.lt k (by simp [hk])) fun hc => hn3.2.2 k (by simp [hc]) k hk rfl
  have ha : ∀ k ∈ ba, w'.heap[k]? = w.heap[k]? := fun k hk => hB.block k (h.lt k (by simp [hk])) fun hc => hn4.2.2 k hk k hc rfl
  exact ⟨h.c0.same hg, h.c1.same hg, h.c2.same hg, h.c3.same hg, h.c4.same hg, h.c5.same hg, h.p.same hg hp, h.r.same hg hr, h.a.same ha, hk', h.po, h.nd, fun k hk => Nat.lt_of_lt_of_le (h.lt k hk) hB.size⟩

def MarkOK (F : Fo) : Prop := ∀ (m : Nat) (w : World) (A : Option Addr) (c : Nat) (bk : List Nat), 1 ≤ m → m + F.cnt ≤ 1073741824 → F.len ≤ maxLen → KRow w A F bk → bk.Nodup → (∀ k ∈ bk, k < w.heap.size) →
    Calls Try.prog 36 #[.slice A F.len c, .int .i64 (m : Int)] w fun e w' => e = .returned (.int .i64 ((m + F.cnt : Nat) : Int)) ∧ KRow w' A (markFo F m) bk ∧ OnlyAt w w' bk
theorem Fo.cnt_app : ∀ P S : Fo, (P.app S).cnt = P.cnt + S.cnt
  | .nil, S => by simp [Fo.app, Fo.cnt]
  | .cons _ _ _ _ _ _ r, S => by simp [Fo.app, Fo.cnt, Fo.cnt_app r S]; omega
theorem markFo_snoc : ∀ (P : Fo) (k sp : Int) (n t : ByteArray) (al : List (ByteArray × ByteArray)) (kids : Fo) (m : Nat), markFo (P.app (.one k sp n t al kids)) m = (markFo P m).app (markFo (.one k sp n t al kids) (m + P.cnt))
  | .nil, _, _, _, _, _, _, _ => rfl
  | .cons _ _ _ _ al' kids' r, k, sp, n, t, al, kids, m => by
    simp only [Fo.app, markFo, markFo_snoc r, Fo.cnt]
    rw [show m + 4 + 2 * al'.length + kids'.cnt + r.cnt = m + (4 + 2 * al'.length + kids'.cnt + r.cnt) by omega]
end Go.Proofs.Ytbcbmgeoaejlmaa
