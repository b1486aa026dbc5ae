import Derived.Maps.AppendAt
import Derived.Test.YthdkkpbhijlpaaaGreatS21
set_option linter.unusedVariables false
namespace Go.Proofs.YthdkkpbhijlpaaaGreat
open Go.ChangeShapes Go.WideShapes Go.ChangeAt Go.RowKit Go.Deep

theorem FoLay.split {w : World} {g : Nat} : ∀ {P S : Fo} {o : Nat} {bl : List Nat}, FoLay w g o (P.app S) bl → ∃ b1 b2, bl = b1 ++ b2 ∧ FoLay w g o P b1 ∧ FoLay w g (o + 6 * P.len) S b2
  | .nil, S, o, bl, h => ⟨[], bl, rfl, rfl, by simpa [Fo.app, Fo.len] using h⟩
  | .cons k sp n t al kids r, S, o, bl, ⟨A, K, ca, ck, ba, bk, br, hbl, h1, h2, h3, h4⟩ => by
    obtain ⟨b1, b2, e, i1, i2⟩ := FoLay.split h4
    refine ⟨ba ++ bk ++ b1, b2, by rw [hbl, e]; simp [List.append_assoc], ⟨A, K, ca, ck, ba, bk, b1, rfl, h1, h2, h3, i1⟩, ?_⟩
    simp only [Fo.len]
    rw [show o + 6 * (r.len + 1) = o + 6 + 6 * r.len by omega]; exact i2
/-- behind a write elsewhere -/
theorem FoLay.off {w : World} : ∀ {F : Fo} {g o g' m : Nat} {bl : List Nat}, FoLay w g o F bl → (g' ≠ g ∨ m < o ∨ o + 6 * F.len ≤ m) → g' ∉ bl → ∀ u, FoLay (w.setCell ⟨g', m, none⟩ u) g o F bl
  | .nil, _, _, _, _, _, h, _, _, _ => h
  | .cons k sp n t al kids rest, g, o, g', m, bl, ⟨A, K, ca, ck, ba, bk, br, hbl, ⟨c0, c1, c2, c3, z2, z3⟩, ⟨c4, h4, m4, r4⟩, ⟨c5, h5, m5, r5⟩, hr⟩, hm, hg, u => by
    subst hbl
    simp only [Fo.len] at hm
    have hk : ∀ k ∈ ba ++ bk ++ br, (w.setCell ⟨g', m, none⟩ u).heap[k]? = w.heap[k]? := fun k hk => Below.heap_setCell _ _ _ _ (fun e => hg (by rw [show g' = k from e.symm]; exact hk))
    refine ⟨A, K, ca, ck, ba, bk, br, rfl, ⟨c0.set (hm.imp id fun h => by omega) u, c1.set (hm.imp id fun h => by omega) u, c2.set (hm.imp id fun h => by omega) u, c3.set (hm.imp id fun h => by omega) u, z2, z3⟩, ⟨c4.set (hm.imp id fun h => by omega) u, h4, m4, r4.same fun k h => hk k (by simp [h])⟩,
      ⟨c5.set (hm.imp id fun h => by omega) u, h5, m5, ?_⟩, hr.off (hm.imp id fun h => by omega) (fun h => hg (by simp [h])) u⟩
    rcases r5 with r5 | ⟨c, b', e1, e2, e3⟩
    · exact Or.inl r5
    · subst e2
      exact Or.inr ⟨c, b', e1, rfl, e3.same (hk c (by simp)) fun k h => hk k (by simp [h])⟩
/-- a row of nodes, and all that it leads to -/
def KRow (w : World) (K : Option Addr) (kids : Fo) (bk : List Nat) : Prop := (kids.len = 0 ∧ bk = []) ∨ ∃ c b', K = some ⟨c, 0, none⟩ ∧ bk = c :: b' ∧ FoLay w c 0 kids b'
theorem KRow.same {w w' : World} {K : Option Addr} {kids : Fo} {bk : List Nat} (h : KRow w K kids bk) (hb : ∀ k ∈ bk, w'.heap[k]? = w.heap[k]?) : KRow w' K kids bk := by
  rcases h with h | ⟨c, b', e1, e2, e3⟩
  · exact Or.inl h
  · subst e2; exact Or.inr ⟨c, b', e1, rfl, e3.same (hb c (by simp)) fun k hk => hb k (by simp [hk])⟩
/-- a node at ⟨g, o⟩, with those ahead of it and behind it -/
structure NodeIn (w : World) (g o : Nat) (pre rest : Fo) (v0 v1 v2 v3 v4 v5 : Value) (A : Option Addr) (al : List (ByteArray × ByteArray)) (ba : List Nat) (K : Option Addr) (kids : Fo) (bk b1 br : List Nat) : Prop where
  c0 : CellW w g o v0
  c1 : CellW w g (o + 1) v1
  c2 : CellW w g (o + 2) v2
  c3 : CellW w g (o + 3) v3
  c4 : CellW w g (o + 4) v4
  c5 : CellW w g (o + 5) v5
  p : FoLay w g 0 pre b1
  r : FoLay w g (o + 6) rest br
  a : AlRow w A al ba
  k : KRow w K kids bk
  po : 6 * pre.len = o
  nd : (g :: (b1 ++ (ba ++ bk ++ br))).Nodup
  lt : ∀ k ∈ g :: (b1 ++ (ba ++ bk ++ br)), k < w.heap.size
theorem NodeIn.put0 {w : World} {g o : Nat} {pre rest kids : Fo} {v0 v1 v2 v3 v4 v5 : Value} {A K : Option Addr} {al : List (ByteArray × ByteArray)} {b1 ba bk br : List Nat} (h : NodeIn w g o pre rest v0 v1 v2 v3 v4 v5 A al ba K kids bk b1 br) (u : Value) :
    NodeIn (w.setCell ⟨g, o, none⟩ u) g o pre rest u v1 v2 v3 v4 v5 A al ba K kids bk b1 br := by
  have hne : ∀ k ∈ b1 ++ (ba ++ bk ++ br), (w.setCell ⟨g, o, none⟩ u).heap[k]? = w.heap[k]? := fun k hk => Below.heap_setCell _ _ _ _ (fun e => (List.nodup_cons.1 h.nd).1 (by rw [show g = k from e.symm]; exact hk))
  exact ⟨h.c0.put u, h.c1.set (Or.inr (by omega)) u, h.c2.set (Or.inr (by omega)) u, h.c3.set (Or.inr (by omega)) u, h.c4.set (Or.inr (by omega)) u, h.c5.set (Or.inr (by omega)) u, h.p.off (Or.inr (Or.inr (by have := h.po; omega))) (fun e => (List.nodup_cons.1 h.nd).1 (by simp [e])) u, h.r.off (Or.inr (Or.inl (by omega))) (fun e => (List.nodup_cons.1 h.nd).1 (by simp [e])) u,
    h.a.same fun k hk => hne k (by simp [hk]), h.k.same fun k hk => hne k (by simp [hk]), h.po, h.nd, fun k hk => by rw [World.size_setCell]; exact h.lt k hk⟩
theorem NodeIn.put1 {w : World} {g o : Nat} {pre rest kids : Fo} {v0 v1 v2 v3 v4 v5 : Value} {A K : Option Addr} {al : List (ByteArray × ByteArray)} {b1 ba bk br : List Nat} (h : NodeIn w g o pre rest v0 v1 v2 v3 v4 v5 A al ba K kids bk b1 br) (u : Value) :
    NodeIn (w.setCell ⟨g, o + 1, none⟩ u) g o pre rest v0 u v2 v3 v4 v5 A al ba K kids bk b1 br := by
  have hne : ∀ k ∈ b1 ++ (ba ++ bk ++ br), (w.setCell ⟨g, o + 1, none⟩ u).heap[k]? = w.heap[k]? := fun k hk => Below.heap_setCell _ _ _ _ (fun e => (List.nodup_cons.1 h.nd).1 (by rw [show g = k from e.symm]; exact hk))
  exact ⟨h.c0.set (Or.inr (by omega)) u, h.c1.put u, h.c2.set (Or.inr (by omega)) u, h.c3.set (Or.inr (by omega)) u, h.c4.set (Or.inr (by omega)) u, h.c5.set (Or.inr (by omega)) u, h.p.off (Or.inr (Or.inr (by have := h.po; omega))) (fun e => (List.nodup_cons.1 h.nd).1 (by simp [e])) u, h.r.off (Or.inr (Or.inl (by omega))) (fun e => (List.nodup_cons.1 h.nd).1 (by simp [e])) u,
    h.a.same fun k hk => hne k (by simp [hk]), h.k.same fun k hk => hne k (by simp [hk]), h.po, h.nd, fun k hk => by rw [World.size_setCell]; exact h.lt k hk⟩
theorem NodeIn.put2 {w : World} {g o : Nat} {pre rest kids : Fo} {v0 v1 v2 v3 v4 v5 : Value} {A K : Option Addr} {al : List (ByteArray × ByteArray)} {b1 ba bk br : List Nat} (h : NodeIn w g o pre rest v0 v1 v2 v3 v4 v5 A al ba K kids bk b1 br) (u : Value) :
    NodeIn (w.setCell ⟨g, o + 2, none⟩ u) g o pre rest v0 v1 u v3 v4 v5 A al ba K kids bk b1 br := by
  have hne : ∀ k ∈ b1 ++ (ba ++ bk ++ br), (w.setCell ⟨g, o + 2, none⟩ u).heap[k]? = w.heap[k]? := fun k hk => Below.heap_setCell _ _ _ _ (fun e => (List.nodup_cons.1 h.nd).1 (by rw [show g = k from e.symm]; exact hk))
  exact ⟨h.c0.set (Or.inr (by omega)) u, h.c1.set (Or.inr (by omega)) u, h.c2.put u, h.c3.set (Or.inr (by omega)) u, h.c4.set (Or.inr (by omega)) u, h.c5.set (Or.inr (by omega)) u, h.p.off (Or.inr (Or.inr (by have := h.po; omega))) (fun e => (List.nodup_cons.1 h.nd).1 (by simp [e])) u, h.r.off (Or.inr (Or.inl (by omega))) (fun e => (List.nodup_cons.1 h.nd).1 (by simp [e])) u,
    h.a.same fun k hk => hne k (by simp [hk]), h.k.same fun k hk => hne k (by simp [hk]), h.po, h.nd, fun k hk => by rw [World.size_setCell]; exact h.lt k hk⟩
theorem NodeIn.put3 {w : World} {g o : Nat} {pre rest kids : Fo} {v0 v1 v2 v3 v4 v5 : Value} {A K : Option Addr} {al : List (ByteArray × ByteArray)} {b1 ba bk br : List Nat} (h : NodeIn w g o pre rest v0 v1 v2 v3 v4 v5 A al ba K kids bk b1 br) (u : Value) :
    NodeIn (w.setCell ⟨g, o + 3, none⟩ u) g o pre rest v0 v1 v2 u v4 v5 A al ba K kids bk b1 br := by
  have hne : ∀ k ∈ b1 ++ (ba ++ bk ++ br), (w.setCell ⟨g, o + 3, none⟩ u).heap[k]? = w.heap[k]? := fun k hk => Below.heap_setCell _ _ _ _ (fun e => (List.nodup_cons.1 h.nd).1 (by rw [show g = k from e.symm]; exact hk))
  exact ⟨h.c0.set (Or.inr (by omega)) u, h.c1.set (Or.inr (by omega)) u, h.c2.set (Or.inr (by omega)) u, h.c3.put u, h.c4.set (Or.inr (by omega)) u, h.c5.set (Or.inr (by omega)) u, h.p.off (Or.inr (Or.inr (by have := h.po; omega))) (fun e => (List.nodup_cons.1 h.nd).1 (by simp [e])) u, h.r.off (Or.inr (Or.inl (by omega))) (fun e => (List.nodup_cons.1 h.nd).1 (by simp [e])) u,
    h.a.same fun k hk => hne k (by simp [hk]), h.k.same fun k hk => hne k (by simp [hk]), h.po, h.nd, fun k hk => by rw [World.size_setCell]; exact h.lt k hk⟩
theorem NodeIn.same {w w' : World} {g o : Nat} {pre rest kids : Fo} {v0 v1 v2 v3 v4 v5 : Value} {A K : Option Addr} {al : List (ByteArray × ByteArray)} {b1 ba bk br : List Nat} (h : NodeIn w g o pre rest v0 v1 v2 v3 v4 v5 A al ba K kids bk b1 br) (hB : Below w.heap.size w w') :
    NodeIn w' g o pre rest v0 v1 v2 v3 v4 v5 A al ba K kids bk b1 br := by
  have hg : w'.heap[g]? = w.heap[g]? := hB.block g (h.lt g (by simp))
  have hk : ∀ k ∈ b1 ++ (ba ++ bk ++ br), w'.heap[k]? = w.heap[k]? := fun k hk => hB.block k (h.lt k (List.mem_cons_of_mem _ hk))
  exact ⟨h.c0.same hg, h.c1.same hg, h.c2.same hg, h.c3.same hg, h.c4.same hg, h.c5.same hg, h.p.same hg fun k hk' => hk k (by simp [hk']), h.r.same hg fun k hk' => hk k (by simp [hk']), h.a.same fun k hk' => hk k (by simp [hk']), h.k.same fun k hk' => hk k (by simp [hk']), h.po, h.nd,
    fun k hk => Nat.lt_of_lt_of_le (h.lt k hk) hB.size⟩
theorem NodeIn.attrs {w w' : World} {g o : Nat} {pre rest kids : Fo} {v0 v1 v2 v3 v4 v5 : Value} {A K : Option Addr} {al al' : List (ByteArray × ByteArray)} {b1 ba bk br : List Nat} (h : NodeIn w g o pre rest v0 v1 v2 v3 v4 v5 A al ba K kids bk b1 br) (hB : OnlyAt w w' ba) (ha : AlRow w' A al' ba) :
    NodeIn w' g o pre rest v0 v1 v2 v3 v4 v5 A al' ba K kids bk b1 br := by
  have hn := List.nodup_cons.1 h.nd
  have hn2 := List.nodup_append.1 hn.2
  have hn3 := List.nodup_append.1 hn2.2.1
  have hn4 := List.nodup_append.1 hn3.1
  have hg : w'.heap[g]? = w.heap[g]? := hB.block g (h.lt g (by simp)) fun hc => hn.1 (by simp [hc])
  have hp : ∀ k ∈ b1, w'.heap[k]? = w.heap[k]? := fun k hk => hB.block k (h.lt k (by simp [hk])) fun hc => hn2.2.2 k hk k (by simp [hc]) rfl
  have hr : ∀ k ∈ br, w'.heap[k]? = w.heap[k]? := fun k hk => hB.block k (h.lt k (by simp [hk])) fun hc => hn3.2.2 k (by simp [hc]) k hk rfl
  have hkk : ∀ k ∈ bk, w'.heap[k]? = w.heap[k]? := fun k hk => hB.block k (h.lt k (by simp [hk])) fun hc => hn4.2.2 k hc k hk rfl
  exact ⟨h.c0.same hg, h.c1.same hg, h.c2.same hg, h.c3.same hg, h.c4.same hg, h.c5.same hg, h.p.same hg hp, h.r.same hg hr, ha, h.k.same hkk, h.po, h.nd, fun k hk => Nat.lt_of_lt_of_le (h.lt k hk) hB.size⟩
theorem NodeIn.kids {w w' : World} {g o : Nat} {pre rest kids kids' : Fo} {v0 v1 v2 v3 v4 v5 : Value} {A K : Option Addr} {al : List (ByteArray × ByteArray)} {b1 ba bk br : List Nat} (h : NodeIn w g o pre rest v0 v1 v2 v3 v4 v5 A al ba K kids bk b1 br) (hB : OnlyAt w w' bk) (hk' : KRow w' K kids' bk) :
    NodeIn w' g o pre rest v0 v1 v2 v3 v4 v5 A al ba K kids' bk b1 br := by
  have hn := List.nodup_cons.1 h.nd
  have hn2 := List.nodup_append.1 hn.2
  have hn3 := List.nodup_append.1 hn2.2.1
  have hn4 := List.nodup_append.1 hn3.1
  have hg : w'.heap[g]? = w.heap[g]? := hB.block g (h.lt g (by simp)) fun hc => hn.1 (by simp [hc])
  have hp : ∀ k ∈ b1, w'.heap[k]? = w.heap[k]? := fun k hk => hB.block k (h.lt k (by simp [hk])) fun hc => hn2.2.2 k hk k (by simp [hc]) rfl
  have hr : ∀ k ∈ br, w'.heap[k]? = w.heap[k]? := fun k hk => hB.block k (h.lt k (by simp [hk])) fun hc => hn3.2.2 k (by simp [hc]) k hk rfl
  have ha : ∀ k ∈ ba, w'.heap[k]? = w.heap[k]? := fun k hk => hB.block k (h.lt k (by simp [hk])) fun hc => hn4.2.2 k hk k hc rfl
  exact ⟨h.c0.same hg, h.c1.same hg, h.c2.same hg, h.c3.same hg, h.c4.same hg, h.c5.same hg, h.p.same hg hp, h.r.same hg hr, h.a.same ha, hk', h.po, h.nd, fun k hk => Nat.lt_of_lt_of_le (h.lt k hk) hB.size⟩
def MarkOK (F : Fo) : Prop := ∀ (m : Nat) (w : World) (A : Option Addr) (c : Nat) (bk : List Nat), 1 ≤ m → m + F.cnt ≤ 1073741824 → F.len ≤ maxLen → KRow w A F bk → bk.Nodup → (∀ k ∈ bk, k < w.heap.size) →
    Calls Tryz.prog 16 #[.slice A F.len c, .int .i64 (m : Int)] w fun e w' => e = .returned (.int .i64 ((m + F.cnt : Nat) : Int)) ∧ KRow w' A (markFo F m) bk ∧ OnlyAt w w' bk
theorem Fo.cnt_app : ∀ P S : Fo, (P.app S).cnt = P.cnt + S.cnt
  | .nil, S => by simp [Fo.app, Fo.cnt]
  | .cons _ _ _ _ _ _ r, S => by simp [Fo.app, Fo.cnt, Fo.cnt_app r S]; omega
theorem markFo_snoc : ∀ (P : Fo) (k sp : Int) (n t : ByteArray) (al : List (ByteArray × ByteArray)) (kids : Fo) (m : Nat), markFo (P.app (.one k sp n t al kids)) m = (markFo P m).app (markFo (.one k sp n t al kids) (m + P.cnt))
  | .nil, _, _, _, _, _, _, _ => rfl
  | .cons _ _ _ _ al' kids' r, k, sp, n, t, al, kids, m => by
    simp only [Fo.app, markFo, markFo_snoc r, Fo.cnt]
    rw [show m + 4 + 2 * al'.length + kids'.cnt + r.cnt = m + (4 + 2 * al'.length + kids'.cnt + r.cnt) by omega]
end Go.Proofs.YthdkkpbhijlpaaaGreat
namespace Go.Proofs.YthdkkpbhijlpaaaGreat
open Go.ChangeShapes Go.WideShapes Go.ChangeAt Go.RowKit Go.Deep

/-- a forest that is marked up to a place -/
theorem NodeIn.enter {w : World} {g : Nat} {P : Fo} {k sp : Int} {n t : ByteArray} {al : List (ByteArray × ByteArray)} {kids r : Fo} {bl : List Nat} (h : FoLay w g 0 (P.app (.cons k sp n t al kids r)) bl) (hn : (g :: bl).Nodup) (hlt : ∀ k ∈ g :: bl, k < w.heap.size) :
    ∃ (A K : Option Addr) (ca ck : Nat) (ba bk b1 br : List Nat), bl = b1 ++ (ba ++ bk ++ br) ∧ NodeIn w g (6 * P.len) P r (.int .i64 k) (.int .i64 sp) (.string n) (.string t) (.slice A al.length ca) (.slice K kids.len ck) A al ba K kids bk b1 br ∧
      al.length ≤ ca ∧ al.length ≤ maxLen ∧ kids.len ≤ ck ∧ kids.len ≤ maxLen ∧ n.size ≤ maxLen ∧ t.size ≤ maxLen := by
  obtain ⟨b1, b2, rfl, i1, i2⟩ := h.split
  rw [Nat.zero_add] at i2
  obtain ⟨A, K, ca, ck, ba, bk, br, rfl, ⟨c0, c1, c2, c3, z2, z3⟩, ⟨c4, h4, m4, r4⟩, ⟨c5, h5, m5, r5⟩, hr⟩ := i2
  exact ⟨A, K, ca, ck, ba, bk, b1, br, rfl, ⟨c0, c1, c2, c3, c4, c5, i1, hr, r4, r5, rfl, hn, hlt⟩, h4, m4, h5, m5, z2, z3⟩
theorem NodeIn.leave {w : World} {g o : Nat} {P : Fo} {k sp : Int} {n t : ByteArray} {al : List (ByteArray × ByteArray)} {kids r : Fo} {A K : Option Addr} {ca ck : Nat} {ba bk b1 br : List Nat} (h : NodeIn w g o P r (.int .i64 k) (.int .i64 sp) (.string n) (.string t) (.slice A al.length ca) (.slice K kids.len ck) A al ba K kids bk b1 br)
    (h4 : al.length ≤ ca) (m4 : al.length ≤ maxLen) (h5 : kids.len ≤ ck) (m5 : kids.len ≤ maxLen) (z2 : n.size ≤ maxLen) (z3 : t.size ≤ maxLen) : FoLay w g 0 (P.app (.cons k sp n t al kids r)) (b1 ++ (ba ++ bk ++ br)) := by
  refine h.p.app ?_
  rw [Nat.zero_add, h.po]
  exact ⟨A, K, ca, ck, ba, bk, br, rfl, ⟨h.c0, h.c1, h.c2, h.c3, z2, z3⟩, ⟨h.c4, h4, m4, h.a⟩, ⟨h.c5, h5, m5, h.k⟩, h.r⟩
theorem OnlyAt.sub {w w' : World} {l l' : List Nat} (h : OnlyAt w w' l) (hs : ∀ k ∈ l, k ∈ l') : OnlyAt w w' l' := h.mono hs
theorem OnlyAt.low {w w' : World} (h : Below w.heap.size w w') (l : List Nat) : OnlyAt w w' l := But.of_below h
theorem OnlyAt.then {a b c : World} {l : List Nat} (h : OnlyAt a b l) (k : OnlyAt b c l) : OnlyAt a c l := But.trans h k fun _ h => Or.inl h
theorem NodeIn.ndk {w : World} {g o : Nat} {pre rest kids : Fo} {v0 v1 v2 v3 v4 v5 : Value} {A K : Option Addr} {al : List (ByteArray × ByteArray)} {b1 ba bk br : List Nat} (h : NodeIn w g o pre rest v0 v1 v2 v3 v4 v5 A al ba K kids bk b1 br) : bk.Nodup :=
  (List.nodup_append.1 (List.nodup_append.1 (List.nodup_append.1 (List.nodup_cons.1 h.nd).2).2.1).1).2.1
set_option maxHeartbeats 4000000 in
theorem markNodeS_lt : ∀ (N : Nat) (F : Fo), F.nodes < N → MarkOK F := by
  intro N
  induction N with
  | zero => intro F hF; omega
  | succ N IH =>
  intro F hF m w A c bk0 h1 h2 hlen hK hnd hbl
  rcases hK with ⟨h0, rfl⟩ | ⟨g, bl, rfl, rfl, hl⟩
  · cases F with
    | cons _ _ _ _ _ _ _ => simp [Fo.len] at h0
    | nil =>
      have hl : Fo.nil.len = 0 := rfl
      rw [hl]
      clear hlen h0 hnd hbl hF
      go_enter Tryz.func16, Tryz.ntmps16
      go_wp2
      refine wp_loop_rounds 1 ?_
      rw [rounds_succ]
      go_wp2
      go_ret
      exact ⟨rfl, Or.inl ⟨rfl, rfl⟩, But.refl _ _⟩
  · have HL := Lib.hid hl
    have HF := Lib.hid hF
    have HI := Lib.hid IH
    have HN := Lib.hid (And.intro hnd hbl)
    unfold maxLen at hlen
    clear hl hF IH hnd hbl
    go_enter Tryz.func16, Tryz.ntmps16
    go_wp2
    go_loopw [1, 5] (fun x i wr => ∃ (k mm : Nat) (pre suf : Fo), x = .int .i64 (mm : Int) ∧ i = .int .i64 (k : Int) ∧ F = pre.app suf ∧ pre.len = k ∧ mm = m + pre.cnt ∧ Hid (FoLay wr g 0 ((markFo pre m).app suf) bl ∧ OnlyAt w wr (g :: bl) ∧ suf.nodes < N + 1)) (fun x i wr => F.len - (intOf i).toNat)
    case atStart => exact ⟨0, m, .nil, F, rfl, rfl, rfl, rfl, by simp [Fo.cnt], Lib.hid ⟨HL.out, But.refl _ _, HF.out⟩⟩
    case round =>
      obtain ⟨k, mm, pre, suf, rfl, rfl, hp, hk, hmm, HH⟩ := hrel
      have HP := Lib.hid hp
      cases suf with
      | nil =>
        have hkl : k = F.len := by rw [hp, Fo.app_nil, hk]
        have hm : mm = m + F.cnt := by rw [hmm, hp, Fo.app_nil]
        clear hp hk hmm
        subst hkl
        subst hm
        go_wp2
        go_ret
        obtain ⟨i1, i2, _⟩ := HH.out
        have hp := HP.out
        rw [Fo.app_nil] at hp i1
        exact ⟨rfl, Or.inr ⟨g, bl, rfl, rfl, by rw [hp]; exact i1⟩, i2⟩
      | cons xk xs xn xt xa kids r =>
        have hkl : k < F.len := by rw [hp, Fo.len_app, hk]; simp [Fo.len]
        have hcnt : mm + 4 + 2 * xa.length + kids.cnt + r.cnt = m + F.cnt := by rw [hp, Fo.cnt_app, hmm]; simp only [Fo.cnt]; omega
        obtain ⟨i1, i2, i3⟩ := HH.out
        obtain ⟨A4, K5, ca, ck, ba, bk, b1, br, hbl, hin, h4, m4, h5, m5, z2, z3⟩ := NodeIn.enter i1 HN.out.1 (fun k hk => Nat.lt_of_lt_of_le (HN.out.2 k hk) i2.size)
        rw [markFo_len, hk, show 6 * k = k * 6 by omega] at hin
        have hk1 : 1 ≤ mm := by omega
        have HK := Lib.hid (And.intro hk hmm)
        have HO := Lib.hid (And.intro i2 (And.intro i3 hbl))
        have HM := Lib.hid (And.intro h4 (And.intro m4 (And.intro h5 m5)))
        have c0 := hin.c0.1
        have f0 := hin.c0.2
        have c1 := (hin.put0 (.int .i64 (mm : Int))).c1.1
        have f1 := hin.c1.2
        have c1' := hin.c1.1
        have I2 := Lib.hid ((hin.put0 (.int .i64 (mm : Int))).put1 (.int .i64 ((mm : Int) + 1)))
        have hg : g < wr.heap.size := hin.lt g (by simp)
        unfold maxLen at m4 m5
        clear HH hp hk hmm i1 i2 i3 hbl hin z2 z3 h4 h5
        go_wp2_with fail
        rw [show ((mm : Int) + 1 + 1) = ((mm + 2 : Nat) : Int) by omega]
        refine (markText_any (mm + 2) (by omega) (by omega) _).mono ?_
        rintro e w1 ⟨rfl, hB⟩
        have hN := I2.out.same hB
        have d2 := hN.c2.1
        have e2 := hN.c2.2
        have J := Lib.hid (hN.put2 (.string (markT (mm + 2))))
        have O1 := Lib.hid (But.setCell (OnlyAt.then (l := g :: bl) (((But.refl (fun k => k ∈ g :: bl) wr).setCell (p := ⟨g, k * 6, none⟩) (Or.inl (by simp)) (.int .i64 (mm : Int))).setCell (p := ⟨g, k * 6 + 1, none⟩) (Or.inl (by simp)) (.int .i64 ((mm : Int) + 1))) (OnlyAt.low hB _)) (p := ⟨g, k * 6 + 2, none⟩) (Or.inl (by simp)) (.string (markT (mm + 2))))
        clear hB hN
        go_wp2_with fail
        rw [show ((mm : Int) + 2 + 1) = ((mm + 3 : Nat) : Int) by omega]
        refine (markText_any (mm + 3) (by omega) (by omega) _).mono ?_
        rintro e w2 ⟨rfl, hB⟩
        have hN := J.out.same hB
        have d3 := hN.c3.1
        have e3 := hN.c3.2
        have hP := hN.put3 (.string (markT (mm + 3)))
        have d4 := hP.c4.1
        have J2 := Lib.hid hP
        have O2 := Lib.hid (But.setCell (OnlyAt.then (l := g :: bl) O1.out (OnlyAt.low hB _)) (p := ⟨g, k * 6 + 3, none⟩) (Or.inl (by simp)) (.string (markT (mm + 3))))
        clear hB hN hP
        go_wp2_with fail
        rw [show ((mm : Int) + 3 + 1) = ((mm + 4 : Nat) : Int) by omega]
        refine (markAttrS_any xa (mm + 4) _ A4 ca ba (by omega) (by omega) J2.out.a).mono ?_
        rintro e w3 ⟨rfl, ha, hB⟩
        have hN := J2.out.attrs hB ha
        have d5 := hN.c5.1
        have J3 := Lib.hid hN
        have O3 := Lib.hid (OnlyAt.then (l := g :: bl) O2.out (OnlyAt.sub hB fun q hq => by rw [HO.out.2.2]; simp [hq]))
        clear hB ha hN d4 d3 d2 e2 e3 c0 c1 c1' f0 f1
        go_wp2_with fail
        rw [show (mm : Int) + 4 + 2 * (xa.length : Int) = ((mm + 4 + 2 * xa.length : Nat) : Int) by omega]
        refine (HI.out kids (by have := HO.out.2.1; simp [Fo.nodes] at this; omega) (mm + 4 + 2 * xa.length) _ K5 ck bk (by omega) (by omega) (by unfold maxLen; exact m5) J3.out.k J3.out.ndk (fun q hq => J3.out.lt q (by simp [hq]))).mono ?_
        rintro e w4 ⟨rfl, hK, hB⟩
        have J4 := Lib.hid (J3.out.kids hB hK)
        have O4 := Lib.hid (OnlyAt.then (l := g :: bl) O3.out (OnlyAt.sub hB fun q hq => by rw [HO.out.2.2]; simp [hq]))
        clear hB hK d5
        go_wp2_with fail
        refine ⟨⟨k + 1, mm + 4 + 2 * xa.length + kids.cnt, pre.app (.one xk xs xn xt xa kids), r, by go_num, by go_num, by rw [HP.out, Fo.app_assoc]; rfl, by rw [Fo.len_app, HK.out.1]; rfl, by rw [Fo.cnt_app, HK.out.2]; simp only [Fo.one, Fo.cnt]; omega, Lib.hid ⟨?_, OnlyAt.then HO.out.1 O4.out, by have := HO.out.2.1; simp [Fo.nodes] at this; omega⟩⟩, by simp only [intOf]; omega⟩
        have hs2 := markT_size (mm + 2)
        have hs3 := markT_size (mm + 3)
        have J5 := J4.out
        have e1 : (mm : Int) + 1 = ((mm + 1 : Nat) : Int) := by omega
        have e4 : xa.length = (markAl xa (mm + 4)).length := (markAl_len _ _).symm
        have e5 : kids.len = (markFo kids (mm + 4 + 2 * xa.length)).len := (markFo_len _ _).symm
        have l4 := HM.out
        rw [HO.out.2.2, markFo_snoc, Fo.app_assoc, ← HK.out.2]
        show FoLay w4 g 0 ((markFo pre m).app (.cons mm ((mm + 1 : Nat) : Int) (markT (mm + 2)) (markT (mm + 3)) (markAl xa (mm + 4)) (markFo kids (mm + 4 + 2 * xa.length)) r)) _
        refine NodeIn.leave (o := k * 6) (A := A4) (K := K5) (ca := ca) (ck := ck) ?_ (by rw [← e4]; exact l4.1) (by rw [← e4]; exact l4.2.1) (by rw [← e5]; exact l4.2.2.1) (by rw [← e5]; exact l4.2.2.2) (by unfold maxLen; omega) (by unfold maxLen; omega)
        rw [← e4, ← e5, ← e1]
        exact J5
theorem markNodeS_any (F : Fo) : MarkOK F := markNodeS_lt (F.nodes + 1) F (Nat.lt_succ_self _)
end Go.Proofs.YthdkkpbhijlpaaaGreat
namespace Go.Proofs.YthdkkpbhijlpaaaGreat
open Go.ChangeShapes Go.WideShapes Go.ChangeAt Go.RowKit Go.Deep

/-- the values of a row of nodes, and the rows that they lead to -/
def FoVals (w : World) : List Value → Fo → List Nat → Prop
  | xs, .nil, bl => xs = [] ∧ bl = []
  | xs, .cons k sp n t al kids rest, bl => ∃ (A K : Option Addr) (ca ck : Nat) (ba bk br : List Nat) (xr : List Value), xs = .int .i64 k :: .int .i64 sp :: .string n :: .string t :: .slice A al.length ca :: .slice K kids.len ck :: xr ∧ bl = ba ++ bk ++ br ∧
    (n.size ≤ maxLen ∧ t.size ≤ maxLen) ∧ (al.length ≤ ca ∧ al.length ≤ maxLen ∧ AlRow w A al ba) ∧ (kids.len ≤ ck ∧ kids.len ≤ maxLen ∧ KRow w K kids bk) ∧ FoVals w xr rest br
theorem FoVals.same {w w' : World} : ∀ {F : Fo} {xs : List Value} {bl : List Nat}, FoVals w xs F bl → (∀ k ∈ bl, w'.heap[k]? = w.heap[k]?) → FoVals w' xs F bl
  | .nil, _, _, h, _ => h
  | .cons k sp n t al kids rest, xs, bl, ⟨A, K, ca, ck, ba, bk, br, xr, hx, hbl, hz, ⟨h4, m4, r4⟩, ⟨h5, m5, r5⟩, hr⟩, hb => by
    subst hbl
    exact ⟨A, K, ca, ck, ba, bk, br, xr, hx, rfl, hz, ⟨h4, m4, r4.same fun k hk => hb k (by simp [hk])⟩, ⟨h5, m5, r5.same fun k hk => hb k (by simp [hk])⟩, hr.same fun k hk => hb k (by simp [hk])⟩
theorem FoVals.len {w : World} : ∀ {F : Fo} {xs : List Value} {bl : List Nat}, FoVals w xs F bl → xs.length = F.len * 6
  | .nil, _, _, h => by rw [h.1]; rfl
  | .cons k sp n t al kids rest, xs, bl, ⟨A, K, ca, ck, ba, bk, br, xr, hx, _, _, _, _, hr⟩ => by
    rw [hx]; simp only [List.length_cons, hr.len, Fo.len]; omega
theorem FoVals.app {w : World} : ∀ {P S : Fo} {xs ys : List Value} {b1 b2 : List Nat}, FoVals w xs P b1 → FoVals w ys S b2 → FoVals w (xs ++ ys) (P.app S) (b1 ++ b2)
  | .nil, S, xs, ys, b1, b2, h, h2 => by obtain ⟨rfl, rfl⟩ := h; simpa [Fo.app] using h2
  | .cons k sp n t al kids rest, S, xs, ys, b1, b2, ⟨A, K, ca, ck, ba, bk, br, xr, hx, hbl, hz, h4, h5, hr⟩, h2 => by
    subst hx hbl
    exact ⟨A, K, ca, ck, ba, bk, br ++ b2, xr ++ ys, rfl, by simp [List.append_assoc], hz, h4, h5, hr.app h2⟩
theorem FoVals.lay {w : World} {g : Nat} : ∀ {F : Fo} {xs : List Value} {bl : List Nat} {o : Nat}, FoVals w xs F bl → (∀ j (h : j < xs.length), CellW w g (o + j) xs[j]) → FoLay w g o F bl
  | .nil, _, _, _, h, _ => h.2
  | .cons k sp n t al kids rest, xs, bl, o, ⟨A, K, ca, ck, ba, bk, br, xr, hx, hbl, hz, ⟨h4, m4, r4⟩, ⟨h5, m5, r5⟩, hr⟩, hc => by
    subst hx
    refine ⟨A, K, ca, ck, ba, bk, br, hbl, ⟨hc 0 (by simp), hc 1 (by simp), hc 2 (by simp), hc 3 (by simp), hz.1, hz.2⟩, ⟨hc 4 (by simp), h4, m4, r4⟩, ⟨hc 5 (by simp), h5, m5, r5⟩, hr.lay fun j hj => ?_⟩
    have := hc (j + 6) (by simp; omega)
    rw [show o + 6 + j = o + (j + 6) by omega]
    simpa using this
/-- a row of nodes of one's own, from base on, that may grow -/
def GRow (w : World) (base : Nat) (v : Value) (F : Fo) (bl : List Nat) : Prop :=
  ∃ xs, w.ownsRow base 71 6 v F.len xs ∧ FoVals w xs F bl ∧ bl.Nodup ∧ (∀ k ∈ bl, base ≤ k ∧ k < w.heap.size) ∧ ∀ k, v.ownBlock = some k → k ∉ bl
theorem GRow.nil (w : World) (base : Nat) : GRow w base (.slice none 0 0) .nil [] :=
  ⟨[], World.ownsRow_nil _ _ _ _, ⟨rfl, rfl⟩, List.nodup_nil, by simp, by simp⟩
theorem GRow.form {w : World} {base : Nat} {v : Value} {F : Fo} {bl : List Nat} (h : GRow w base v F bl) : ∃ A c bs, v = .slice A F.len c ∧ F.len ≤ c ∧ KRow w A F bs ∧ bs.Nodup ∧ ∀ k ∈ bs, base ≤ k ∧ k < w.heap.size := by
  obtain ⟨xs, ho, hv, hn, hb, hg⟩ := h
  have hc := fun g hg => World.ownsRow.cells ho (g := g) hg
  obtain ⟨hl, ho⟩ := ho
  rcases ho with ⟨rfl, h0⟩ | ⟨g, cap, cur, rfl, hbs, hblk, hle, _, _, _⟩
  · exact ⟨none, 0, [], by rw [h0], by omega, Or.inl ⟨h0, rfl⟩, List.nodup_nil, by simp⟩
  · refine ⟨_, cap, g :: bl, rfl, hle, Or.inr ⟨g, bl, rfl, rfl, hv.lay fun j hj => ⟨?_, ?_⟩⟩, List.nodup_cons.2 ⟨hg g rfl, hn⟩, fun k hk => ?_⟩
    · have := hc g rfl j xs[j] (by simp [hj])
      rw [Addr.add_lit, Nat.zero_add] at this
      rw [Nat.zero_add]
      exact this
    · simp [World.frozen?, hblk]
    · rcases List.mem_cons.1 hk with rfl | hk
      · exact ⟨hbs, (Array.getElem?_eq_some_iff.1 hblk).1⟩
      · exact hb k hk
/-- behind the append of a node -/
theorem grow_push {w w1 : World} {base : Nat} {v v' : Value} {F : Fo} {bl : List Nat} {xs : List Value} {k sp : Int} {n t : ByteArray} {al : List (ByteArray × ByteArray)} {kids : Fo} {A K : Option Addr} {ca ck : Nat} {ba bk : List Nat}
    (hv : FoVals w xs F bl) (hb : ∀ k ∈ bl ++ (ba ++ bk), base ≤ k ∧ k < w.heap.size) (hn : (bl ++ (ba ++ bk)).Nodup) (hg : ∀ k, v.ownBlock = some k → k ∉ bl ++ (ba ++ bk))
    (hz : n.size ≤ maxLen ∧ t.size ≤ maxLen) (h4 : al.length ≤ ca ∧ al.length ≤ maxLen ∧ AlRow w A al ba) (h5 : kids.len ≤ ck ∧ kids.len ≤ maxLen ∧ KRow w K kids bk)
    (hown : w1.ownsRow base 71 6 v' (F.len + 1) (xs ++ [.int .i64 k, .int .i64 sp, .string n, .string t, .slice A al.length ca, .slice K kids.len ck]))
    (hkeep : ∀ k, k < w.heap.size → v.ownBlock ≠ some k → w1.heap[k]? = w.heap[k]?) (hsz : w.heap.size ≤ w1.heap.size) (hat : v'.ownBlock = v.ownBlock ∨ ∃ q, v'.ownBlock = some q ∧ w.heap.size ≤ q) :
    GRow w1 base v' (F.app (.one k sp n t al kids)) (bl ++ (ba ++ bk)) := by
  have hk : ∀ q ∈ bl ++ (ba ++ bk), w1.heap[q]? = w.heap[q]? := fun q hq => hkeep q (hb q hq).2 fun e => hg q e hq
  refine ⟨_, by rw [Fo.len_app]; exact hown, (hv.app (S := .one k sp n t al kids) (b2 := ba ++ bk) ⟨A, K, ca, ck, ba, bk, [], [], rfl, by simp, hz, h4, h5, rfl, rfl⟩).same hk, hn, fun q hq => ⟨(hb q hq).1, Nat.lt_of_lt_of_le (hb q hq).2 hsz⟩, fun q hq hm => ?_⟩
  rcases hat with e | ⟨r, e, hr⟩
  · exact hg q (by rw [← e]; exact hq) hm
  · rw [e] at hq
    injection hq with hq
    have := (hb q hm).2
    omega
/-- the values of a row of attributes -/
def alVals : List (ByteArray × ByteArray) → List Value
  | [] => []
  | x :: r => .string x.1 :: .string x.2 :: alVals r
theorem alVals_len : ∀ al : List (ByteArray × ByteArray), (alVals al).length = al.length * 2
  | [] => rfl
  | _ :: r => by simp only [alVals, List.length_cons, alVals_len r]; omega
theorem alLay_of {w : World} {a : Nat} : ∀ {al : List (ByteArray × ByteArray)} {o : Nat}, (∀ x ∈ al, x.1.size ≤ maxLen ∧ x.2.size ≤ maxLen) → (∀ j (h : j < (alVals al).length), CellW w a (o + j) (alVals al)[j]) → AlLay w a o al
  | [], _, _, _ => trivial
  | x :: r, o, hs, hc => by
    have e := hs x (by simp)
    refine ⟨hc 0 (by simp [alVals]), hc 1 (by simp [alVals]), e.1, e.2, alLay_of (fun y hy => hs y (by simp [hy])) fun j hj => ?_⟩
    have := hc (j + 2) (by simp [alVals]; omega)
    rw [show o + 2 + j = o + (j + 2) by omega]
    simpa [alVals] using this
theorem arow_form {w : World} {base : Nat} {v : Value} {al : List (ByteArray × ByteArray)} (h : w.ownsRow base 121 2 v al.length (alVals al)) (hs : ∀ x ∈ al, x.1.size ≤ maxLen ∧ x.2.size ≤ maxLen) :
    ∃ A c ba, v = .slice A al.length c ∧ al.length ≤ c ∧ AlRow w A al ba ∧ ba.Nodup ∧ (∀ k ∈ ba, base ≤ k ∧ k < w.heap.size) ∧ ∀ k ∈ ba, v.ownBlock = some k := by
  have hc := fun g hg => World.ownsRow.cells h (g := g) hg
  obtain ⟨hl, ho⟩ := h
  rcases ho with ⟨rfl, h0⟩ | ⟨g, cap, cur, rfl, hbs, hblk, hle, _, _, _⟩
  · exact ⟨none, 0, [], by rw [h0], by omega, Or.inl ⟨List.length_eq_zero_iff.1 h0, rfl⟩, List.nodup_nil, by simp, by simp⟩
  · refine ⟨_, cap, [g], rfl, hle, Or.inr ⟨g, rfl, rfl, alLay_of hs fun j hj => ⟨?_, ?_⟩⟩, by simp, fun k hk => ?_, fun k hk => ?_⟩
    · have := hc g rfl j (alVals al)[j] (by simp [hj])
      rw [Addr.add_lit, Nat.zero_add] at this
      rw [Nat.zero_add]
      exact this
    · simp [World.frozen?, hblk]
    · rw [List.mem_singleton.1 hk]
      exact ⟨hbs, (Array.getElem?_eq_some_iff.1 hblk).1⟩
    · rw [List.mem_singleton.1 hk]; rfl
end Go.Proofs.YthdkkpbhijlpaaaGreat
