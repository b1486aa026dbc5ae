
import Derived.Test.YtbcbmgeoaejlmaaNames2
import Derived.Deep.AppendLies
import Derived.Deep.RegionLaw
namespace Go.Proofs.Ytbcbmgeoaejlmaa
open Go.ChangeShapes Go.WideShapes Go.ChangeAt Go.RowKit Go.Deep

/-- the names so far, in the variable in block vb -/
def NamesAt (vb hi : Nat) (l : List ByteArray) (C : Nat → Prop) (w : World) : Prop :=
  hi ≤ vb ∧ ∃ v, CellW w vb 0 v ∧ NRow w (vb + 1) v l ∧ ∀ k, C k ↔ k = vb ∨ v.ownBlock = some k
def stNames (l : List ByteArray) : List Nd → List ByteArray
  | [] => l
  | x :: _ => stepN x.k x.n l
def okNames (l : List ByteArray) : List Nd → Prop
  | [] => True
  | _ :: _ => l.length ≤ 2097152
theorem trav_names : ∀ (F : Fo) (ch : List Nd) (l : List ByteArray), travU stNames F ch l = F.names l
  | .nil, _, l => by simp [travU, Fo.names]
  | .cons k sp n t al kids rest, ch, l => by rw [travU, trav_names kids, trav_names rest, Fo.names]; rfl
theorem ok_names : ∀ (F : Fo) (ch : List Nd) (l : List ByteArray), l.length + F.nodes ≤ 2097152 → travPU okNames stNames F ch l
  | .nil, _, _, _ => trivial
  | .cons k sp n t al kids rest, ch, l, h => by
    simp only [Fo.nodes] at h
    have e : (stNames l (⟨k, sp, n, t, al⟩ :: ch)).length ≤ l.length + 1 := stepN_le k n l
    refine ⟨by show l.length ≤ _; omega, ok_names kids _ _ (by omega), ok_names rest _ _ ?_⟩
    rw [trav_names]
    have := Fo.names_le kids (stNames l (⟨k, sp, n, t, al⟩ :: ch))
    omega
theorem NamesAt.own {vb hi : Nat} {l : List ByteArray} {C : Nat → Prop} {w : World} (h : NamesAt vb hi l C w) (k : Nat) (hk : C k) : hi ≤ k ∧ k < w.heap.size := by
  obtain ⟨h1, v, h2, h3, h4⟩ := h
  rcases (h4 k).1 hk with rfl | e
  · exact ⟨h1, h2.lt⟩
  · have := World.ownsRow.lt h3 k e
    omega
theorem NamesAt.keep {vb hi : Nat} {l : List ByteArray} {C : Nat → Prop} {w w' : World} (h : NamesAt vb hi l C w) (hB : But No w w') : NamesAt vb hi l C w' := by
  obtain ⟨h1, v, h2, h3, h4⟩ := h
  exact ⟨h1, v, h2.same (hB.block vb h2.lt id), World.ownsRow.kept h3 hB.grownBy (Classical.em _ |>.elim Or.inl fun hne => Or.inr hne), h4⟩
theorem names_grew {vb hi : Nat} {l : List ByteArray} {C : Nat → Prop} {w w0 w1 : World} {Av : Option Addr} {cv gg cap : Nat} {xn : ByteArray} {v : Value} (hC : ∀ k, C k ↔ k = vb ∨ (Value.slice Av l.length cv).ownBlock = some k) (hvb : hi ≤ vb) (hvlt : vb < w.heap.size) (h0 : But No w w0) (hcell : CellW w1 vb 0 v)
    (hown1 : w1.ownsRow (vb + 1) 9 1 (.slice (some ⟨gg, 0, none⟩) (l.length + 1) cap) (l.length + 1) (l.map Value.string ++ [.string xn])) (hgrow : w0.grownBy w1 (Value.slice Av l.length cv).ownBlock) (hat : (Value.slice Av l.length cv).ownBlock = some gg ∨ w.heap.size ≤ gg) :
    ∃ D, NamesAt vb hi (l ++ [xn]) D (w1.setCell ⟨vb, 0, none⟩ (.slice (some ⟨gg, 0, none⟩) (l.length + 1) cap)) ∧ But C w (w1.setCell ⟨vb, 0, none⟩ (.slice (some ⟨gg, 0, none⟩) (l.length + 1) cap)) ∧ ∀ k, D k → C k ∨ w.heap.size ≤ k := by
  have hgg := (World.ownsRow.lt hown1 gg rfl).1
  have hg2 : w1.grownBy (w1.setCell ⟨vb, 0, none⟩ (.slice (some ⟨gg, 0, none⟩) (l.length + 1) cap)) (some vb) := ⟨rfl, rfl, rfl, by rw [World.size_setCell]; exact Nat.le_refl _, fun k _ hne => Below.heap_setCell _ _ _ _ (fun e => hne (by rw [show k = vb from e]))⟩
  have h3 : NRow (w1.setCell ⟨vb, 0, none⟩ (.slice (some ⟨gg, 0, none⟩) (l.length + 1) cap)) (vb + 1) (.slice (some ⟨gg, 0, none⟩) (l.length + 1) cap) (l ++ [xn]) := by
    have := World.ownsRow.kept hown1 hg2 (Or.inr (by simp only [Value.ownBlock]; intro e; injection e with e; omega))
    simpa [NRow] using this
  have hb : But C w w1 := ⟨hgrow.os.trans h0.os, hgrow.tape.trans h0.tape, hgrow.output.trans h0.output, Nat.le_trans h0.size hgrow.size, fun k hk hn => (hgrow.block k (Nat.lt_of_lt_of_le hk h0.size) (fun e => hn ((hC k).2 (Or.inr e.symm)))).trans (h0.block k hk id)⟩
  refine ⟨fun k => k = vb ∨ k = gg, ⟨hvb, _, hcell.put _, h3, fun k => or_congr Iff.rfl ⟨fun e => by rw [e]; rfl, fun e => by injection e with e; exact e.symm⟩⟩, hb.setCell (p := ⟨vb, 0, none⟩) (Or.inl ((hC vb).2 (Or.inl rfl))) _, fun k hk => ?_⟩
  rcases hk with rfl | rfl
  · exact Or.inl ((hC _).2 (Or.inl rfl))
  · exact hat.imp (fun e => (hC _).2 (Or.inr e)) id
theorem containsN_q (l : List ByteArray) (s : ByteArray) (w : World) (A : Option Addr) (c : Nat) (bs : List Nat) (n : Nat) (r : Bool) (hq : hasN l s = r) (hl : l.length ≤ 1073741824) (hr : StrRow w A l bs) :
    Calls Try.prog 104 #[.slice A l.length c, .string s] (w.drewN n) fun e w' => e = .returned (.bool r) ∧ w' = w.drewN n :=
  (containsN_any l s (w.drewN n) A c bs hl (hr.same fun k _ => rfl)).mono fun _ _ h => ⟨by rw [h.1, hq], h.2.symm⟩

set_option maxHeartbeats 1000000 in
set_option maxRecDepth 100000 in
theorem names1_any (vb lo hi : Nat) (l : List ByteArray) (C : Nat → Prop) (w : World) (q : Option Addr) (x : Nd) (ch : List Nd) (ho : okNames l (x :: ch)) (hI : NamesAt vb hi l C w) (hS : SpotAt w C lo hi q (x :: ch)) :
    Calls Try.prog 103 #[.pointer q, .pointer (some ⟨vb, 0, none⟩)] w (SeenU stNames (NamesAt vb hi) l C (x :: ch) w) := by
  obtain ⟨i0, hi0, hz0, hz1, hz2⟩ := info_parts infoStr
  obtain ⟨g, b, o, q', rfl, h2, h3, h4, h5, h6, h7, h8, h9⟩ := hS
  obtain ⟨⟨c0, c1, c2, c3, z2, z3⟩, _⟩ := h8
  have HI := Lib.hid hI
  obtain ⟨hvb, v, hv, hN, hC⟩ := hI
  have v0 := hv.1
  have v1 := hv.2
  obtain ⟨Av, cv, bv, rfl, hrow, hbv⟩ := hN.form
  have HN := Lib.hid hN
  have HW := Lib.hid hrow
  have HC := Lib.hid hC
  have hl : l.length ≤ 2097152 := ho
  have HG := Lib.hid (And.intro h3 h4)
  clear c1 c3 h9 h6 z2 z3 ho h2 hN hrow hC h3 h4 hv
  obtain ⟨xk, xs, xn, xt, xa⟩ := x
  simp only at c0 c2
  by_cases hk : xk = 1
  · subst hk
    cases hq : hasN l xn with
    | true =>
      have HP := Lib.hid hq
      have HK := Lib.hid (show stNames l (⟨1, xs, xn, xt, xa⟩ :: ch) = l by simp [stNames, stepN, hq])
      clear hq
      go_enter Try.func103, Try.ntmps103
      go_wp2
      go_quiet ((go_at_call 104; exact Calls.quiet_of_same (containsN_q l xn w Av cv bv _ _ HP.out (by omega) HW.out)))
      go_wp2
      go_end0
      exact ⟨C, rfl, by rw [HK.out]; exact HI.out.keep (But.of_below (below_drewN (Below.refl _ _) _)), But.of_below (below_drewN (Below.refl _ _) _), fun _ h => Or.inl h⟩
    | false =>
      have HP := Lib.hid hq
      have HK := Lib.hid (show stNames l (⟨1, xs, xn, xt, xa⟩ :: ch) = l ++ [xn] by simp [stNames, stepN, hq])
      clear hq
      go_enter Try.func103, Try.ntmps103
      go_wp2
      go_quiet ((go_at_call 104; exact Calls.quiet_of_same (containsN_q l xn w Av cv bv _ _ HP.out (by omega) HW.out)))
      go_wp2_with fail
      have hvlt : vb < w.heap.size := (HI.out.own vb ((HC.out vb).2 (Or.inl rfl))).2
      have hvne : some vb ≠ (Value.slice Av l.length cv).ownBlock := fun e => by have := World.ownsRow.lt HN.out vb e.symm; omega
      have hnv := World.new_ne w ⟨vb, 0, none⟩ v0
      have hng := World.new_ne w ⟨g, 0, none⟩ h5
      have hnb := World.new_ne w ⟨b, o + 2, none⟩ c2
      have va0 := (World.cell?_of_block (w := w) (a := ⟨vb, 0, none⟩) (w' := (w.drewN (nq + 1)).alloc (.cells #[.string xn] 9)) (Below.heap_alloc (w.drewN (nq + 1)) _ vb hvlt)).trans v0
      go_region_law ((refine step_append_lies _ (by rfl) _ _ _ (by rfl) (vb + 1) 9 i0 _ 1 16 Try.underlying23 hi0 hz0 hz1 hz2 rfl (by omega) (.slice Av l.length cv) l.length (l.map Value.string) (by rfl) (HN.out.alloc _) ⟨w.heap.size, 0, none⟩ 1 1 [.string xn] (by rfl) (by rfl) (World.news_of_block (cs := #[.string xn]) (t := 9) (fr := (0, 0)) (heap_alloc_new w _)) (by simp [Value.oneCell']) (by omega) (by unfold maxLen; omega) (by omega) (by have := HI.out.own vb ((HC.out vb).2 (Or.inl rfl)); simp; omega) (w.heap.size + 1) (by simp) ?_; intro gg cap w1 hown1 hgrow hat hlt; have hbk : w1.heap[vb]? = w.heap[vb]? := (hgrow.block vb (Nat.lt_of_lt_of_le hvlt (by simp)) hvne).trans (Below.heap_alloc w _ vb hvlt); have v0' := (World.cell?_of_block (w := w) (a := ⟨vb, 0, none⟩) hbk).trans v0; have v1' := (World.frozen?_of_block (w := w) (a := ⟨vb, 0, none⟩) hbk).trans v1))
      all_goals (
        go_end0
        obtain ⟨D, d1, d2, d3⟩ := names_grew (xn := xn) HC.out hvb (HI.out.own vb ((HC.out vb).2 (Or.inl rfl))).2 ((But.of_below (C := No) (below_drewN (Below.refl w.heap.size w) (nq + 1))).alloc _) ⟨v0', v1'⟩ hown1 hgrow (hat.imp id fun h => by omega)
        exact ⟨D, rfl, by rw [HK.out]; exact d1, d2, d3⟩)
  · have hk' : (xk == 1) = false := by simpa using hk
    have HK := Lib.hid (show stNames l (⟨xk, xs, xn, xt, xa⟩ :: ch) = l by simp [stNames, stepN, hk])
    clear hk
    go_enter Try.func103, Try.ntmps103
    go_wp2
    go_quiet (fail)
    go_wp2
    go_end0
    exact ⟨C, rfl, by rw [HK.out]; exact HI.out.keep (But.of_below (below_drewN (Below.refl _ _) _)), But.of_below (below_drewN (Below.refl _ _) _), fun _ h => Or.inl h⟩
theorem visNames (vb lo hi : Nat) : VisU Try.prog 103 #[.pointer (some ⟨vb, 0, none⟩)] lo hi okNames stNames (NamesAt vb hi) where
  own := fun _ _ _ h k hk => h.own k hk
  keep := fun _ _ _ _ h hK => h.keep hK.but
  call := fun l C w q ch hne _ ho hI hS _ => by
    cases ch with
    | nil => exact absurd rfl hne
    | cons x r => exact names1_any vb lo hi l C w q x r ho hI hS
end Go.Proofs.Ytbcbmgeoaejlmaa
