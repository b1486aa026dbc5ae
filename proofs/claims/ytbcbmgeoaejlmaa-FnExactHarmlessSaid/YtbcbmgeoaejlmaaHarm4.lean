
import Derived.Test.YtbcbmgeoaejlmaaHarm3
import Derived.Test.YtbcbmgeoaejlmaaIRow
namespace Go.Proofs.Ytbcbmgeoaejlmaa
open Go.ChangeShapes Go.WideShapes Go.ChangeAt Go.RowKit Go.Deep

/-- the places of a chain, from the outermost on -/
def placesOf : List NP → List Int
  | [] => []
  | x :: r => placesOf r ++ [(x.2.1 : Int)]
theorem placesOf_len : ∀ ch : List NP, (placesOf ch).length = ch.length
  | [] => rfl
  | x :: r => by simp [placesOf, placesOf_len r]

theorem SpotP.no {w : World} {C : Nat → Prop} {lo hi : Nat} : ∀ {ch : List NP} {p : Option Addr}, SpotP w C lo hi p ch → SpotP w No lo hi p ch
  | [], _, h => h
  | _ :: _, _, ⟨g, b, o, q, h1, h2, h3, _, h5, h6, h7, h8, h8', hk, h9⟩ => ⟨g, b, o, q, h1, h2, h3, id, h5, h6, h7, h8, h8', hk, SpotP.no h9⟩
theorem SpotP.step {w w' : World} {lo hi : Nat} {ch : List NP} {p : Option Addr} (h : SpotP w No lo hi p ch) (hh : hi ≤ w.heap.size) (hB : Below w.heap.size w w') : SpotP w' No lo hi p ch :=
  h.but (But.of_below hB) hh (fun _ h => h.elim) (fun _ h => Or.inl h)
theorem two_alloc {w : World} {g : Nat} {u v : Value} (h : w.cell? ⟨g, 1, none⟩ = some u ∧ w.cell? ⟨g, 2, none⟩ = some v) (o : Obj) : (w.alloc o).cell? ⟨g, 1, none⟩ = some u ∧ (w.alloc o).cell? ⟨g, 2, none⟩ = some v :=
  ⟨(World.cell?_of_block (w := w) (a := ⟨g, 1, none⟩) (Below.heap_alloc w o g (World.block_lt_of_cell? w _ h.1))).trans h.1, (World.cell?_of_block (w := w) (a := ⟨g, 2, none⟩) (Below.heap_alloc w o g (World.block_lt_of_cell? w _ h.2))).trans h.2⟩
theorem IRow.step {w : World} {base : Nat} {v : Value} {l : List Int} (h : IRow w base v l) (o : Obj) : IRow (w.alloc o) base v l := World.ownsRow.alloc h o
theorem IRow.mono {w : World} {base base' : Nat} {v : Value} {l : List Int} (h : IRow w base v l) (hb : base' ≤ base) : IRow w base' v l := by
  obtain ⟨h1, h2⟩ := h
  refine ⟨h1, ?_⟩
  rcases h2 with h2 | ⟨g, cap, cur, hv, hg, r⟩
  · exact Or.inl h2
  · exact Or.inr ⟨g, cap, cur, hv, Nat.le_trans hb hg, r⟩
theorem run_append_int {w : World} {base : Nat} {v : Value} {l : List Int} (h : IRow w base v l) (hl : l.length ≤ 1048576) (hb : base ≤ w.heap.size) (ty : TypeId) (g : Nat) (x : Int) (c : Nat) (hx : w.cell? ⟨g, 0, none⟩ = some (.int .i64 x)) :
    ∃ v' w', (Builtin.append_ #[51, 51] ty #[v, .slice (some ⟨g, 0, none⟩) 1 c]).run Try.prog w = .ok v' w' ∧ IRow w' base v' (l ++ [x]) ∧ Below base w w' := by
  obtain ⟨i0, hi0, hz0, hz1, hz2⟩ := info_parts infoInt
  obtain ⟨v', w', hr, h2, h3, _, _⟩ := run_append_own_at (P := Try.prog) w base 51 ty 3 i0 (.int .i64 0) 1 8 Try.underlying51 hi0 hz0 hz1 hz2 rfl (by decide) v l.length (l.map (Value.int .i64)) h ⟨g, 0, none⟩ 1 c [.int .i64 x] rfl (by intro j u hu; cases j with | zero => simp at hu; subst hu; simpa [Addr.add] using hx | succ j => simp at hu) (by intro u hu; simp at hu; subst hu; rfl) (by unfold maxLen; omega) (by omega) hb
  exact ⟨v', w', hr, by simpa [IRow] using h2, (Below.refl base w).grown h3 hb (fun q hq => (World.ownsRow.lt h q hq).1)⟩
theorem step_append_int {ops : Array Oper} {o : Oper} {a : Act} {K : Act → World → Prop} {Q : Exit → Act → World → Prop} {E : Prop} {w : World} {base : Nat} {v : Value} {l : List Int} {g : Nat} {x : Int} {c : Nat} (hgd : o.guard = none) (s y : Operand)
    (ho : o.op = .call { callee := .builtin .append, args := #[s, y], argTypes := #[51, 51] }) (hs : a.eval s = v) (hy : a.eval y = .slice (some ⟨g, 0, none⟩) 1 c)
    (h0 : IRow w base v l) (hl : l.length ≤ 1048576) (hb : base ≤ w.heap.size) (hx : w.cell? ⟨g, 0, none⟩ = some (.int .i64 x))
    (h : ∀ v' w', IRow w' base v' (l ++ [x]) → Below base w w' → K (a.put o.dst v') w') :
    if Region.wanted o (yielded ops a.tmps) = true then Oper.wp Try.prog o a w K Q else E := by
  have hw : Region.wanted o (yielded ops a.tmps) = true := by simp [Region.wanted, hgd]
  rw [if_pos hw]
  obtain ⟨v', w', hr, h2, h3⟩ := run_append_int h0 hl hb o.type g x c hx
  unfold Oper.wp execOp
  simp only [ho, resolve, invoke, builtin, Sem.run_bind, Sem.run_pure, Result.andThen_ok, List.map_toArray, List.map_cons, List.map_nil, hs, hy, hr]
  exact h v' w' h2 h3

set_option maxHeartbeats 1000000 in
theorem path_any (lo hi : Nat) : ∀ (ch : List NP) (q : Option Addr) (w : World), hi ≤ w.heap.size → ch.length ≤ 1048576 → SpotP w No lo hi q ch →
    Calls Try.prog 89 #[.pointer q] w fun e w' => ∃ v, e = .returned v ∧ IRow w' w.heap.size v (placesOf ch) ∧ Below w.heap.size w w'
  | [], q, w, _, _, hS => by
    have hS : q = none := hS
    subst hS
    go_enter Try.func89, Try.ntmps89
    go_wp2
    go_ret
    exact ⟨_, rfl, IRow.nilRow _ _, by go_grown⟩
  | x :: r, q, w, hh, hl, hS => by
    have ih := path_any lo hi r
    obtain ⟨i0, hi0, hz0, hz1, hz2⟩ := info_parts infoInt
    obtain ⟨gb, b, o, q', rfl, _, hg, hg2, h5, h6, h7, h8, h9, _, h10⟩ := hS
    have HS := Lib.hid h10
    have HL := Lib.hid (show r.length ≤ 1048576 by simp at hl; omega)
    clear h5 h7 h8 h10
    go_enter Try.func89, Try.ntmps89
    go_wp2_with fail
    refine wp_region_held_drew (S := fun w' => w'.cell? ⟨gb, 1, none⟩ = some (.int .i64 (x.2.1 : Int)) ∧ w'.cell? ⟨gb, 2, none⟩ = some (.pointer q')) (by kernel_rfl) ⟨h9, h6⟩ (fun hHeld => ?_)
    refine wpAnyH_take (i := 0) (v := .pointer (some ⟨gb, 0, none⟩)) rfl (by kernel_rfl) (by kernel_rfl) (by kernel_rfl) (fun _ _ _ h => h) (Or.inl ⟨by rfl, fun w hSw => by (try dsimp only at hSw); go_simp⟩) (by assumption) ?_; (try simp only [Act.put, List.setIfInBounds_toArray, List.set_cons_zero, List.set_cons_succ, List.getElem_toArray, List.getElem_cons_zero])
    refine wpAnyH_take (i := 1) (v := .pointer (some ⟨gb, 0, none⟩)) rfl (by kernel_rfl) (by kernel_rfl) (by kernel_rfl) (fun _ _ _ h => h) (Or.inl ⟨by rfl, fun w hSw => by (try dsimp only at hSw); go_simp⟩) (by assumption) ?_; (try simp only [Act.put, List.setIfInBounds_toArray, List.set_cons_zero, List.set_cons_succ, List.getElem_toArray, List.getElem_cons_zero, List.getElem_cons_succ])
    refine wpAnyH_take (i := 2) (v := .pointer (some ⟨gb, 2, none⟩)) rfl (by kernel_rfl) (by kernel_rfl) (by kernel_rfl) (fun _ _ _ h => h) (Or.inl ⟨by rfl, fun w hSw => by (try dsimp only at hSw); go_simp⟩) (by assumption) ?_; (try simp only [Act.put, List.setIfInBounds_toArray, List.set_cons_zero, List.set_cons_succ, List.getElem_toArray, List.getElem_cons_zero, List.getElem_cons_succ])
    refine wpAnyH_take (i := 3) (v := .pointer q') rfl (by kernel_rfl) (by kernel_rfl) (by kernel_rfl) (fun _ _ _ h => h) (Or.inl ⟨by rfl, fun w hSw => by (try dsimp only at hSw); go_simp⟩) (by assumption) ?_; (try simp only [Act.put, List.setIfInBounds_toArray, List.set_cons_zero, List.set_cons_succ, List.getElem_toArray, List.getElem_cons_zero, List.getElem_cons_succ])
    refine wpAnyH_take (i := 5) (v := .pointer (some ⟨gb, 0, none⟩)) rfl (by kernel_rfl) (by kernel_rfl) (by kernel_rfl) (fun _ _ _ h => h) (Or.inl ⟨by rfl, fun w hSw => by (try dsimp only at hSw); go_simp⟩) (by assumption) ?_; (try simp only [Act.put, List.setIfInBounds_toArray, List.set_cons_zero, List.set_cons_succ, List.getElem_toArray, List.getElem_cons_zero, List.getElem_cons_succ])
    refine wpAnyH_take (i := 6) (v := .pointer (some ⟨gb, 0, none⟩)) rfl (by kernel_rfl) (by kernel_rfl) (by kernel_rfl) (fun _ _ _ h => h) (Or.inl ⟨by rfl, fun w hSw => by (try dsimp only at hSw); go_simp⟩) (by assumption) ?_; (try simp only [Act.put, List.setIfInBounds_toArray, List.set_cons_zero, List.set_cons_succ, List.getElem_toArray, List.getElem_cons_zero, List.getElem_cons_succ])
    refine wpAnyH_take (i := 7) (v := .pointer (some ⟨gb, 1, none⟩)) rfl (by kernel_rfl) (by kernel_rfl) (by kernel_rfl) (fun _ _ _ h => h) (Or.inl ⟨by rfl, fun w hSw => by (try dsimp only at hSw); go_simp⟩) (by assumption) ?_; (try simp only [Act.put, List.setIfInBounds_toArray, List.set_cons_zero, List.set_cons_succ, List.getElem_toArray, List.getElem_cons_zero, List.getElem_cons_succ])
    refine wpAnyH_take (i := 8) (v := .int .i64 (x.2.1 : Int)) rfl (by kernel_rfl) (by kernel_rfl) (by kernel_rfl) (fun _ _ _ h => h) (Or.inl ⟨by rfl, fun w hSw => by (try dsimp only at hSw); go_simp⟩) (by assumption) ?_; (try simp only [Act.put, List.setIfInBounds_toArray, List.set_cons_zero, List.set_cons_succ, List.getElem_toArray, List.getElem_cons_zero, List.getElem_cons_succ])
    refine wpAnyH_ready (rs := [4, 9]) (by kernel_rfl) (by simp) ?_; refine AllReadyH.cons rfl (fun K hK => ?_) (AllReadyH.cons rfl (fun K hK => ?_) AllReadyH.nil)
    · have L0 : (fun w' => w'.cell? ⟨gb, 1, none⟩ = some (.int .i64 (x.2.1 : Int)) ∧ w'.cell? ⟨gb, 2, none⟩ = some (.pointer q')) w.drew := ⟨h9, h6⟩
      go_simp; (go_at_call 89; refine (ih q' w.drew hh HL.out (HS.out.step hh (Below.refl _ _).drew)).mono ?_; rintro e w1 ⟨v, rfl, hN, hB⟩; have hS1 : (fun w' => w'.cell? ⟨gb, 1, none⟩ = some (.int .i64 (x.2.1 : Int)) ∧ w'.cell? ⟨gb, 2, none⟩ = some (.pointer q')) w1 := ⟨(hB.cell (p := ⟨gb, 1, none⟩) (World.block_lt_of_cell? _ _ L0.1)).trans L0.1, (hB.cell (p := ⟨gb, 2, none⟩) (World.block_lt_of_cell? _ _ L0.2)).trans L0.2⟩; have HN := Lib.hid hN; have HB := Lib.hid hB; clear hN hB); (try go_wp2_with fail); refine hK.out _ _ hS1 (fun hHeld => ?_); clear hK K; (try simp only [Act.put, List.setIfInBounds_toArray, List.set_cons_zero, List.set_cons_succ, List.getElem_toArray, List.getElem_cons_zero, List.getElem_cons_succ])
      refine wpAnyH_ready (rs := [9]) (by kernel_rfl) (by simp) ?_; refine AllReadyH.cons rfl (fun K hK => ?_) AllReadyH.nil
      go_simp; refine hK.out _ _ (two_alloc hS1 _) (fun hHeld => ?_); clear hK K; (try simp only [Act.put, List.setIfInBounds_toArray, List.set_cons_zero, List.set_cons_succ, List.getElem_toArray, List.getElem_cons_zero, List.getElem_cons_succ])
      refine wpAnyH_ready (rs := [10]) (by kernel_rfl) (by simp) ?_; refine AllReadyH.cons rfl (fun K hK => ?_) AllReadyH.nil
      refine step_append_int (by rfl) _ _ (by rfl) (by rfl) (by rfl) (IRow.step HN.out (.cells #[.int .i64 (x.2.1 : Int)] 3)) (by rw [placesOf_len]; exact HL.out) (by have := HB.out.size; simp at this ⊢; omega) (new_cell rfl) (fun v2 w2 hN2 hB2 => ?_)
      have HR2 := Lib.hid (And.intro hN2 ((((Below.refl w.heap.size w).drew.trans HB.out).alloc (by have := HB.out.size; simpa using this) (.cells #[.int .i64 (x.2.1 : Int)] 3)).trans hB2))
      have hS2 : (fun w' => w'.cell? ⟨gb, 1, none⟩ = some (.int .i64 (x.2.1 : Int)) ∧ w'.cell? ⟨gb, 2, none⟩ = some (.pointer q')) w2 := (show (fun w' => w'.cell? ⟨gb, 1, none⟩ = some (.int .i64 (x.2.1 : Int)) ∧ w'.cell? ⟨gb, 2, none⟩ = some (.pointer q')) w2 from ⟨(hB2.cell (p := ⟨gb, 1, none⟩) hg).trans (two_alloc hS1 _).1, (hB2.cell (p := ⟨gb, 2, none⟩) hg).trans (two_alloc hS1 _).2⟩)
      clear hN2 hB2
      refine hK.out _ _ hS2 (fun hHeld => ?_); clear hK K; (try simp only [Act.put, List.setIfInBounds_toArray, List.set_cons_zero, List.set_cons_succ, List.getElem_toArray, List.getElem_cons_zero, List.getElem_cons_succ])
      refine wpAnyH_take (i := 11) (v := v2) rfl (by kernel_rfl) (by kernel_rfl) (by kernel_rfl) (fun _ _ _ h => h) (Or.inl ⟨by rfl, fun w hSw => by (try dsimp only at hSw); go_simp⟩) (by assumption) ?_; (try simp only [Act.put, List.setIfInBounds_toArray, List.set_cons_zero, List.set_cons_succ, List.getElem_toArray, List.getElem_cons_zero, List.getElem_cons_succ])
      refine wpAnyH_done (by kernel_rfl) ?_ _
      go_wp2
      go_ret
      exact ⟨v2, rfl, HR2.out.1, HR2.out.2⟩
    · have L0 : (fun w' => w'.cell? ⟨gb, 1, none⟩ = some (.int .i64 (x.2.1 : Int)) ∧ w'.cell? ⟨gb, 2, none⟩ = some (.pointer q')) w.drew := ⟨h9, h6⟩
      go_simp; refine hK.out _ _ (two_alloc L0 _) (fun hHeld => ?_); clear hK K; (try simp only [Act.put, List.setIfInBounds_toArray, List.set_cons_zero, List.set_cons_succ, List.getElem_toArray, List.getElem_cons_zero, List.getElem_cons_succ])
      refine wpAnyH_ready (rs := [4]) (by kernel_rfl) (by simp) ?_; refine AllReadyH.cons rfl (fun K hK => ?_) AllReadyH.nil
      have L1 := two_alloc L0 (.cells #[.int .i64 (x.2.1 : Int)] 3)
      go_simp; (go_at_call 89; refine (ih q' (w.drew.alloc (.cells #[.int .i64 (x.2.1 : Int)] 3)) (by simp; omega) HL.out (HS.out.step hh ((Below.refl w.heap.size w).drew.alloc (Nat.le_refl _) _))).mono ?_; rintro e w1 ⟨v, rfl, hN, hB⟩; have hS1 : (fun w' => w'.cell? ⟨gb, 1, none⟩ = some (.int .i64 (x.2.1 : Int)) ∧ w'.cell? ⟨gb, 2, none⟩ = some (.pointer q')) w1 := ⟨(hB.cell (p := ⟨gb, 1, none⟩) (World.block_lt_of_cell? _ _ L1.1)).trans L1.1, (hB.cell (p := ⟨gb, 2, none⟩) (World.block_lt_of_cell? _ _ L1.2)).trans L1.2⟩; have HN := Lib.hid hN; have HB := Lib.hid hB; clear hN hB); (try go_wp2_with fail); refine hK.out _ _ hS1 (fun hHeld => ?_); clear hK K; (try simp only [Act.put, List.setIfInBounds_toArray, List.set_cons_zero, List.set_cons_succ, List.getElem_toArray, List.getElem_cons_zero, List.getElem_cons_succ])
      refine wpAnyH_ready (rs := [10]) (by kernel_rfl) (by simp) ?_; refine AllReadyH.cons rfl (fun K hK => ?_) AllReadyH.nil
      refine step_append_int (by rfl) _ _ (by rfl) (by rfl) (by rfl) HN.out (by rw [placesOf_len]; exact HL.out) HB.out.size ((HB.out.cell (p := ⟨w.heap.size, 0, none⟩) (by simp)).trans (new_cell (w := w.drew) rfl)) (fun v2 w2 hN2 hB2 => ?_)
      have hsz : w.heap.size ≤ (w.drew.alloc (.cells #[.int .i64 (x.2.1 : Int)] 3)).heap.size := by simp
      have HR2 := Lib.hid (And.intro (IRow.mono hN2 hsz) (((((Below.refl w.heap.size w).drew.alloc (Nat.le_refl _) (.cells #[.int .i64 (x.2.1 : Int)] 3)).trans (HB.out.mono hsz))).trans (hB2.mono hsz)))
      have hS2 : (fun w' => w'.cell? ⟨gb, 1, none⟩ = some (.int .i64 (x.2.1 : Int)) ∧ w'.cell? ⟨gb, 2, none⟩ = some (.pointer q')) w2 := (show (fun w' => w'.cell? ⟨gb, 1, none⟩ = some (.int .i64 (x.2.1 : Int)) ∧ w'.cell? ⟨gb, 2, none⟩ = some (.pointer q')) w2 from ⟨(hB2.cell (p := ⟨gb, 1, none⟩) (by simp; omega)).trans hS1.1, (hB2.cell (p := ⟨gb, 2, none⟩) (by simp; omega)).trans hS1.2⟩)
      clear hN2 hB2
      refine hK.out _ _ hS2 (fun hHeld => ?_); clear hK K; (try simp only [Act.put, List.setIfInBounds_toArray, List.set_cons_zero, List.set_cons_succ, List.getElem_toArray, List.getElem_cons_zero, List.getElem_cons_succ])
      refine wpAnyH_take (i := 11) (v := v2) rfl (by kernel_rfl) (by kernel_rfl) (by kernel_rfl) (fun _ _ _ h => h) (Or.inl ⟨by rfl, fun w hSw => by (try dsimp only at hSw); go_simp⟩) (by assumption) ?_; (try simp only [Act.put, List.setIfInBounds_toArray, List.set_cons_zero, List.set_cons_succ, List.getElem_toArray, List.getElem_cons_zero, List.getElem_cons_succ])
      refine wpAnyH_done (by kernel_rfl) ?_ _
      go_wp2
      go_ret
      exact ⟨v2, rfl, HR2.out.1, HR2.out.2⟩
end Go.Proofs.Ytbcbmgeoaejlmaa
