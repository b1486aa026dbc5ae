import Derived.Deep.AppendLies
import Derived.Deep.RegionWith
import Derived.Test.YthdkkpbhijlpaaaGreatS08
set_option linter.unusedVariables false
namespace Go.Proofs.YthdkkpbhijlpaaaGreat
open Go.ChangeShapes Go.WideShapes Go.ChangeAt Go.RowKit Go.Deep Go.Maps

/-- all are right, but for their attributes -/
def ruSafe (l : List Ru) : Prop := ∀ x ∈ l, 0 ≤ x.1 ∧ x.1 ≤ 2
theorem wf_space {sp : Int} (h0 : 0 ≤ sp) (h2 : sp ≤ 2) : (Lit.int .i64 sp).wf = true := by
  have : sp = 0 ∨ sp = 1 ∨ sp = 2 := by omega
  rcases this with rfl | rfl | rfl <;> rfl
set_option maxRecDepth 100000 in
set_option maxHeartbeats 1000000 in
theorem rulesByElement_any (l : List Ru) (w : World) (A : Option Addr) (c : Nat) (hs : ruSafe l) (hl : l.length ≤ 10) (hr : RuIn w A l) :
    Calls Tryz.prog 127 #[.slice A l.length c] w fun e w' => ∃ b, e = .returned (.map (some b)) ∧ RuMap w w' b l.length l (cntR l l.length) := by
  have hmm := @run_makeMap Tryz.prog
  have HC := Lib.hid hr
  have HM := Lib.hid (RuMap.made w)
  have HS := Lib.hid hs
  clear hr hs
  go_enter Tryz.func127, Tryz.ntmps127
  go_wp2
  go_loopw [9] (fun i wr => ∃ k : Nat, k ≤ l.length ∧ i = .int .i64 k ∧ Hid (RuMap w wr w.heap.size k (l.take k) (cntR l k))) (fun i wr => l.length - (intOf i).toNat)
  case atStart => exact ⟨0, by omega, rfl, Lib.hid HM.out⟩
  case round =>
    clear HM
    obtain ⟨k, hk, rfl, HA⟩ := hrel
    by_cases hlt : k < l.length
    · have hB0 := HA.out.2.1
      obtain ⟨g, o, rfl, hg, d0, d1, hz, B, cc, d2, hbc, hb⟩ := HC.out.get hlt
      have c0 := (hB0.cell (p := ⟨g, o + k * 3, none⟩) hg).trans d0
      have c1 := (hB0.cell (p := ⟨g, o + k * 3 + 1, none⟩) hg).trans d1
      have c2 := (hB0.cell (p := ⟨g, o + k * 3 + 2, none⟩) hg).trans d2
      have HV : Hid (RuVal w l[k] (.agg #[.int .i64 l[k].1, .string l[k].2.1, .slice B l[k].2.2.length cc])) := Lib.hid ⟨B, cc, rfl, hbc, hb⟩
      have HB0 := Lib.hid (hB0.alloc hB0.size (.cells #[.int .i64 l[k].1, .string l[k].2.1, .slice B l[k].2.2.length cc] 106)).drew
      have HM1 := Lib.hid (HA.out.next ((Below.refl wr.heap.size wr).alloc (Nat.le_refl _) (.cells #[.int .i64 l[k].1, .string l[k].2.1, .slice B l[k].2.2.length cc] 106)).drew)
      have HL := Lib.hid (Lay.new wr #[.int .i64 l[k].1, .string l[k].2.1, .slice B l[k].2.2.length cc] 106)
      clear d0 d1 d2 hb hB0
      go_wp2
      refine wp_region_held_drew (S := fun w' => w'.cell? ⟨wr.heap.size, 0, none⟩ = some (.int .i64 l[k].1) ∧ w'.cell? ⟨wr.heap.size, 1, none⟩ = some (.string l[k].2.1) ∧ w'.cell? ⟨wr.heap.size, 2, none⟩ = some (.slice B l[k].2.2.length cc)) (by kernel_rfl) (lay3 HL.out) (fun hHeld => ?_)
      refine wpAnyH_take (i := 0) (v := .map (some w.heap.size)) rfl (by kernel_rfl) (by kernel_rfl) (by kernel_rfl) (fun _ _ _ h => h) (Or.inl ⟨by rfl, fun w hSw => by (try dsimp only at hSw); go_simp⟩) (by assumption) ?_; (try simp only [Act.put, List.setIfInBounds_toArray, List.set_cons_zero, List.set_cons_succ, List.getElem_toArray, List.getElem_cons_zero])
      refine wpAnyH_take (i := 1) (v := .agg #[.int .i64 l[k].1, .string l[k].2.1, .slice B l[k].2.2.length cc]) rfl (by kernel_rfl) (by kernel_rfl) (by kernel_rfl) (fun _ _ _ h => h) (Or.inl ⟨by rfl, fun w hSw => by (try dsimp only at hSw); go_simp⟩) (by assumption) ?_; (try simp only [Act.put, List.setIfInBounds_toArray, List.set_cons_zero, List.set_cons_succ, List.getElem_toArray, List.getElem_cons_zero, List.getElem_cons_succ])
      refine wpAnyH_take (i := 3) (v := .agg #[.int .i64 l[k].1, .string l[k].2.1, .slice B l[k].2.2.length cc]) rfl (by kernel_rfl) (by kernel_rfl) (by kernel_rfl) (fun _ _ _ h => h) (Or.inl ⟨by rfl, fun w hSw => by (try dsimp only at hSw); go_simp⟩) (by assumption) ?_; (try simp only [Act.put, List.setIfInBounds_toArray, List.set_cons_zero, List.set_cons_succ, List.getElem_toArray, List.getElem_cons_zero, List.getElem_cons_succ])
      refine wpAnyH_ready (rs := [2]) (by kernel_rfl) (by simp) ?_; refine AllReadyH.cons rfl (fun K hK => ?_) AllReadyH.nil; go_simp; (go_at_call 132; refine (ruledBy_any _ _ _ _ B cc).mono ?_; rintro e w1 ⟨rfl, hB⟩; have hL1 := (HL.out.drew3).below hB (by simp); have hS1 : (fun w' => w'.cell? ⟨wr.heap.size, 0, none⟩ = some (.int .i64 l[k].1) ∧ w'.cell? ⟨wr.heap.size, 1, none⟩ = some (.string l[k].2.1) ∧ w'.cell? ⟨wr.heap.size, 2, none⟩ = some (.slice B l[k].2.2.length cc)) w1 := lay3 hL1; have HM2 := Lib.hid (HM1.out.next hB); have HB1 := Lib.hid (HB0.out.trans (hB.mono (by have := HB0.out.size; simp at this ⊢; omega))); clear hB hL1); (try go_wp2_with fail); refine hK.out _ _ hS1 (fun hHeld => ?_); clear hK K; (try simp only [Act.put, List.setIfInBounds_toArray, List.set_cons_zero, List.set_cons_succ, List.getElem_toArray, List.getElem_cons_zero, List.getElem_cons_succ])
      obtain ⟨w2, hrun, hM3, hgr⟩ := HM2.out.put (by unfold maxLen; omega) l[k] (wf_space (HS.out _ (List.getElem_mem hlt)).1 (HS.out _ (List.getElem_mem hlt)).2) hz HV.out
      have HM3 := Lib.hid hM3
      have hne : some wr.heap.size ≠ some w.heap.size := by
        obtain ⟨⟨D, hD, _⟩, _⟩ := HA.out
        have := hD.lt
        intro e
        injection e with e
        omega
      have hlt1 : wr.heap.size < w1.heap.size := World.block_lt_of_cell? w1 _ hS1.1
      have hS2 : (fun w' => w'.cell? ⟨wr.heap.size, 0, none⟩ = some (.int .i64 l[k].1) ∧ w'.cell? ⟨wr.heap.size, 1, none⟩ = some (.string l[k].2.1) ∧ w'.cell? ⟨wr.heap.size, 2, none⟩ = some (.slice B l[k].2.2.length cc)) w2 := ⟨(hgr.cell_far ⟨wr.heap.size, 0, none⟩ hlt1 hne).trans hS1.1, (hgr.cell_far ⟨wr.heap.size, 1, none⟩ hlt1 hne).trans hS1.2.1, (hgr.cell_far ⟨wr.heap.size, 2, none⟩ hlt1 hne).trans hS1.2.2⟩
      clear hM3 hgr hne hlt1
      refine wpAnyH_ready (rs := [4]) (by kernel_rfl) (by simp) ?_; refine AllReadyH.cons rfl (fun K hK => ?_) AllReadyH.nil; go_simp
      refine hK.out _ _ hS2 (fun hHeld => ?_); clear hK K
      refine wpAnyH_done (by kernel_rfl) ?_ _
      go_wp2
      go_roundw
      case rel => exact ⟨k + 1, by omega, by go_num, Lib.hid (by rw [List.take_succ_eq_append_getElem hlt, cntR_succ hlt]; exact HM3.out)⟩
      case measure => simp [intOf]; omega
    · obtain rfl : k = l.length := by omega
      go_wp2
      go_ret
      have := HA.out
      rw [List.take_length] at this
      exact ⟨_, rfl, this⟩
theorem box2 {w : World} {g : Nat} {u v : Value} (h : w.cell? ⟨g, 0, none⟩ = some u ∧ w.cell? ⟨g, 1, none⟩ = some v) (o : Obj) : (w.alloc o).cell? ⟨g, 0, none⟩ = some u ∧ (w.alloc o).cell? ⟨g, 1, none⟩ = some v :=
  ⟨(World.cell?_of_block (w := w) (a := ⟨g, 0, none⟩) (Below.heap_alloc w o g (World.block_lt_of_cell? w _ h.1))).trans h.1, (World.cell?_of_block (w := w) (a := ⟨g, 1, none⟩) (Below.heap_alloc w o g (World.block_lt_of_cell? w _ h.1))).trans h.2⟩
theorem zero_rule (w : World) : (zeroValue 106).run Tryz.prog w = .ok (.agg #[.int .i64 0, .string ⟨#[]⟩, .slice none 0 0]) w := by kernel_rfl
/-- a look-up -/
theorem RuMap.look {w0 w : World} {b n c : Nat} {l : List Ru} (h : RuMap w0 w b n l c) {sp : Int} {nm : ByteArray} (h0 : 0 ≤ sp) (h2 : sp ≤ 2) (hn : nm.size ≤ maxLen) :
    ∃ (i : Int) (t : ByteArray) (B : Option Addr) (m k : Nat), (Instr.lookup 158 (.map (some b)) (.agg #[.int .i64 sp, .string nm]) true).run Tryz.prog w = .ok (.tuple #[.agg #[.int .i64 i, .string t, .slice B m k], .bool (hasRu l sp nm)]) w ∧
      (hasRu l sp nm = true → ∃ x ∈ l, ruIs sp nm x = true ∧ RuVal w0 x (.agg #[.int .i64 i, .string t, .slice B m k])) ∧ (hasRu l sp nm = false → m = 0) := by
  obtain ⟨⟨D, hown, hsz, hat⟩, hb, hle⟩ := h
  obtain ⟨kl, hkl⟩ := ruled_key sp nm (wf_space h0 h2) hn
  obtain ⟨v, ps, hrun, hv⟩ := hown.look_ok ruKeyed Tryz.underlying158 (zero_rule w) (show rdV _ = some (.held _, []) from rfl) hkl
  obtain ⟨a1, a2⟩ := hat sp nm kl hkl
  rw [a1] at hrun
  have hv' : DataW.held v = D.atKey kl (.held (.agg #[.int .i64 0, .string ⟨#[]⟩, .slice none 0 0])) := by
    have := Option.some.inj hv
    exact congrArg Prod.fst this
  cases hh : hasRu l sp nm with
  | false =>
    rw [Maps.atKey_of_not_has (by rw [a1]; exact hh)] at hv'
    injection hv' with hv'
    subst hv'
    rw [hh] at hrun
    exact ⟨0, ⟨#[]⟩, none, 0, 0, hrun, (fun h => by cases h), fun _ => rfl⟩
  | true =>
    obtain ⟨x, hx, hi, u, hu, hz⟩ := a2 hh
    rw [hz] at hv'
    injection hv' with hv'
    subst hv'
    obtain ⟨B, cc, e, h3⟩ := id hu
    subst e
    rw [hh] at hrun
    exact ⟨_, _, B, _, cc, hrun, fun _ => ⟨x, hx, hi, hu⟩, fun h => by cases h⟩
set_option maxRecDepth 100000 in
/-- is there a rule for that space and name -/
theorem hasRule_any (l : List Ru) (sp : Int) (n : ByteArray) (w : World) (A : Option Addr) (c : Nat) (hs : ruSafe l) (hl : l.length ≤ 10) (h0 : 0 ≤ sp) (h2 : sp ≤ 2) (hn : n.size ≤ maxLen) (hr : RuIn w A l) :
    Calls Tryz.prog 131 #[.slice A l.length c, .agg #[.int .i64 sp, .string n]] w fun e w' => e = .returned (.bool (hasRu l sp n)) ∧ Below w.heap.size w w' := by
  have HR := Lib.hid (And.intro hs (And.intro hl hr))
  clear hs hl hr
  go_enter Tryz.func131, Tryz.ntmps131
  go_wp2_with fail
  have L0 : (fun w' => w'.cell? ⟨w.heap.size, 0, none⟩ = some (.int .i64 sp) ∧ w'.cell? ⟨w.heap.size, 1, none⟩ = some (.string n)) (w.alloc (.cells #[.int .i64 sp, .string n] 114)).drew := ⟨(Lay.new w _ _).1 0, (Lay.new w _ _).1 1⟩
  refine wp_region_held_drew (S := fun w' => w'.cell? ⟨w.heap.size, 0, none⟩ = some (.int .i64 sp) ∧ w'.cell? ⟨w.heap.size, 1, none⟩ = some (.string n)) (by kernel_rfl) ⟨L0.1, L0.2⟩ (fun hHeld => ?_)
  refine wpAnyH_take (i := 0) (v := .slice A l.length c) rfl (by kernel_rfl) (by kernel_rfl) (by kernel_rfl) (fun _ _ _ h => h) (Or.inl ⟨by rfl, fun w hSw => by (try dsimp only at hSw); go_simp⟩) (by assumption) ?_; (try simp only [Act.put, List.setIfInBounds_toArray, List.set_cons_zero, List.set_cons_succ, List.getElem_toArray, List.getElem_cons_zero])
  refine wpAnyH_take (i := 2) (v := .agg #[.int .i64 sp, .string n]) rfl (by kernel_rfl) (by kernel_rfl) (by kernel_rfl) (fun _ _ _ h => h) (Or.inl ⟨by rfl, fun w hSw => by (try dsimp only at hSw); go_simp⟩) (by assumption) ?_; (try simp only [Act.put, List.setIfInBounds_toArray, List.set_cons_zero, List.set_cons_succ, List.getElem_toArray, List.getElem_cons_zero, List.getElem_cons_succ])
  refine wpAnyH_ready (rs := [1, 7]) (by kernel_rfl) (by simp) ?_; refine AllReadyH.cons rfl (fun K hK => ?_) (AllReadyH.cons rfl (fun K hK => ?_) AllReadyH.nil)
  · go_simp; (go_at_call 127; refine (rulesByElement_any l _ A c HR.out.1 HR.out.2.1 (HR.out.2.2.next (((Below.refl _ _).alloc (Nat.le_refl _) _).drew))).mono ?_; rintro e w1 ⟨b, rfl, hM⟩; have HM := Lib.hid hM; have HB := Lib.hid (Below.trans (((Below.refl _ _).alloc (Nat.le_refl _) _).drew) (hM.2.1.mono (by simp; first | done | omega))); have hS1 : (fun w' => w'.cell? ⟨w.heap.size, 0, none⟩ = some (.int .i64 sp) ∧ w'.cell? ⟨w.heap.size, 1, none⟩ = some (.string n)) w1 := ⟨(hM.2.1.cell (p := ⟨w.heap.size, 0, none⟩) (by simp; first | done | omega)).trans (L0).1, (hM.2.1.cell (p := ⟨w.heap.size, 1, none⟩) (by simp; first | done | omega)).trans (L0).2⟩; clear hM); (try go_wp2_with fail); refine hK.out _ _ hS1 (fun hHeld => ?_); clear hK K; (try simp only [Act.put, List.setIfInBounds_toArray, List.set_cons_zero, List.set_cons_succ, List.getElem_toArray, List.getElem_cons_zero, List.getElem_cons_succ])
    refine wpAnyH_ready (rs := [3, 7]) (by kernel_rfl) (by simp) ?_; refine AllReadyH.cons rfl (fun K hK => ?_) (AllReadyH.cons rfl (fun K hK => ?_) AllReadyH.nil)
    · obtain ⟨i1, t1, B1, m1, k1, hrun1, _, _⟩ := (HM.out).look h0 h2 hn
      go_simp; refine hK.out _ _ hS1 (fun hHeld => ?_); clear hK K; (try simp only [Act.put, List.setIfInBounds_toArray, List.set_cons_zero, List.set_cons_succ, List.getElem_toArray, List.getElem_cons_zero, List.getElem_cons_succ])
      refine wpAnyH_take (i := 4) (v := .tuple #[.agg #[.int .i64 i1, .string t1, .slice B1 m1 k1], .bool (hasRu l sp n)]) rfl (by kernel_rfl) (by kernel_rfl) (by kernel_rfl) (fun _ _ _ h => h) (Or.inl ⟨by rfl, fun w hSw => by (try dsimp only at hSw); go_simp⟩) (by assumption) ?_; (try simp only [Act.put, List.setIfInBounds_toArray, List.set_cons_zero, List.set_cons_succ, List.getElem_toArray, List.getElem_cons_zero, List.getElem_cons_succ])
      refine wpAnyH_take (i := 5) (v := .agg #[.int .i64 i1, .string t1, .slice B1 m1 k1]) rfl (by kernel_rfl) (by kernel_rfl) (by kernel_rfl) (fun _ _ _ h => h) (Or.inl ⟨by rfl, fun w hSw => by (try dsimp only at hSw); go_simp⟩) (by assumption) ?_; (try simp only [Act.put, List.setIfInBounds_toArray, List.set_cons_zero, List.set_cons_succ, List.getElem_toArray, List.getElem_cons_zero, List.getElem_cons_succ])
      refine wpAnyH_take (i := 6) (v := .bool (hasRu l sp n)) rfl (by kernel_rfl) (by kernel_rfl) (by kernel_rfl) (fun _ _ _ h => h) (Or.inl ⟨by rfl, fun w hSw => by (try dsimp only at hSw); go_simp⟩) (by assumption) ?_; (try simp only [Act.put, List.setIfInBounds_toArray, List.set_cons_zero, List.set_cons_succ, List.getElem_toArray, List.getElem_cons_zero, List.getElem_cons_succ])
      refine wpAnyH_ready (rs := [7]) (by kernel_rfl) (by simp) ?_; refine AllReadyH.cons rfl (fun K hK => ?_) AllReadyH.nil
      go_simp; refine hK.out _ _ (box2 hS1 _) (fun hHeld => ?_); clear hK K; (try simp only [Act.put, List.setIfInBounds_toArray, List.set_cons_zero, List.set_cons_succ, List.getElem_toArray, List.getElem_cons_zero, List.getElem_cons_succ])
      refine wpAnyH_ready (rs := [8]) (by kernel_rfl) (by simp) ?_; refine AllReadyH.cons rfl (fun K hK => ?_) AllReadyH.nil
      go_simp; refine hK.out _ _ (box2 hS1 _) (fun hHeld => ?_); clear hK K; (try simp only [Act.put, List.setIfInBounds_toArray, List.set_cons_zero, List.set_cons_succ, List.getElem_toArray, List.getElem_cons_zero, List.getElem_cons_succ])
      refine wpAnyH_take (i := 9) (v := .bool (hasRu l sp n)) rfl (by kernel_rfl) (by kernel_rfl) (by kernel_rfl) (fun _ _ _ h => h) (Or.inl ⟨by rfl, fun w hSw => by (try dsimp only at hSw); go_simp⟩) (by assumption) ?_; (try simp only [Act.put, List.setIfInBounds_toArray, List.set_cons_zero, List.set_cons_succ, List.getElem_toArray, List.getElem_cons_zero, List.getElem_cons_succ])
      refine wpAnyH_done (by kernel_rfl) ?_ _
      go_wp2
      go_ret
      exact ⟨rfl, HB.out.trans ((Below.refl _ _).alloc HB.out.size _)⟩
    · go_simp; refine hK.out _ _ (box2 hS1 _) (fun hHeld => ?_); clear hK K; (try simp only [Act.put, List.setIfInBounds_toArray, List.set_cons_zero, List.set_cons_succ, List.getElem_toArray, List.getElem_cons_zero, List.getElem_cons_succ])
      refine wpAnyH_ready (rs := [3]) (by kernel_rfl) (by simp) ?_; refine AllReadyH.cons rfl (fun K hK => ?_) AllReadyH.nil
      obtain ⟨i1, t1, B1, m1, k1, hrun1, _, _⟩ := ((HM.out.next ((Below.refl w1.heap.size w1).alloc (Nat.le_refl _) (.cells #[.int .i64 0, .string ⟨#[]⟩, .slice none 0 0] 106)))).look h0 h2 hn
      go_simp; refine hK.out _ _ (box2 hS1 _) (fun hHeld => ?_); clear hK K; (try simp only [Act.put, List.setIfInBounds_toArray, List.set_cons_zero, List.set_cons_succ, List.getElem_toArray, List.getElem_cons_zero, List.getElem_cons_succ])
      refine wpAnyH_take (i := 4) (v := .tuple #[.agg #[.int .i64 i1, .string t1, .slice B1 m1 k1], .bool (hasRu l sp n)]) rfl (by kernel_rfl) (by kernel_rfl) (by kernel_rfl) (fun _ _ _ h => h) (Or.inl ⟨by rfl, fun w hSw => by (try dsimp only at hSw); go_simp⟩) (by assumption) ?_; (try simp only [Act.put, List.setIfInBounds_toArray, List.set_cons_zero, List.set_cons_succ, List.getElem_toArray, List.getElem_cons_zero, List.getElem_cons_succ])
      refine wpAnyH_take (i := 5) (v := .agg #[.int .i64 i1, .string t1, .slice B1 m1 k1]) rfl (by kernel_rfl) (by kernel_rfl) (by kernel_rfl) (fun _ _ _ h => h) (Or.inl ⟨by rfl, fun w hSw => by (try dsimp only at hSw); go_simp⟩) (by assumption) ?_; (try simp only [Act.put, List.setIfInBounds_toArray, List.set_cons_zero, List.set_cons_succ, List.getElem_toArray, List.getElem_cons_zero, List.getElem_cons_succ])
      refine wpAnyH_take (i := 6) (v := .bool (hasRu l sp n)) rfl (by kernel_rfl) (by kernel_rfl) (by kernel_rfl) (fun _ _ _ h => h) (Or.inl ⟨by rfl, fun w hSw => by (try dsimp only at hSw); go_simp⟩) (by assumption) ?_; (try simp only [Act.put, List.setIfInBounds_toArray, List.set_cons_zero, List.set_cons_succ, List.getElem_toArray, List.getElem_cons_zero, List.getElem_cons_succ])
      refine wpAnyH_ready (rs := [8]) (by kernel_rfl) (by simp) ?_; refine AllReadyH.cons rfl (fun K hK => ?_) AllReadyH.nil
      go_simp; refine hK.out _ _ (box2 hS1 _) (fun hHeld => ?_); clear hK K; (try simp only [Act.put, List.setIfInBounds_toArray, List.set_cons_zero, List.set_cons_succ, List.getElem_toArray, List.getElem_cons_zero, List.getElem_cons_succ])
      refine wpAnyH_take (i := 9) (v := .bool (hasRu l sp n)) rfl (by kernel_rfl) (by kernel_rfl) (by kernel_rfl) (fun _ _ _ h => h) (Or.inl ⟨by rfl, fun w hSw => by (try dsimp only at hSw); go_simp⟩) (by assumption) ?_; (try simp only [Act.put, List.setIfInBounds_toArray, List.set_cons_zero, List.set_cons_succ, List.getElem_toArray, List.getElem_cons_zero, List.getElem_cons_succ])
      refine wpAnyH_done (by kernel_rfl) ?_ _
      go_wp2
      go_ret
      exact ⟨rfl, HB.out.trans ((Below.refl _ _).alloc HB.out.size _)⟩
  · go_simp; refine hK.out _ _ (box2 L0 _) (fun hHeld => ?_); clear hK K; (try simp only [Act.put, List.setIfInBounds_toArray, List.set_cons_zero, List.set_cons_succ, List.getElem_toArray, List.getElem_cons_zero, List.getElem_cons_succ])
    refine wpAnyH_ready (rs := [1]) (by kernel_rfl) (by simp) ?_; refine AllReadyH.cons rfl (fun K hK => ?_) AllReadyH.nil
    go_simp; (go_at_call 127; refine (rulesByElement_any l _ A c HR.out.1 HR.out.2.1 (HR.out.2.2.next ((((Below.refl _ _).alloc (Nat.le_refl _) _).drew).alloc (by simp) _))).mono ?_; rintro e w1 ⟨b, rfl, hM⟩; have HM := Lib.hid hM; have HB := Lib.hid (Below.trans ((((Below.refl _ _).alloc (Nat.le_refl _) _).drew).alloc (by simp) _) (hM.2.1.mono (by simp; first | done | omega))); have hS1 : (fun w' => w'.cell? ⟨w.heap.size, 0, none⟩ = some (.int .i64 sp) ∧ w'.cell? ⟨w.heap.size, 1, none⟩ = some (.string n)) w1 := ⟨(hM.2.1.cell (p := ⟨w.heap.size, 0, none⟩) (by simp; first | done | omega)).trans ((box2 L0 _)).1, (hM.2.1.cell (p := ⟨w.heap.size, 1, none⟩) (by simp; first | done | omega)).trans ((box2 L0 _)).2⟩; have hL := (Lay.new (w.alloc (.cells #[.int .i64 sp, .string n] 114)).drew #[.int .i64 0, .string ⟨#[]⟩, .slice none 0 0] 106).below hM.2.1 (by simp); have g0 := hL.1 0; have g1 := hL.1 1; have g2 := hL.1 2; have f0 := hL.2 0; have f1 := hL.2 1; have f2 := hL.2 2; simp at g0 g1 g2 f0 f1 f2; clear hL; clear hM); (try go_wp2_with fail); refine hK.out _ _ hS1 (fun hHeld => ?_); clear hK K; (try simp only [Act.put, List.setIfInBounds_toArray, List.set_cons_zero, List.set_cons_succ, List.getElem_toArray, List.getElem_cons_zero, List.getElem_cons_succ])
    refine wpAnyH_ready (rs := [3]) (by kernel_rfl) (by simp) ?_; refine AllReadyH.cons rfl (fun K hK => ?_) AllReadyH.nil
    obtain ⟨i1, t1, B1, m1, k1, hrun1, _, _⟩ := (HM.out).look h0 h2 hn
    go_simp; refine hK.out _ _ hS1 (fun hHeld => ?_); clear hK K; (try simp only [Act.put, List.setIfInBounds_toArray, List.set_cons_zero, List.set_cons_succ, List.getElem_toArray, List.getElem_cons_zero, List.getElem_cons_succ])
    refine wpAnyH_take (i := 4) (v := .tuple #[.agg #[.int .i64 i1, .string t1, .slice B1 m1 k1], .bool (hasRu l sp n)]) rfl (by kernel_rfl) (by kernel_rfl) (by kernel_rfl) (fun _ _ _ h => h) (Or.inl ⟨by rfl, fun w hSw => by (try dsimp only at hSw); go_simp⟩) (by assumption) ?_; (try simp only [Act.put, List.setIfInBounds_toArray, List.set_cons_zero, List.set_cons_succ, List.getElem_toArray, List.getElem_cons_zero, List.getElem_cons_succ])
    refine wpAnyH_take (i := 5) (v := .agg #[.int .i64 i1, .string t1, .slice B1 m1 k1]) rfl (by kernel_rfl) (by kernel_rfl) (by kernel_rfl) (fun _ _ _ h => h) (Or.inl ⟨by rfl, fun w hSw => by (try dsimp only at hSw); go_simp⟩) (by assumption) ?_; (try simp only [Act.put, List.setIfInBounds_toArray, List.set_cons_zero, List.set_cons_succ, List.getElem_toArray, List.getElem_cons_zero, List.getElem_cons_succ])
    refine wpAnyH_take (i := 6) (v := .bool (hasRu l sp n)) rfl (by kernel_rfl) (by kernel_rfl) (by kernel_rfl) (fun _ _ _ h => h) (Or.inl ⟨by rfl, fun w hSw => by (try dsimp only at hSw); go_simp⟩) (by assumption) ?_; (try simp only [Act.put, List.setIfInBounds_toArray, List.set_cons_zero, List.set_cons_succ, List.getElem_toArray, List.getElem_cons_zero, List.getElem_cons_succ])
    refine wpAnyH_ready (rs := [8]) (by kernel_rfl) (by simp) ?_; refine AllReadyH.cons rfl (fun K hK => ?_) AllReadyH.nil
    have ne1 : w.heap.size + 1 ≠ w.heap.size := by omega
    go_simp; refine hK.out _ _ ⟨by rw [oth0 ne1, oth0 ne1, oth0 ne1]; exact hS1.1, by rw [oth0 ne1, oth0 ne1, oth0 ne1]; exact hS1.2⟩ (fun hHeld => ?_); clear hK K; (try simp only [Act.put, List.setIfInBounds_toArray, List.set_cons_zero, List.set_cons_succ, List.getElem_toArray, List.getElem_cons_zero, List.getElem_cons_succ])
    refine wpAnyH_take (i := 9) (v := .bool (hasRu l sp n)) rfl (by kernel_rfl) (by kernel_rfl) (by kernel_rfl) (fun _ _ _ h => h) (Or.inl ⟨by rfl, fun w hSw => by (try dsimp only at hSw); go_simp⟩) (by assumption) ?_; (try simp only [Act.put, List.setIfInBounds_toArray, List.set_cons_zero, List.set_cons_succ, List.getElem_toArray, List.getElem_cons_zero, List.getElem_cons_succ])
    refine wpAnyH_done (by kernel_rfl) ?_ _
    go_wp2
    go_ret
    exact ⟨rfl, HB.out.trans ((((Below.refl _ _).setCell (p := ⟨_, _, none⟩) (Nat.le_succ _) _).setCell (p := ⟨_, _, none⟩) (Nat.le_succ _) _).setCell (p := ⟨_, _, none⟩) (Nat.le_succ _) _)⟩
end Go.Proofs.YthdkkpbhijlpaaaGreat
