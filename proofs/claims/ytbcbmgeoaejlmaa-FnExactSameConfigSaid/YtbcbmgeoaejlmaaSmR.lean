
import Derived.Test.YtbcbmgeoaejlmaaEqF
import Derived.Test.YtbcbmgeoaejlmaaRuO
import Derived.Deep.RegionWith
import Derived.Laws.StructEq
namespace Go.Proofs.Ytbcbmgeoaejlmaa
open Go.ChangeShapes Go.WideShapes Go.ChangeAt Go.RowKit Go.Deep Go.Maps

theorem fieldsRuled : Try.prog.underlying 84 = some (.struct (Try.prog.fieldsOf 84)) := by kernel_rfl
theorem heldRuled : Try.prog.stoodInHeld 84 = false := by kernel_rfl
theorem guardRuled : Try.prog.eqGuardType Try.prog.depth 84 = false := by kernel_rfl
theorem run_guardRuled (xs ys : Array Value) (x y : Operand) (w : World) : (eqGuard .eql 84 x y (.agg xs) (.agg ys)).run Try.prog w = .ok () w := run_eqGuard_agg w _ _ _ _ _ _ guardRuled
theorem fieldsRu2 : ∃ f0 f1 : Field, (Try.prog.fieldsOf 84).toList = [f0, f1] ∧ (f0.name ≠ "_" ∧ f1.name ≠ "_") ∧ (f0.offset = 0 ∧ f1.offset = 1) ∧ f0.type = 3 ∧ f1.type = 9 := by
  refine ⟨(Try.prog.fieldsOf 84)[0]!, (Try.prog.fieldsOf 84)[1]!, by kernel_rfl, ⟨?_, ?_⟩, ⟨by kernel_rfl, by kernel_rfl⟩, by kernel_rfl, by kernel_rfl⟩
  all_goals (refine of_decide_eq_true ?_; kernel_rfl)
theorem run_eqlRuled (z z' : Int) (s s' : ByteArray) (w : World) : (binOp .eql 84 (.agg #[.int .i64 z, .string s]) (.agg #[.int .i64 z', .string s'])).run Try.prog w = .ok (.bool ((z == z') && (s.toList == s'.toList))) w := by
  obtain ⟨f0, f1, hf, ⟨n0, n1⟩, ⟨o0, o1⟩, t0, t1⟩ := fieldsRu2
  rw [run_eql_struct, run_equalIn_agg w 9999 _ _ _ fieldsRuled heldRuled, hf]
  simp only [Op.eqFields, n0, n1, o0, o1, t0, t1, ne_eq, not_false_eq_true, if_true]
  have p0 : ∀ (a b : Value) (w : World), (part 3 #[a, b] 0).run Try.prog w = .ok a w := fun a b w => by kernel_rfl
  have p1 : ∀ (a b : Value) (w : World), (part 9 #[a, b] 1).run Try.prog w = .ok b w := fun a b w => by kernel_rfl
  simp only [Sem.run_bind, p0, Result.andThen_ok, run_equalIn_string w _ _ _ _ Try.underlying9, run_equalIn_int w _ _ _ _ _ _ Try.underlying3]
  cases h1 : (z == z') <;> cases h2 : (s.toList == s'.toList) <;> simp [Result.andThen_ok, p0, p1, run_equalIn_string w _ _ _ _ Try.underlying9, run_equalIn_int w _ _ _ _ _ _ Try.underlying3, *]
  all_goals first | simpa using h2 | simpa using h1
theorem ru_rest {x y : Ru} (h : ((x.1 == y.1) && (x.2.1.toList == y.2.1.toList)) = true) : eqB x.2.2 y.2.2 = eqB x y := by
  obtain ⟨a, b, c⟩ := x
  obtain ⟨a', b', c'⟩ := y
  simp only [Bool.and_eq_true, beq_iff_eq] at h
  obtain ⟨rfl, h2⟩ := h
  obtain rfl : b = b' := ba_same h2
  by_cases h3 : c = c'
  · subst h3; rw [← eqB_yes rfl, ← eqB_yes rfl]
  · rw [← eqB_no h3, ← eqB_no (by intro e; injection e with e1 e2; injection e2 with e3 e4; exact h3 e4)]
theorem ru_no {x y : Ru} (h : ((x.1 == y.1) && (x.2.1.toList == y.2.1.toList)) = false) : eqB x y = false := by
  refine (eqB_no (fun e => ?_)).symm
  subst e
  simp at h

/-- the boxes of two rules -/
def RuBox2 (W w' : World) (x y : Ru) (B C : Option Addr) (cc dd : Nat) : Prop := Lay w' W.heap.size #[.int .i64 x.1, .string x.2.1, .slice B x.2.2.length cc] ∧ Lay w' (W.heap.size + 1) #[.int .i64 y.1, .string y.2.1, .slice C y.2.2.length dd] ∧ NmIn w' B x.2.2 ∧ NmIn w' C y.2.2 ∧ Below W.heap.size W w' ∧ W.heap.size + 1 < w'.heap.size
theorem RuBox2.next {W w' w'' : World} {x y : Ru} {B C : Option Addr} {cc dd : Nat} (h : RuBox2 W w' x y B C cc dd) (hB : Below w'.heap.size w' w'') : RuBox2 W w'' x y B C cc dd :=
  ⟨h.1.below hB (by have := h.2.2.2.2.2; omega), h.2.1.below hB h.2.2.2.2.2, h.2.2.1.next hB, h.2.2.2.1.next hB, h.2.2.2.2.1.trans (hB.mono h.2.2.2.2.1.size), Nat.lt_of_lt_of_le h.2.2.2.2.2 hB.size⟩
theorem RuBox2.new {W : World} {x y : Ru} {B C : Option Addr} {cc dd : Nat} (hN : NmIn W B x.2.2) (hM : NmIn W C y.2.2) (t : TypeId) : RuBox2 W ((W.alloc (.cells #[.int .i64 x.1, .string x.2.1, .slice B x.2.2.length cc] t)).alloc (.cells #[.int .i64 y.1, .string y.2.1, .slice C y.2.2.length dd] t)) x y B C cc dd :=
  ⟨(Lay.new W _ t).below ((Below.refl _ _).alloc (Nat.le_refl _) _) (by simp), by simpa using Lay.new (W.alloc (.cells #[.int .i64 x.1, .string x.2.1, .slice B x.2.2.length cc] t)) #[.int .i64 y.1, .string y.2.1, .slice C y.2.2.length dd] t, hN.next (by go_grown), hM.next (by go_grown), by go_grown, by simp⟩

set_option maxHeartbeats 2000000 in
theorem sameRule_any (x y : Ru) (W : World) (B C : Option Addr) (cc dd : Nat) (hN : NmIn W B x.2.2) (hM : NmIn W C y.2.2) :
    Calls Try.prog 75 #[.agg #[.int .i64 x.1, .string x.2.1, .slice B x.2.2.length cc], .agg #[.int .i64 y.1, .string y.2.1, .slice C y.2.2.length dd]] W fun e w' => e = .returned (.bool (eqB x y)) ∧ Below W.heap.size W w' := by
  have J0 := Lib.hid ((RuBox2.new (cc := cc) (dd := dd) hN hM 89).next (Below.refl _ _).drew)
  have S0 : (fun w' => (w'.cell? ⟨W.heap.size, 0, none⟩ = some (.int .i64 x.1) ∧ w'.cell? ⟨W.heap.size, 1, none⟩ = some (.string x.2.1) ∧ w'.cell? ⟨W.heap.size, 2, none⟩ = some (.slice B x.2.2.length cc)) ∧ w'.cell? ⟨W.heap.size + 1, 0, none⟩ = some (.int .i64 y.1) ∧ w'.cell? ⟨W.heap.size + 1, 1, none⟩ = some (.string y.2.1) ∧ w'.cell? ⟨W.heap.size + 1, 2, none⟩ = some (.slice C y.2.2.length dd)) ((W.alloc (.cells #[.int .i64 x.1, .string x.2.1, .slice B x.2.2.length cc] 89)).alloc (.cells #[.int .i64 y.1, .string y.2.1, .slice C y.2.2.length dd] 89)).drew := ⟨lay3 J0.out.1, lay3 J0.out.2.1⟩
  clear hN hM
  have HE := Lib.hid (run_eqlRuled x.1 y.1 x.2.1 y.2.1)
  cases hq : (x.1 == y.1) && (x.2.1.toList == y.2.1.toList) with
  | true =>
    have HM : Hid (eqB x.2.2 y.2.2 = eqB x y) := Lib.hid (ru_rest hq)
    have HQ : Hid (∀ w : World, (binOp .eql 84 (.agg #[.int .i64 x.1, .string x.2.1]) (.agg #[.int .i64 y.1, .string y.2.1])).run Try.prog w = .ok (.bool true) w) := Lib.hid (fun w => by rw [HE.out, hq])
    clear hq HE
    go_enter Try.func75, Try.ntmps75
    go_wp2_with fail
    refine wp_region_held_drew (S := fun w' => (w'.cell? ⟨W.heap.size, 0, none⟩ = some (.int .i64 x.1) ∧ w'.cell? ⟨W.heap.size, 1, none⟩ = some (.string x.2.1) ∧ w'.cell? ⟨W.heap.size, 2, none⟩ = some (.slice B x.2.2.length cc)) ∧ w'.cell? ⟨W.heap.size + 1, 0, none⟩ = some (.int .i64 y.1) ∧ w'.cell? ⟨W.heap.size + 1, 1, none⟩ = some (.string y.2.1) ∧ w'.cell? ⟨W.heap.size + 1, 2, none⟩ = some (.slice C y.2.2.length dd)) (by kernel_rfl) S0 (fun hHeld => ?_)
    refine wpAnyH_take (i := 0) (v := .agg #[.int .i64 x.1, .string x.2.1, .slice B x.2.2.length cc]) rfl (by kernel_rfl) (by kernel_rfl) (by kernel_rfl) (fun _ _ _ h => h) (Or.inl ⟨by rfl, fun w hSw => by (try dsimp only at hSw); go_simp⟩) (by assumption) ?_; (try simp only [Act.put, List.setIfInBounds_toArray, List.set_cons_zero, List.set_cons_succ, List.getElem_toArray, List.getElem_cons_zero])
    refine wpAnyH_take (i := 2) (v := .agg #[.int .i64 y.1, .string y.2.1, .slice C y.2.2.length dd]) rfl (by kernel_rfl) (by kernel_rfl) (by kernel_rfl) (fun _ _ _ h => h) (Or.inl ⟨by rfl, fun w hSw => by (try dsimp only at hSw); go_simp⟩) (by assumption) ?_; (try simp only [Act.put, List.setIfInBounds_toArray, List.set_cons_zero, List.set_cons_succ, List.getElem_toArray, List.getElem_cons_zero, List.getElem_cons_succ])
    refine wpAnyH_ready (rs := [1]) (by kernel_rfl) (by simp) ?_; refine AllReadyH.cons rfl (fun K hK => ?_) AllReadyH.nil; go_simp; (go_at_call 145; refine (ruledBy_any x.1 x.2.1 x.2.2 _ B cc).mono ?_; rintro e v1 ⟨rfl, hB⟩; have J1 := Lib.hid (J0.out.next hB); have S1 : (fun w' => (w'.cell? ⟨W.heap.size, 0, none⟩ = some (.int .i64 x.1) ∧ w'.cell? ⟨W.heap.size, 1, none⟩ = some (.string x.2.1) ∧ w'.cell? ⟨W.heap.size, 2, none⟩ = some (.slice B x.2.2.length cc)) ∧ w'.cell? ⟨W.heap.size + 1, 0, none⟩ = some (.int .i64 y.1) ∧ w'.cell? ⟨W.heap.size + 1, 1, none⟩ = some (.string y.2.1) ∧ w'.cell? ⟨W.heap.size + 1, 2, none⟩ = some (.slice C y.2.2.length dd)) v1 := ⟨lay3 J1.out.1, lay3 J1.out.2.1⟩; clear hB); (try go_wp2_with fail); refine hK.out _ _ S1 (fun hHeld => ?_); clear hK K; (try simp only [Act.put, List.setIfInBounds_toArray, List.set_cons_zero, List.set_cons_succ, List.getElem_toArray, List.getElem_cons_zero, List.getElem_cons_succ])
    refine wpAnyH_ready (rs := [3]) (by kernel_rfl) (by simp) ?_; refine AllReadyH.cons rfl (fun K hK => ?_) AllReadyH.nil; go_simp; (go_at_call 145; refine (ruledBy_any y.1 y.2.1 y.2.2 _ C dd).mono ?_; rintro e v2 ⟨rfl, hB⟩; have J2 := Lib.hid (J1.out.next hB); have S2 : (fun w' => (w'.cell? ⟨W.heap.size, 0, none⟩ = some (.int .i64 x.1) ∧ w'.cell? ⟨W.heap.size, 1, none⟩ = some (.string x.2.1) ∧ w'.cell? ⟨W.heap.size, 2, none⟩ = some (.slice B x.2.2.length cc)) ∧ w'.cell? ⟨W.heap.size + 1, 0, none⟩ = some (.int .i64 y.1) ∧ w'.cell? ⟨W.heap.size + 1, 1, none⟩ = some (.string y.2.1) ∧ w'.cell? ⟨W.heap.size + 1, 2, none⟩ = some (.slice C y.2.2.length dd)) v2 := ⟨lay3 J2.out.1, lay3 J2.out.2.1⟩; clear hB); (try go_wp2_with fail); refine hK.out _ _ S2 (fun hHeld => ?_); clear hK K; (try simp only [Act.put, List.setIfInBounds_toArray, List.set_cons_zero, List.set_cons_succ, List.getElem_toArray, List.getElem_cons_zero, List.getElem_cons_succ])
    have hq2 := HQ.out
    have hg2 := run_guardRuled
    refine wpAnyH_take (i := 4) (v := .bool true) rfl (by kernel_rfl) (by kernel_rfl) (by kernel_rfl) (fun _ _ _ h => h) (Or.inl ⟨by rfl, fun w hSw => by (try dsimp only at hSw); go_simp⟩) (by assumption) ?_; (try simp only [Act.put, List.setIfInBounds_toArray, List.set_cons_zero, List.set_cons_succ, List.getElem_toArray, List.getElem_cons_zero, List.getElem_cons_succ])
    refine wpAnyH_take (i := 5) (v := .bool true) rfl (by kernel_rfl) (by kernel_rfl) (by kernel_rfl) (fun _ _ _ h => h) (Or.inl ⟨by rfl, fun w hSw => by (try dsimp only at hSw); go_simp⟩) (by assumption) ?_; (try simp only [Act.put, List.setIfInBounds_toArray, List.set_cons_zero, List.set_cons_succ, List.getElem_toArray, List.getElem_cons_zero, List.getElem_cons_succ])
    clear hq2 hg2
    refine wpAnyH_take (i := 6) (v := .pointer (some ⟨W.heap.size, 2, none⟩)) rfl (by kernel_rfl) (by kernel_rfl) (by kernel_rfl) (fun _ _ _ h => h) (Or.inl ⟨by rfl, fun w hSw => by (try dsimp only at hSw); go_simp⟩) (by assumption) ?_; (try simp only [Act.put, List.setIfInBounds_toArray, List.set_cons_zero, List.set_cons_succ, List.getElem_toArray, List.getElem_cons_zero, List.getElem_cons_succ])
    refine wpAnyH_take (i := 7) (v := .slice B x.2.2.length cc) rfl (by kernel_rfl) (by kernel_rfl) (by kernel_rfl) (fun _ _ _ h => h) (Or.inl ⟨by rfl, fun w hSw => by (try dsimp only at hSw); go_simp⟩) (by assumption) ?_; (try simp only [Act.put, List.setIfInBounds_toArray, List.set_cons_zero, List.set_cons_succ, List.getElem_toArray, List.getElem_cons_zero, List.getElem_cons_succ])
    refine wpAnyH_take (i := 8) (v := .pointer (some ⟨W.heap.size + 1, 2, none⟩)) rfl (by kernel_rfl) (by kernel_rfl) (by kernel_rfl) (fun _ _ _ h => h) (Or.inl ⟨by rfl, fun w hSw => by (try dsimp only at hSw); go_simp⟩) (by assumption) ?_; (try simp only [Act.put, List.setIfInBounds_toArray, List.set_cons_zero, List.set_cons_succ, List.getElem_toArray, List.getElem_cons_zero, List.getElem_cons_succ])
    refine wpAnyH_take (i := 9) (v := .slice C y.2.2.length dd) rfl (by kernel_rfl) (by kernel_rfl) (by kernel_rfl) (fun _ _ _ h => h) (Or.inl ⟨by rfl, fun w hSw => by (try dsimp only at hSw); go_simp⟩) (by assumption) ?_; (try simp only [Act.put, List.setIfInBounds_toArray, List.set_cons_zero, List.set_cons_succ, List.getElem_toArray, List.getElem_cons_zero, List.getElem_cons_succ])
    refine wpAnyH_ready (rs := [10]) (by kernel_rfl) (by simp) ?_; refine AllReadyH.cons rfl (fun K hK => ?_) AllReadyH.nil; go_simp; (go_at_call 76; refine (slicesEqual_any x.2.2 y.2.2 _ B C cc dd J2.out.2.2.1 J2.out.2.2.2.1).mono ?_; rintro e v3 ⟨rfl, hB⟩; have J3 := Lib.hid (J2.out.next hB); have S3 : (fun w' => (w'.cell? ⟨W.heap.size, 0, none⟩ = some (.int .i64 x.1) ∧ w'.cell? ⟨W.heap.size, 1, none⟩ = some (.string x.2.1) ∧ w'.cell? ⟨W.heap.size, 2, none⟩ = some (.slice B x.2.2.length cc)) ∧ w'.cell? ⟨W.heap.size + 1, 0, none⟩ = some (.int .i64 y.1) ∧ w'.cell? ⟨W.heap.size + 1, 1, none⟩ = some (.string y.2.1) ∧ w'.cell? ⟨W.heap.size + 1, 2, none⟩ = some (.slice C y.2.2.length dd)) v3 := ⟨lay3 J3.out.1, lay3 J3.out.2.1⟩; clear hB); (try go_wp2_with fail); refine hK.out _ _ S3 (fun hHeld => ?_); clear hK K; (try simp only [Act.put, List.setIfInBounds_toArray, List.set_cons_zero, List.set_cons_succ, List.getElem_toArray, List.getElem_cons_zero, List.getElem_cons_succ])
    refine wpAnyH_take (i := 11) (v := .bool (eqB x.2.2 y.2.2)) rfl (by kernel_rfl) (by kernel_rfl) (by kernel_rfl) (fun _ _ _ h => h) (Or.inl ⟨by rfl, fun w hSw => by (try dsimp only at hSw); go_simp⟩) (by assumption) ?_; (try simp only [Act.put, List.setIfInBounds_toArray, List.set_cons_zero, List.set_cons_succ, List.getElem_toArray, List.getElem_cons_zero, List.getElem_cons_succ])
    refine wpAnyH_take (i := 12) (v := .bool (eqB x.2.2 y.2.2)) rfl (by kernel_rfl) (by kernel_rfl) (by kernel_rfl) (fun _ _ _ h => h) (Or.inl ⟨by rfl, fun w hSw => by (try dsimp only at hSw); go_simp⟩) (by assumption) ?_; (try simp only [Act.put, List.setIfInBounds_toArray, List.set_cons_zero, List.set_cons_succ, List.getElem_toArray, List.getElem_cons_zero, List.getElem_cons_succ])
    refine wpAnyH_done (by kernel_rfl) ?_ _
    go_wp2
    go_ret
    exact ⟨by rw [HM.out]; try rfl, J3.out.2.2.2.2.1⟩
  | false =>
    have HM : Hid (eqB x y = false) := Lib.hid (ru_no hq)
    have HQ : Hid (∀ w : World, (binOp .eql 84 (.agg #[.int .i64 x.1, .string x.2.1]) (.agg #[.int .i64 y.1, .string y.2.1])).run Try.prog w = .ok (.bool false) w) := Lib.hid (fun w => by rw [HE.out, hq])
    clear hq HE
    go_enter Try.func75, Try.ntmps75
    go_wp2_with fail
    refine wp_region_held_drew (S := fun w' => (w'.cell? ⟨W.heap.size, 0, none⟩ = some (.int .i64 x.1) ∧ w'.cell? ⟨W.heap.size, 1, none⟩ = some (.string x.2.1) ∧ w'.cell? ⟨W.heap.size, 2, none⟩ = some (.slice B x.2.2.length cc)) ∧ w'.cell? ⟨W.heap.size + 1, 0, none⟩ = some (.int .i64 y.1) ∧ w'.cell? ⟨W.heap.size + 1, 1, none⟩ = some (.string y.2.1) ∧ w'.cell? ⟨W.heap.size + 1, 2, none⟩ = some (.slice C y.2.2.length dd)) (by kernel_rfl) S0 (fun hHeld => ?_)
    refine wpAnyH_take (i := 0) (v := .agg #[.int .i64 x.1, .string x.2.1, .slice B x.2.2.length cc]) rfl (by kernel_rfl) (by kernel_rfl) (by kernel_rfl) (fun _ _ _ h => h) (Or.inl ⟨by rfl, fun w hSw => by (try dsimp only at hSw); go_simp⟩) (by assumption) ?_; (try simp only [Act.put, List.setIfInBounds_toArray, List.set_cons_zero, List.set_cons_succ, List.getElem_toArray, List.getElem_cons_zero])
    refine wpAnyH_take (i := 2) (v := .agg #[.int .i64 y.1, .string y.2.1, .slice C y.2.2.length dd]) rfl (by kernel_rfl) (by kernel_rfl) (by kernel_rfl) (fun _ _ _ h => h) (Or.inl ⟨by rfl, fun w hSw => by (try dsimp only at hSw); go_simp⟩) (by assumption) ?_; (try simp only [Act.put, List.setIfInBounds_toArray, List.set_cons_zero, List.set_cons_succ, List.getElem_toArray, List.getElem_cons_zero, List.getElem_cons_succ])
    refine wpAnyH_ready (rs := [1]) (by kernel_rfl) (by simp) ?_; refine AllReadyH.cons rfl (fun K hK => ?_) AllReadyH.nil; go_simp; (go_at_call 145; refine (ruledBy_any x.1 x.2.1 x.2.2 _ B cc).mono ?_; rintro e v1 ⟨rfl, hB⟩; have J1 := Lib.hid (J0.out.next hB); have S1 : (fun w' => (w'.cell? ⟨W.heap.size, 0, none⟩ = some (.int .i64 x.1) ∧ w'.cell? ⟨W.heap.size, 1, none⟩ = some (.string x.2.1) ∧ w'.cell? ⟨W.heap.size, 2, none⟩ = some (.slice B x.2.2.length cc)) ∧ w'.cell? ⟨W.heap.size + 1, 0, none⟩ = some (.int .i64 y.1) ∧ w'.cell? ⟨W.heap.size + 1, 1, none⟩ = some (.string y.2.1) ∧ w'.cell? ⟨W.heap.size + 1, 2, none⟩ = some (.slice C y.2.2.length dd)) v1 := ⟨lay3 J1.out.1, lay3 J1.out.2.1⟩; clear hB); (try go_wp2_with fail); refine hK.out _ _ S1 (fun hHeld => ?_); clear hK K; (try simp only [Act.put, List.setIfInBounds_toArray, List.set_cons_zero, List.set_cons_succ, List.getElem_toArray, List.getElem_cons_zero, List.getElem_cons_succ])
    refine wpAnyH_ready (rs := [3]) (by kernel_rfl) (by simp) ?_; refine AllReadyH.cons rfl (fun K hK => ?_) AllReadyH.nil; go_simp; (go_at_call 145; refine (ruledBy_any y.1 y.2.1 y.2.2 _ C dd).mono ?_; rintro e v2 ⟨rfl, hB⟩; have J2 := Lib.hid (J1.out.next hB); have S2 : (fun w' => (w'.cell? ⟨W.heap.size, 0, none⟩ = some (.int .i64 x.1) ∧ w'.cell? ⟨W.heap.size, 1, none⟩ = some (.string x.2.1) ∧ w'.cell? ⟨W.heap.size, 2, none⟩ = some (.slice B x.2.2.length cc)) ∧ w'.cell? ⟨W.heap.size + 1, 0, none⟩ = some (.int .i64 y.1) ∧ w'.cell? ⟨W.heap.size + 1, 1, none⟩ = some (.string y.2.1) ∧ w'.cell? ⟨W.heap.size + 1, 2, none⟩ = some (.slice C y.2.2.length dd)) v2 := ⟨lay3 J2.out.1, lay3 J2.out.2.1⟩; clear hB); (try go_wp2_with fail); refine hK.out _ _ S2 (fun hHeld => ?_); clear hK K; (try simp only [Act.put, List.setIfInBounds_toArray, List.set_cons_zero, List.set_cons_succ, List.getElem_toArray, List.getElem_cons_zero, List.getElem_cons_succ])
    have hq2 := HQ.out
    have hg2 := run_guardRuled
    refine wpAnyH_take (i := 4) (v := .bool false) rfl (by kernel_rfl) (by kernel_rfl) (by kernel_rfl) (fun _ _ _ h => h) (Or.inl ⟨by rfl, fun w hSw => by (try dsimp only at hSw); go_simp⟩) (by assumption) ?_; (try simp only [Act.put, List.setIfInBounds_toArray, List.set_cons_zero, List.set_cons_succ, List.getElem_toArray, List.getElem_cons_zero, List.getElem_cons_succ])
    refine wpAnyH_take (i := 5) (v := .bool false) rfl (by kernel_rfl) (by kernel_rfl) (by kernel_rfl) (fun _ _ _ h => h) (Or.inl ⟨by rfl, fun w hSw => by (try dsimp only at hSw); go_simp⟩) (by assumption) ?_; (try simp only [Act.put, List.setIfInBounds_toArray, List.set_cons_zero, List.set_cons_succ, List.getElem_toArray, List.getElem_cons_zero, List.getElem_cons_succ])
    clear hq2 hg2
    refine wpAnyH_take (i := 6) (v := undef) rfl (by kernel_rfl) (by kernel_rfl) (by kernel_rfl) (fun _ _ _ h => h) (Or.inr ⟨by rfl, rfl⟩) (by assumption) ?_; (try simp only [Act.put, List.setIfInBounds_toArray, List.set_cons_zero, List.set_cons_succ, List.getElem_toArray, List.getElem_cons_zero, List.getElem_cons_succ])
    refine wpAnyH_take (i := 7) (v := undef) rfl (by kernel_rfl) (by kernel_rfl) (by kernel_rfl) (fun _ _ _ h => h) (Or.inr ⟨by rfl, rfl⟩) (by assumption) ?_; (try simp only [Act.put, List.setIfInBounds_toArray, List.set_cons_zero, List.set_cons_succ, List.getElem_toArray, List.getElem_cons_zero, List.getElem_cons_succ])
    refine wpAnyH_take (i := 8) (v := undef) rfl (by kernel_rfl) (by kernel_rfl) (by kernel_rfl) (fun _ _ _ h => h) (Or.inr ⟨by rfl, rfl⟩) (by assumption) ?_; (try simp only [Act.put, List.setIfInBounds_toArray, List.set_cons_zero, List.set_cons_succ, List.getElem_toArray, List.getElem_cons_zero, List.getElem_cons_succ])
    refine wpAnyH_take (i := 9) (v := undef) rfl (by kernel_rfl) (by kernel_rfl) (by kernel_rfl) (fun _ _ _ h => h) (Or.inr ⟨by rfl, rfl⟩) (by assumption) ?_; (try simp only [Act.put, List.setIfInBounds_toArray, List.set_cons_zero, List.set_cons_succ, List.getElem_toArray, List.getElem_cons_zero, List.getElem_cons_succ])
    refine wpAnyH_take (i := 10) (v := undef) rfl (by kernel_rfl) (by kernel_rfl) (by kernel_rfl) (fun _ _ _ h => h) (Or.inr ⟨by rfl, rfl⟩) (by assumption) ?_; (try simp only [Act.put, List.setIfInBounds_toArray, List.set_cons_zero, List.set_cons_succ, List.getElem_toArray, List.getElem_cons_zero, List.getElem_cons_succ])
    refine wpAnyH_take (i := 11) (v := .bool false) rfl (by kernel_rfl) (by kernel_rfl) (by kernel_rfl) (fun _ _ _ h => h) (Or.inl ⟨by rfl, fun w hSw => by (try dsimp only at hSw); go_simp⟩) (by assumption) ?_; (try simp only [Act.put, List.setIfInBounds_toArray, List.set_cons_zero, List.set_cons_succ, List.getElem_toArray, List.getElem_cons_zero, List.getElem_cons_succ])
    refine wpAnyH_take (i := 12) (v := .bool false) rfl (by kernel_rfl) (by kernel_rfl) (by kernel_rfl) (fun _ _ _ h => h) (Or.inl ⟨by rfl, fun w hSw => by (try dsimp only at hSw); go_simp⟩) (by assumption) ?_; (try simp only [Act.put, List.setIfInBounds_toArray, List.set_cons_zero, List.set_cons_succ, List.getElem_toArray, List.getElem_cons_zero, List.getElem_cons_succ])
    refine wpAnyH_done (by kernel_rfl) ?_ _
    go_wp2
    go_ret
    exact ⟨by rw [HM.out]; try rfl, J2.out.2.2.2.2.1⟩
end Go.Proofs.Ytbcbmgeoaejlmaa
