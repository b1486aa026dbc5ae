import Derived.Test.YthdkkpbhijlpaaaGreatS09
import Derived.Test.YthdkkpbhijlpaaaGreatS10
import Derived.Test.YthdkkpbhijlpaaaGreatS07
set_option linter.unusedVariables false
namespace Go.Proofs.YthdkkpbhijlpaaaGreat
open Go.ChangeShapes Go.WideShapes Go.ChangeAt Go.RowKit Go.Deep Go.Maps

theorem RuMap.len {w0 w : World} {b n c : Nat} {l : List Ru} (h : RuMap w0 w b n l c) (ty : TypeId) : (Builtin.len_ #[158] ty #[.map (some b)]).run Tryz.prog w = .ok (.int .i64 (c : Int)) w := by
  obtain ⟨⟨D, hown, hsz, _⟩, _⟩ := h
  have := hown.len Tryz.underlying158 ty
  rw [hsz] at this
  exact this
theorem ruleB_safe {x : Ru} (h : ruleB x = true) : 0 ≤ x.1 ∧ x.1 ≤ 2 := by
  simp only [ruleB, Bool.and_eq_true, decide_eq_true_eq] at h
  exact h.1.1
theorem all_safe {l : List Ru} (h : l.all ruleB = true) : ruSafe l := fun x hx => ruleB_safe ((List.all_eq_true.1 h) x hx)
theorem any_not (l : List Ru) (p : Ru → Bool) : (l.any fun x => !p x) = !l.all p := by
  induction l with
  | nil => rfl
  | cons x r ih => rw [List.any_cons, List.all_cons, ih, Bool.not_and]
theorem noRule_fn (l : List Ru) (w : World) : RuFn Tryz.prog 126 #[] #[] (fun x => !ruleB x) l w := fun k hk W B cc _ hz hc hN => by
  simpa using isNoRule_any l[k].1 l[k].2.1 l[k].2.2 W B cc hz hc hN
theorem attrs_fn (l : List Ru) (w : World) : RuFn Tryz.prog 128 #[] #[] (fun x => !bareB false x) l w := fun k hk W B cc _ _ _ _ => by
  simpa using hasAttrs_any l[k].1 l[k].2.1 l[k].2.2 W B cc
theorem rulesB_true (l : List Ru) : rulesB true l = (decide (l.length ≤ 10) && l.all ruleB && disGo l l.length) := by
  unfold rulesB
  rw [show l.all (bareB true) = true from List.all_eq_true.2 fun x _ => rfl, Bool.and_true]
theorem rulesB_false (l : List Ru) : rulesB false l = (rulesB true l && l.all (bareB false)) := by rw [rulesB_true]; rfl
theorem rulesB_len {ats : Bool} {l : List Ru} (h : rulesB ats l = true) : l.length ≤ 10 := by
  simp only [rulesB, Bool.and_eq_true, decide_eq_true_eq] at h
  exact h.1.1.1
theorem rulesB_all {ats : Bool} {l : List Ru} (h : rulesB ats l = true) : l.all ruleB = true := by
  simp only [rulesB, Bool.and_eq_true] at h
  exact h.1.1.2
set_option maxHeartbeats 1000000 in
theorem rulesOK_any (l : List Ru) (w : World) (A : Option Addr) (c : Nat) (hr : RuIn w A l) :
    Calls Tryz.prog 76 #[.slice A l.length c] w fun e w' => e = .returned (.bool (rulesB true l)) ∧ Below w.heap.size w w' := by
  have hml := hr.1
  unfold maxLen at hml
  have HR := Lib.hid hr
  clear hr
  rw [rulesB_true]
  by_cases h10 : l.length ≤ 10
  · have H10 := Lib.hid h10
    have hd : decide (((l.length : Nat) : Int) ≤ 10) = true := by simp; omega
    have e1 := enters_of Tryz.func126 (by kernel_rfl) rfl
    have E1 := Lib.hid e1
    clear e1
    cases ha : l.all ruleB with
    | false =>
      have HA : Hid ((l.any fun x => !ruleB x) = true) := Lib.hid (by rw [any_not, ha]; rfl)
      clear ha
      go_enter Tryz.func76, Tryz.ntmps76
      go_wp2_with (go_at_call 81; refine (ruContainsFunc_any _ #[] #[] _ E1.out l _ A c HR.out (noRule_fn l _)).mono ?_; rintro e w1 ⟨rfl, hB⟩; rw [HA.out]; have HB := Lib.hid hB; clear hB)
      go_ret
      exact ⟨ret_bool (by simp), HB.out⟩
    | true =>
      have HA : Hid ((l.any fun x => !ruleB x) = false) := Lib.hid (by rw [any_not, ha]; rfl)
      have HS := Lib.hid (all_safe ha)
      have HD : Hid (decide (cntR l l.length = l.length) = disGo l l.length) := Lib.hid (cntR_dis l l.length (Nat.le_refl _))
      clear ha
      go_enter Tryz.func76, Tryz.ntmps76
      go_wp2_with (first | (go_at_call 81; refine (ruContainsFunc_any _ #[] #[] _ E1.out l _ A c HR.out (noRule_fn l _)).mono ?_; rintro e w1 ⟨rfl, hB⟩; rw [HA.out]; have HB := Lib.hid hB; clear hB) | (go_at_call 127; refine (rulesByElement_any l _ A c HS.out H10.out (HR.out.next HB.out)).mono ?_; rintro e w2 ⟨b, rfl, hM⟩; have hlen := hM.len 3; have HM := Lib.hid hM; clear hM))
      go_ret
      exact ⟨ret_bool (by rw [← HD.out, decide_eq_true H10.out, Bool.eq_iff_iff]; simp; omega), HB.out.trans (HM.out.2.1.mono HB.out.size)⟩
  · have hd : decide (((l.length : Nat) : Int) ≤ 10) = false := by simp; omega
    go_enter Tryz.func76, Tryz.ntmps76
    go_wp2
    go_ret
    exact ⟨ret_bool (by simp [h10]), Below.refl _ _⟩
theorem bareRulesOK_any (l : List Ru) (w : World) (A : Option Addr) (c : Nat) (hr : RuIn w A l) :
    Calls Tryz.prog 77 #[.slice A l.length c] w fun e w' => e = .returned (.bool (rulesB false l)) ∧ Below w.heap.size w w' := by
  have HR := Lib.hid hr
  clear hr
  rw [rulesB_false]
  have E1 := Lib.hid (enters_of Tryz.func128 (by kernel_rfl) rfl)
  cases h : rulesB true l with
  | false =>
    have H := Lib.hid h
    clear h
    go_enter Tryz.func77, Tryz.ntmps77
    go_wp2_with (go_at_call 76; refine (rulesOK_any l _ A c HR.out).mono ?_; rintro e w1 ⟨rfl, hB⟩; rw [H.out]; have HB := Lib.hid hB; clear hB)
    go_ret
    exact ⟨ret_bool (by simp), HB.out⟩
  | true =>
    have H := Lib.hid h
    have HA : Hid ((l.any fun x => !bareB false x) = !l.all (bareB false)) := Lib.hid (any_not _ _)
    clear h
    go_enter Tryz.func77, Tryz.ntmps77
    go_wp2_with (first | (go_at_call 76; refine (rulesOK_any l _ A c HR.out).mono ?_; rintro e w1 ⟨rfl, hB⟩; rw [H.out]; have HB := Lib.hid hB; clear hB) | (go_at_call 81; refine (ruContainsFunc_any _ #[] #[] _ E1.out l _ A c (HR.out.next HB.out) (attrs_fn l _)).mono ?_; rintro e w2 ⟨rfl, hB⟩; rw [HA.out]; have HC := Lib.hid (HB.out.trans (hB.mono HB.out.size)); clear hB))
    go_ret
    exact ⟨ret_bool (by simp), HC.out⟩
end Go.Proofs.YthdkkpbhijlpaaaGreat
namespace Go.Proofs.YthdkkpbhijlpaaaGreat
open Go.ChangeShapes Go.WideShapes Go.ChangeAt Go.RowKit Go.Deep Go.Maps

/-- what lists mean nothing beside the two flags -/
def listsB (ha hb : Bool) (n1 n2 n4 n5 : Nat) (da : Bool) : Bool := (ha && decide (0 < n2)) || (!ha && decide (0 < n1)) || (hb && decide (0 < n5)) || (!hb && (decide (0 < n4) || da))
set_option maxHeartbeats 2000000 in
theorem listsContradict_any (ha hb cm da : Bool) (A1 A2 A3 A4 A5 : Option Addr) (n1 n2 n3 n4 n5 c1 c2 c3 c4 c5 : Nat) (w : World) :
    Calls Tryz.prog 79 #[.agg #[.bool ha, .bool hb, .slice A1 n1 c1, .slice A2 n2 c2, .slice A3 n3 c3, .slice A4 n4 c4, .slice A5 n5 c5, .bool cm, .bool da]] w fun e w' => e = .returned (.bool (listsB ha hb n1 n2 n4 n5 da)) ∧ Below w.heap.size w w' := by
  have rest : ∀ (ha : Bool) (n : Nat), n = (if ha then n2 else n1) → ¬ 0 < n → True := fun _ _ _ _ => trivial
  clear rest
  cases ha with
  | true =>
    by_cases h2 : 0 < n2
    · have i2 : ((n2 : Nat) : Int) > 0 := by omega
      go_enter Tryz.func79, Tryz.ntmps79
      go_wp2
      go_ret
      exact ⟨ret_bool (by simp [listsB, *]), by go_grown⟩
    · have i2 : ¬ ((n2 : Nat) : Int) > 0 := by omega
      cases hb with
      | true =>
        by_cases h5 : 0 < n5
        · have i5 : ((n5 : Nat) : Int) > 0 := by omega
          go_enter Tryz.func79, Tryz.ntmps79
          go_wp2
          go_ret
          exact ⟨ret_bool (by simp [listsB, *]), by go_grown⟩
        · have i5 : ¬ ((n5 : Nat) : Int) > 0 := by omega
          go_enter Tryz.func79, Tryz.ntmps79
          go_wp2
          go_ret
          exact ⟨ret_bool (by simp [listsB, *]), by go_grown⟩
      | false =>
        by_cases h4 : 0 < n4
        · have i4 : ((n4 : Nat) : Int) > 0 := by omega
          go_enter Tryz.func79, Tryz.ntmps79
          go_wp2
          go_ret
          exact ⟨ret_bool (by simp [listsB, *]), by go_grown⟩
        · have i4 : ¬ ((n4 : Nat) : Int) > 0 := by omega
          cases da with
          | true =>
            go_enter Tryz.func79, Tryz.ntmps79
            go_wp2
            go_ret
            exact ⟨ret_bool (by simp [listsB, *]), by go_grown⟩
          | false =>
            go_enter Tryz.func79, Tryz.ntmps79
            go_wp2
            go_ret
            exact ⟨ret_bool (by simp [listsB, *]), by go_grown⟩
  | false =>
    by_cases h1 : 0 < n1
    · have i1 : ((n1 : Nat) : Int) > 0 := by omega
      go_enter Tryz.func79, Tryz.ntmps79
      go_wp2
      go_ret
      exact ⟨ret_bool (by simp [listsB, *]), by go_grown⟩
    · have i1 : ¬ ((n1 : Nat) : Int) > 0 := by omega
      cases hb with
      | true =>
        by_cases h5 : 0 < n5
        · have i5 : ((n5 : Nat) : Int) > 0 := by omega
          go_enter Tryz.func79, Tryz.ntmps79
          go_wp2
          go_ret
          exact ⟨ret_bool (by simp [listsB, *]), by go_grown⟩
        · have i5 : ¬ ((n5 : Nat) : Int) > 0 := by omega
          go_enter Tryz.func79, Tryz.ntmps79
          go_wp2
          go_ret
          exact ⟨ret_bool (by simp [listsB, *]), by go_grown⟩
      | false =>
        by_cases h4 : 0 < n4
        · have i4 : ((n4 : Nat) : Int) > 0 := by omega
          go_enter Tryz.func79, Tryz.ntmps79
          go_wp2
          go_ret
          exact ⟨ret_bool (by simp [listsB, *]), by go_grown⟩
        · have i4 : ¬ ((n4 : Nat) : Int) > 0 := by omega
          cases da with
          | true =>
            go_enter Tryz.func79, Tryz.ntmps79
            go_wp2
            go_ret
            exact ⟨ret_bool (by simp [listsB, *]), by go_grown⟩
          | false =>
            go_enter Tryz.func79, Tryz.ntmps79
            go_wp2
            go_ret
            exact ⟨ret_bool (by simp [listsB, *]), by go_grown⟩
set_option maxHeartbeats 4000000 in
/-- it is in Allow or in Remove -/
theorem unwrap1_any (X : Cf) (V : CfV) (w0 : World) (g : Nat) (sp : Int) (n : ByteArray) (al : List ByteArray) (w : World) (A : Option Addr) (c : Nat) (h0 : 0 ≤ sp) (h2 : sp ≤ 2) (hn : n.size ≤ maxLen) (h : CfBox w0 w g X V)
    (ha : rulesB true X.al = true) (hr : rulesB false X.rm = true) :
    Calls Tryz.prog 130 #[.agg #[.int .i64 sp, .string n, .slice A al.length c], .pointer (some ⟨g, 0, none⟩)] w fun e w' => e = .returned (.bool (hasRu X.al sp n || hasRu X.rm sp n)) ∧ Below w.heap.size w w' := by
  have HA := Lib.hid (And.intro (all_safe (rulesB_all ha)) (rulesB_len ha))
  have HR := Lib.hid (And.intro (all_safe (rulesB_all hr)) (rulesB_len hr))
  have J0 : Hid (CfBox w (w.alloc (.cells #[.int .i64 sp, .string n, .slice A al.length c] 106)).drew g X V) := Lib.hid ((show CfBox w w g X V from ⟨h.1, h.2.1, Below.refl _ _, h.2.2.2⟩).next ((Below.refl _ _).alloc (Nat.le_refl _) _).drew)
  have L0 : Hid (Lay (w.alloc (.cells #[.int .i64 sp, .string n, .slice A al.length c] 106)).drew w.heap.size #[.int .i64 sp, .string n, .slice A al.length c]) := Lib.hid (Lay.new w _ _).drew3
  have G0 : Hid (w.heap.size < (w.alloc (.cells #[.int .i64 sp, .string n, .slice A al.length c] 106)).drew.heap.size) := Lib.hid (by simp)
  have hgl : g < w.heap.size := h.2.2.2
  have HB0 : Hid (Below w.heap.size w (w.alloc (.cells #[.int .i64 sp, .string n, .slice A al.length c] 106)).drew) := Lib.hid ((Below.refl _ _).alloc (Nat.le_refl _) _).drew
  have S0 : (fun w' => (w'.cell? ⟨g, 2, none⟩ = some (.slice V.a1 X.al.length V.c1) ∧ w'.cell? ⟨g, 3, none⟩ = some (.slice V.a2 X.rm.length V.c2)) ∧ w'.cell? ⟨w.heap.size, 0, none⟩ = some (.int .i64 sp) ∧ w'.cell? ⟨w.heap.size, 1, none⟩ = some (.string n) ∧ w'.cell? ⟨w.heap.size, 2, none⟩ = some (.slice A al.length c)) (w.alloc (.cells #[.int .i64 sp, .string n, .slice A al.length c] 106)).drew := ⟨⟨J0.out.1.1 2, J0.out.1.1 3⟩, lay3 L0.out⟩
  clear h ha hr
  cases hq : hasRu X.al sp n with
  | true =>
    have HQ := Lib.hid hq
    clear hq
    go_enter Tryz.func130, Tryz.ntmps130
    go_wp2_with fail
    refine wp_region_held_drew (S := fun w' => (w'.cell? ⟨g, 2, none⟩ = some (.slice V.a1 X.al.length V.c1) ∧ w'.cell? ⟨g, 3, none⟩ = some (.slice V.a2 X.rm.length V.c2)) ∧ w'.cell? ⟨w.heap.size, 0, none⟩ = some (.int .i64 sp) ∧ w'.cell? ⟨w.heap.size, 1, none⟩ = some (.string n) ∧ w'.cell? ⟨w.heap.size, 2, none⟩ = some (.slice A al.length c)) (by kernel_rfl) S0 (fun hHeld => ?_)
    refine wpAnyH_take (i := 0) (v := .pointer (some ⟨g, 2, none⟩)) rfl (by kernel_rfl) (by kernel_rfl) (by kernel_rfl) (fun _ _ _ h => h) (Or.inl ⟨by rfl, fun w hSw => by (try dsimp only at hSw); go_simp⟩) (by assumption) ?_; (try simp only [Act.put, List.setIfInBounds_toArray, List.set_cons_zero, List.set_cons_succ, List.getElem_toArray, List.getElem_cons_zero])
    refine wpAnyH_take (i := 1) (v := .slice V.a1 X.al.length V.c1) rfl (by kernel_rfl) (by kernel_rfl) (by kernel_rfl) (fun _ _ _ h => h) (Or.inl ⟨by rfl, fun w hSw => by (try dsimp only at hSw); go_simp⟩) (by assumption) ?_; (try simp only [Act.put, List.setIfInBounds_toArray, List.set_cons_zero, List.set_cons_succ, List.getElem_toArray, List.getElem_cons_zero, List.getElem_cons_succ])
    refine wpAnyH_take (i := 2) (v := .agg #[.int .i64 sp, .string n, .slice A al.length c]) rfl (by kernel_rfl) (by kernel_rfl) (by kernel_rfl) (fun _ _ _ h => h) (Or.inl ⟨by rfl, fun w hSw => by (try dsimp only at hSw); go_simp⟩) (by assumption) ?_; (try simp only [Act.put, List.setIfInBounds_toArray, List.set_cons_zero, List.set_cons_succ, List.getElem_toArray, List.getElem_cons_zero, List.getElem_cons_succ])
    refine wpAnyH_ready (rs := [3]) (by kernel_rfl) (by simp) ?_; refine AllReadyH.cons rfl (fun K hK => ?_) AllReadyH.nil; go_simp; (go_at_call 132; refine (ruledBy_any sp n al _ A c).mono ?_; rintro e v1 ⟨rfl, hB⟩; have J1 := Lib.hid (J0.out.next hB); have L1 := Lib.hid (L0.out.below hB G0.out); have G1 := Lib.hid (Nat.lt_of_lt_of_le G0.out hB.size); have S1 : (fun w' => (w'.cell? ⟨g, 2, none⟩ = some (.slice V.a1 X.al.length V.c1) ∧ w'.cell? ⟨g, 3, none⟩ = some (.slice V.a2 X.rm.length V.c2)) ∧ w'.cell? ⟨w.heap.size, 0, none⟩ = some (.int .i64 sp) ∧ w'.cell? ⟨w.heap.size, 1, none⟩ = some (.string n) ∧ w'.cell? ⟨w.heap.size, 2, none⟩ = some (.slice A al.length c)) v1 := ⟨⟨J1.out.1.1 2, J1.out.1.1 3⟩, lay3 L1.out⟩; clear hB); (try go_wp2_with fail); refine hK.out _ _ S1 (fun hHeld => ?_); clear hK K; (try simp only [Act.put, List.setIfInBounds_toArray, List.set_cons_zero, List.set_cons_succ, List.getElem_toArray, List.getElem_cons_zero, List.getElem_cons_succ])
    refine wpAnyH_ready (rs := [4]) (by kernel_rfl) (by simp) ?_; refine AllReadyH.cons rfl (fun K hK => ?_) AllReadyH.nil; go_simp; (go_at_call 131; refine (hasRule_any X.al sp n _ V.a1 V.c1 HA.out.1 HA.out.2 h0 h2 hn J1.out.2.1.al).mono ?_; rintro e v2 ⟨rfl, hB⟩; have J2 := Lib.hid (J1.out.next hB); have L2 := Lib.hid (L1.out.below hB G1.out); have G2 := Lib.hid (Nat.lt_of_lt_of_le G1.out hB.size); have S2 : (fun w' => (w'.cell? ⟨g, 2, none⟩ = some (.slice V.a1 X.al.length V.c1) ∧ w'.cell? ⟨g, 3, none⟩ = some (.slice V.a2 X.rm.length V.c2)) ∧ w'.cell? ⟨w.heap.size, 0, none⟩ = some (.int .i64 sp) ∧ w'.cell? ⟨w.heap.size, 1, none⟩ = some (.string n) ∧ w'.cell? ⟨w.heap.size, 2, none⟩ = some (.slice A al.length c)) v2 := ⟨⟨J2.out.1.1 2, J2.out.1.1 3⟩, lay3 L2.out⟩; clear hB; rw [HQ.out]); (try go_wp2_with fail); refine hK.out _ _ S2 (fun hHeld => ?_); clear hK K; (try simp only [Act.put, List.setIfInBounds_toArray, List.set_cons_zero, List.set_cons_succ, List.getElem_toArray, List.getElem_cons_zero, List.getElem_cons_succ])
    refine wpAnyH_take (i := 5) (v := .bool true) rfl (by kernel_rfl) (by kernel_rfl) (by kernel_rfl) (fun _ _ _ h => h) (Or.inl ⟨by rfl, fun w hSw => by (try dsimp only at hSw); go_simp⟩) (by assumption) ?_; (try simp only [Act.put, List.setIfInBounds_toArray, List.set_cons_zero, List.set_cons_succ, List.getElem_toArray, List.getElem_cons_zero, List.getElem_cons_succ])
    refine wpAnyH_take (i := 6) (v := undef) rfl (by kernel_rfl) (by kernel_rfl) (by kernel_rfl) (fun _ _ _ h => h) (Or.inr ⟨by rfl, rfl⟩) (by assumption) ?_; (try simp only [Act.put, List.setIfInBounds_toArray, List.set_cons_zero, List.set_cons_succ, List.getElem_toArray, List.getElem_cons_zero, List.getElem_cons_succ])
    refine wpAnyH_take (i := 7) (v := undef) rfl (by kernel_rfl) (by kernel_rfl) (by kernel_rfl) (fun _ _ _ h => h) (Or.inr ⟨by rfl, rfl⟩) (by assumption) ?_; (try simp only [Act.put, List.setIfInBounds_toArray, List.set_cons_zero, List.set_cons_succ, List.getElem_toArray, List.getElem_cons_zero, List.getElem_cons_succ])
    refine wpAnyH_take (i := 8) (v := undef) rfl (by kernel_rfl) (by kernel_rfl) (by kernel_rfl) (fun _ _ _ h => h) (Or.inr ⟨by rfl, rfl⟩) (by assumption) ?_; (try simp only [Act.put, List.setIfInBounds_toArray, List.set_cons_zero, List.set_cons_succ, List.getElem_toArray, List.getElem_cons_zero, List.getElem_cons_succ])
    refine wpAnyH_take (i := 9) (v := undef) rfl (by kernel_rfl) (by kernel_rfl) (by kernel_rfl) (fun _ _ _ h => h) (Or.inr ⟨by rfl, rfl⟩) (by assumption) ?_; (try simp only [Act.put, List.setIfInBounds_toArray, List.set_cons_zero, List.set_cons_succ, List.getElem_toArray, List.getElem_cons_zero, List.getElem_cons_succ])
    refine wpAnyH_take (i := 10) (v := undef) rfl (by kernel_rfl) (by kernel_rfl) (by kernel_rfl) (fun _ _ _ h => h) (Or.inr ⟨by rfl, rfl⟩) (by assumption) ?_; (try simp only [Act.put, List.setIfInBounds_toArray, List.set_cons_zero, List.set_cons_succ, List.getElem_toArray, List.getElem_cons_zero, List.getElem_cons_succ])
    refine wpAnyH_take (i := 11) (v := .bool true) rfl (by kernel_rfl) (by kernel_rfl) (by kernel_rfl) (fun _ _ _ h => h) (Or.inl ⟨by rfl, fun w hSw => by (try dsimp only at hSw); go_simp⟩) (by assumption) ?_; (try simp only [Act.put, List.setIfInBounds_toArray, List.set_cons_zero, List.set_cons_succ, List.getElem_toArray, List.getElem_cons_zero, List.getElem_cons_succ])
    refine wpAnyH_take (i := 12) (v := .bool true) rfl (by kernel_rfl) (by kernel_rfl) (by kernel_rfl) (fun _ _ _ h => h) (Or.inl ⟨by rfl, fun w hSw => by (try dsimp only at hSw); go_simp⟩) (by assumption) ?_; (try simp only [Act.put, List.setIfInBounds_toArray, List.set_cons_zero, List.set_cons_succ, List.getElem_toArray, List.getElem_cons_zero, List.getElem_cons_succ])
    refine wpAnyH_done (by kernel_rfl) ?_ _
    go_wp2
    go_ret
    exact ⟨rfl, J2.out.2.2.1⟩
  | false =>
    have HQ := Lib.hid hq
    clear hq
    go_enter Tryz.func130, Tryz.ntmps130
    go_wp2_with fail
    refine wp_region_held_drew (S := fun w' => (w'.cell? ⟨g, 2, none⟩ = some (.slice V.a1 X.al.length V.c1) ∧ w'.cell? ⟨g, 3, none⟩ = some (.slice V.a2 X.rm.length V.c2)) ∧ w'.cell? ⟨w.heap.size, 0, none⟩ = some (.int .i64 sp) ∧ w'.cell? ⟨w.heap.size, 1, none⟩ = some (.string n) ∧ w'.cell? ⟨w.heap.size, 2, none⟩ = some (.slice A al.length c)) (by kernel_rfl) S0 (fun hHeld => ?_)
    refine wpAnyH_take (i := 0) (v := .pointer (some ⟨g, 2, none⟩)) rfl (by kernel_rfl) (by kernel_rfl) (by kernel_rfl) (fun _ _ _ h => h) (Or.inl ⟨by rfl, fun w hSw => by (try dsimp only at hSw); go_simp⟩) (by assumption) ?_; (try simp only [Act.put, List.setIfInBounds_toArray, List.set_cons_zero, List.set_cons_succ, List.getElem_toArray, List.getElem_cons_zero])
    refine wpAnyH_take (i := 1) (v := .slice V.a1 X.al.length V.c1) rfl (by kernel_rfl) (by kernel_rfl) (by kernel_rfl) (fun _ _ _ h => h) (Or.inl ⟨by rfl, fun w hSw => by (try dsimp only at hSw); go_simp⟩) (by assumption) ?_; (try simp only [Act.put, List.setIfInBounds_toArray, List.set_cons_zero, List.set_cons_succ, List.getElem_toArray, List.getElem_cons_zero, List.getElem_cons_succ])
    refine wpAnyH_take (i := 2) (v := .agg #[.int .i64 sp, .string n, .slice A al.length c]) rfl (by kernel_rfl) (by kernel_rfl) (by kernel_rfl) (fun _ _ _ h => h) (Or.inl ⟨by rfl, fun w hSw => by (try dsimp only at hSw); go_simp⟩) (by assumption) ?_; (try simp only [Act.put, List.setIfInBounds_toArray, List.set_cons_zero, List.set_cons_succ, List.getElem_toArray, List.getElem_cons_zero, List.getElem_cons_succ])
    refine wpAnyH_ready (rs := [3]) (by kernel_rfl) (by simp) ?_; refine AllReadyH.cons rfl (fun K hK => ?_) AllReadyH.nil; go_simp; (go_at_call 132; refine (ruledBy_any sp n al _ A c).mono ?_; rintro e v1 ⟨rfl, hB⟩; have J1 := Lib.hid (J0.out.next hB); have L1 := Lib.hid (L0.out.below hB G0.out); have G1 := Lib.hid (Nat.lt_of_lt_of_le G0.out hB.size); have S1 : (fun w' => (w'.cell? ⟨g, 2, none⟩ = some (.slice V.a1 X.al.length V.c1) ∧ w'.cell? ⟨g, 3, none⟩ = some (.slice V.a2 X.rm.length V.c2)) ∧ w'.cell? ⟨w.heap.size, 0, none⟩ = some (.int .i64 sp) ∧ w'.cell? ⟨w.heap.size, 1, none⟩ = some (.string n) ∧ w'.cell? ⟨w.heap.size, 2, none⟩ = some (.slice A al.length c)) v1 := ⟨⟨J1.out.1.1 2, J1.out.1.1 3⟩, lay3 L1.out⟩; clear hB); (try go_wp2_with fail); refine hK.out _ _ S1 (fun hHeld => ?_); clear hK K; (try simp only [Act.put, List.setIfInBounds_toArray, List.set_cons_zero, List.set_cons_succ, List.getElem_toArray, List.getElem_cons_zero, List.getElem_cons_succ])
    refine wpAnyH_ready (rs := [4]) (by kernel_rfl) (by simp) ?_; refine AllReadyH.cons rfl (fun K hK => ?_) AllReadyH.nil; go_simp; (go_at_call 131; refine (hasRule_any X.al sp n _ V.a1 V.c1 HA.out.1 HA.out.2 h0 h2 hn J1.out.2.1.al).mono ?_; rintro e v2 ⟨rfl, hB⟩; have J2 := Lib.hid (J1.out.next hB); have L2 := Lib.hid (L1.out.below hB G1.out); have G2 := Lib.hid (Nat.lt_of_lt_of_le G1.out hB.size); have S2 : (fun w' => (w'.cell? ⟨g, 2, none⟩ = some (.slice V.a1 X.al.length V.c1) ∧ w'.cell? ⟨g, 3, none⟩ = some (.slice V.a2 X.rm.length V.c2)) ∧ w'.cell? ⟨w.heap.size, 0, none⟩ = some (.int .i64 sp) ∧ w'.cell? ⟨w.heap.size, 1, none⟩ = some (.string n) ∧ w'.cell? ⟨w.heap.size, 2, none⟩ = some (.slice A al.length c)) v2 := ⟨⟨J2.out.1.1 2, J2.out.1.1 3⟩, lay3 L2.out⟩; clear hB; rw [HQ.out]); (try go_wp2_with fail); refine hK.out _ _ S2 (fun hHeld => ?_); clear hK K; (try simp only [Act.put, List.setIfInBounds_toArray, List.set_cons_zero, List.set_cons_succ, List.getElem_toArray, List.getElem_cons_zero, List.getElem_cons_succ])
    refine wpAnyH_take (i := 5) (v := .bool false) rfl (by kernel_rfl) (by kernel_rfl) (by kernel_rfl) (fun _ _ _ h => h) (Or.inl ⟨by rfl, fun w hSw => by (try dsimp only at hSw); go_simp⟩) (by assumption) ?_; (try simp only [Act.put, List.setIfInBounds_toArray, List.set_cons_zero, List.set_cons_succ, List.getElem_toArray, List.getElem_cons_zero, List.getElem_cons_succ])
    refine wpAnyH_take (i := 6) (v := .pointer (some ⟨g, 3, none⟩)) rfl (by kernel_rfl) (by kernel_rfl) (by kernel_rfl) (fun _ _ _ h => h) (Or.inl ⟨by rfl, fun w hSw => by (try dsimp only at hSw); go_simp⟩) (by assumption) ?_; (try simp only [Act.put, List.setIfInBounds_toArray, List.set_cons_zero, List.set_cons_succ, List.getElem_toArray, List.getElem_cons_zero, List.getElem_cons_succ])
    refine wpAnyH_take (i := 7) (v := .slice V.a2 X.rm.length V.c2) rfl (by kernel_rfl) (by kernel_rfl) (by kernel_rfl) (fun _ _ _ h => h) (Or.inl ⟨by rfl, fun w hSw => by (try dsimp only at hSw); go_simp⟩) (by assumption) ?_; (try simp only [Act.put, List.setIfInBounds_toArray, List.set_cons_zero, List.set_cons_succ, List.getElem_toArray, List.getElem_cons_zero, List.getElem_cons_succ])
    refine wpAnyH_take (i := 8) (v := .agg #[.int .i64 sp, .string n, .slice A al.length c]) rfl (by kernel_rfl) (by kernel_rfl) (by kernel_rfl) (fun _ _ _ h => h) (Or.inl ⟨by rfl, fun w hSw => by (try dsimp only at hSw); go_simp⟩) (by assumption) ?_; (try simp only [Act.put, List.setIfInBounds_toArray, List.set_cons_zero, List.set_cons_succ, List.getElem_toArray, List.getElem_cons_zero, List.getElem_cons_succ])
    refine wpAnyH_ready (rs := [9]) (by kernel_rfl) (by simp) ?_; refine AllReadyH.cons rfl (fun K hK => ?_) AllReadyH.nil; go_simp; (go_at_call 132; refine (ruledBy_any sp n al _ A c).mono ?_; rintro e v3 ⟨rfl, hB⟩; have J3 := Lib.hid (J2.out.next hB); have L3 := Lib.hid (L2.out.below hB G2.out); have G3 := Lib.hid (Nat.lt_of_lt_of_le G2.out hB.size); have S3 : (fun w' => (w'.cell? ⟨g, 2, none⟩ = some (.slice V.a1 X.al.length V.c1) ∧ w'.cell? ⟨g, 3, none⟩ = some (.slice V.a2 X.rm.length V.c2)) ∧ w'.cell? ⟨w.heap.size, 0, none⟩ = some (.int .i64 sp) ∧ w'.cell? ⟨w.heap.size, 1, none⟩ = some (.string n) ∧ w'.cell? ⟨w.heap.size, 2, none⟩ = some (.slice A al.length c)) v3 := ⟨⟨J3.out.1.1 2, J3.out.1.1 3⟩, lay3 L3.out⟩; clear hB); (try go_wp2_with fail); refine hK.out _ _ S3 (fun hHeld => ?_); clear hK K; (try simp only [Act.put, List.setIfInBounds_toArray, List.set_cons_zero, List.set_cons_succ, List.getElem_toArray, List.getElem_cons_zero, List.getElem_cons_succ])
    refine wpAnyH_ready (rs := [10]) (by kernel_rfl) (by simp) ?_; refine AllReadyH.cons rfl (fun K hK => ?_) AllReadyH.nil; go_simp; (go_at_call 131; refine (hasRule_any X.rm sp n _ V.a2 V.c2 HR.out.1 HR.out.2 h0 h2 hn J3.out.2.1.rm).mono ?_; rintro e v4 ⟨rfl, hB⟩; have J4 := Lib.hid (J3.out.next hB); have L4 := Lib.hid (L3.out.below hB G3.out); have G4 := Lib.hid (Nat.lt_of_lt_of_le G3.out hB.size); have S4 : (fun w' => (w'.cell? ⟨g, 2, none⟩ = some (.slice V.a1 X.al.length V.c1) ∧ w'.cell? ⟨g, 3, none⟩ = some (.slice V.a2 X.rm.length V.c2)) ∧ w'.cell? ⟨w.heap.size, 0, none⟩ = some (.int .i64 sp) ∧ w'.cell? ⟨w.heap.size, 1, none⟩ = some (.string n) ∧ w'.cell? ⟨w.heap.size, 2, none⟩ = some (.slice A al.length c)) v4 := ⟨⟨J4.out.1.1 2, J4.out.1.1 3⟩, lay3 L4.out⟩; clear hB); (try go_wp2_with fail); refine hK.out _ _ S4 (fun hHeld => ?_); clear hK K; (try simp only [Act.put, List.setIfInBounds_toArray, List.set_cons_zero, List.set_cons_succ, List.getElem_toArray, List.getElem_cons_zero, List.getElem_cons_succ])
    refine wpAnyH_take (i := 11) (v := .bool (hasRu X.rm sp n)) rfl (by kernel_rfl) (by kernel_rfl) (by kernel_rfl) (fun _ _ _ h => h) (Or.inl ⟨by rfl, fun w hSw => by (try dsimp only at hSw); go_simp⟩) (by assumption) ?_; (try simp only [Act.put, List.setIfInBounds_toArray, List.set_cons_zero, List.set_cons_succ, List.getElem_toArray, List.getElem_cons_zero, List.getElem_cons_succ])
    refine wpAnyH_take (i := 12) (v := .bool (hasRu X.rm sp n)) rfl (by kernel_rfl) (by kernel_rfl) (by kernel_rfl) (fun _ _ _ h => h) (Or.inl ⟨by rfl, fun w hSw => by (try dsimp only at hSw); go_simp⟩) (by assumption) ?_; (try simp only [Act.put, List.setIfInBounds_toArray, List.set_cons_zero, List.set_cons_succ, List.getElem_toArray, List.getElem_cons_zero, List.getElem_cons_succ])
    refine wpAnyH_done (by kernel_rfl) ?_ _
    go_wp2
    go_ret
    exact ⟨rfl, J4.out.2.2.1⟩
end Go.Proofs.YthdkkpbhijlpaaaGreat
