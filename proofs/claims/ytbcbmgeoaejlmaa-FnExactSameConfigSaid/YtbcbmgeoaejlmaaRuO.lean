
import Derived.Test.YtbcbmgeoaejlmaaRuN
import Derived.Test.YtbcbmgeoaejlmaaRuS
namespace Go.Proofs.Ytbcbmgeoaejlmaa
open Go.ChangeShapes Go.WideShapes Go.ChangeAt Go.RowKit Go.Deep Go.Maps

theorem RuMap.len {w0 w : World} {b n c : Nat} {l : List Ru} (h : RuMap w0 w b n l c) (ty : TypeId) : (Builtin.len_ #[142] ty #[.map (some b)]).run Try.prog w = .ok (.int .i64 (c : Int)) w := by
  obtain ⟨⟨D, hown, hsz, _⟩, _⟩ := h
  have := hown.len Try.underlying142 ty
  rw [hsz] at this
  exact this
theorem ruleB_safe {x : Ru} (h : ruleB x = true) : 0 ≤ x.1 ∧ x.1 ≤ 2 := by
  simp only [ruleB, Bool.and_eq_true, decide_eq_true_eq] at h
  exact h.1.1
theorem all_safe {l : List Ru} (h : l.all ruleB = true) : ruSafe l := fun x hx => ruleB_safe ((List.all_eq_true.1 h) x hx)
theorem any_not (l : List Ru) (p : Ru → Bool) : (l.any fun x => !p x) = !l.all p := by
  induction l with
  | nil => rfl
  | cons x r ih => rw [List.any_cons, List.all_cons, ih, Bool.not_and]
theorem noRule_fn (l : List Ru) (w : World) : RuFn Try.prog 175 #[] #[] (fun x => !ruleB x) l w := fun k hk W B cc _ hz hc hN => by
  simpa using isNoRule_any l[k].1 l[k].2.1 l[k].2.2 W B cc hz hc hN
theorem attrs_fn (l : List Ru) (w : World) : RuFn Try.prog 176 #[] #[] (fun x => !bareB false x) l w := fun k hk W B cc _ _ _ _ => by
  simpa using hasAttrs_any l[k].1 l[k].2.1 l[k].2.2 W B cc

theorem rulesB_true (l : List Ru) : rulesB true l = (decide (l.length ≤ 10) && l.all ruleB && disGo l l.length) := by
  unfold rulesB
  rw [show l.all (bareB true) = true from List.all_eq_true.2 fun x _ => rfl, Bool.and_true]
theorem rulesB_false (l : List Ru) : rulesB false l = (rulesB true l && l.all (bareB false)) := by rw [rulesB_true]; rfl
theorem rulesB_len {ats : Bool} {l : List Ru} (h : rulesB ats l = true) : l.length ≤ 10 := by
  simp only [rulesB, Bool.and_eq_true, decide_eq_true_eq] at h
  exact h.1.1.1
theorem rulesB_all {ats : Bool} {l : List Ru} (h : rulesB ats l = true) : l.all ruleB = true := by
  simp only [rulesB, Bool.and_eq_true] at h
  exact h.1.1.2

set_option maxHeartbeats 1000000 in
theorem rulesOK_any (l : List Ru) (w : World) (A : Option Addr) (c : Nat) (hr : RuIn w A l) :
    Calls Try.prog 138 #[.slice A l.length c] w fun e w' => e = .returned (.bool (rulesB true l)) ∧ Below w.heap.size w w' := by
  have hml := hr.1
  unfold maxLen at hml
  have HR := Lib.hid hr
  clear hr
  rw [rulesB_true]
  by_cases h10 : l.length ≤ 10
  · have H10 := Lib.hid h10
    have hd : decide (((l.length : Nat) : Int) ≤ 10) = true := by simp; omega
    have e1 := enters_of Try.func175 (by kernel_rfl) rfl
    have E1 := Lib.hid e1
    clear e1
    cases ha : l.all ruleB with
    | false =>
      have HA : Hid ((l.any fun x => !ruleB x) = true) := Lib.hid (by rw [any_not, ha]; rfl)
      clear ha
      go_enter Try.func138, Try.ntmps138
      go_wp2_with (go_at_call 143; refine (ruContainsFunc_any _ #[] #[] _ E1.out l _ A c HR.out (noRule_fn l _)).mono ?_; rintro e w1 ⟨rfl, hB⟩; rw [HA.out]; have HB := Lib.hid hB; clear hB)
      go_ret
      exact ⟨ret_bool (by simp), HB.out⟩
    | true =>
      have HA : Hid ((l.any fun x => !ruleB x) = false) := Lib.hid (by rw [any_not, ha]; rfl)
      have HS := Lib.hid (all_safe ha)
      have HD : Hid (decide (cntR l l.length = l.length) = disGo l l.length) := Lib.hid (cntR_dis l l.length (Nat.le_refl _))
      clear ha
      go_enter Try.func138, Try.ntmps138
      go_wp2_with (first | (go_at_call 143; refine (ruContainsFunc_any _ #[] #[] _ E1.out l _ A c HR.out (noRule_fn l _)).mono ?_; rintro e w1 ⟨rfl, hB⟩; rw [HA.out]; have HB := Lib.hid hB; clear hB) | (go_at_call 132; refine (rulesByElement_any l _ A c HS.out H10.out (HR.out.next HB.out)).mono ?_; rintro e w2 ⟨b, rfl, hM⟩; have hlen := hM.len 3; have HM := Lib.hid hM; clear hM))
      go_ret
      exact ⟨ret_bool (by rw [← HD.out, decide_eq_true H10.out, Bool.eq_iff_iff]; simp; omega), HB.out.trans (HM.out.2.1.mono HB.out.size)⟩
  · have hd : decide (((l.length : Nat) : Int) ≤ 10) = false := by simp; omega
    go_enter Try.func138, Try.ntmps138
    go_wp2
    go_ret
    exact ⟨ret_bool (by simp [h10]), Below.refl _ _⟩

theorem bareRulesOK_any (l : List Ru) (w : World) (A : Option Addr) (c : Nat) (hr : RuIn w A l) :
    Calls Try.prog 139 #[.slice A l.length c] w fun e w' => e = .returned (.bool (rulesB false l)) ∧ Below w.heap.size w w' := by
  have HR := Lib.hid hr
  clear hr
  rw [rulesB_false]
  have E1 := Lib.hid (enters_of Try.func176 (by kernel_rfl) rfl)
  cases h : rulesB true l with
  | false =>
    have H := Lib.hid h
    clear h
    go_enter Try.func139, Try.ntmps139
    go_wp2_with (go_at_call 138; refine (rulesOK_any l _ A c HR.out).mono ?_; rintro e w1 ⟨rfl, hB⟩; rw [H.out]; have HB := Lib.hid hB; clear hB)
    go_ret
    exact ⟨ret_bool (by simp), HB.out⟩
  | true =>
    have H := Lib.hid h
    have HA : Hid ((l.any fun x => !bareB false x) = !l.all (bareB false)) := Lib.hid (any_not _ _)
    clear h
    go_enter Try.func139, Try.ntmps139
    go_wp2_with (first | (go_at_call 138; refine (rulesOK_any l _ A c HR.out).mono ?_; rintro e w1 ⟨rfl, hB⟩; rw [H.out]; have HB := Lib.hid hB; clear hB) | (go_at_call 143; refine (ruContainsFunc_any _ #[] #[] _ E1.out l _ A c (HR.out.next HB.out) (attrs_fn l _)).mono ?_; rintro e w2 ⟨rfl, hB⟩; rw [HA.out]; have HC := Lib.hid (HB.out.trans (hB.mono HB.out.size)); clear hB))
    go_ret
    exact ⟨ret_bool (by simp), HC.out⟩
end Go.Proofs.Ytbcbmgeoaejlmaa
