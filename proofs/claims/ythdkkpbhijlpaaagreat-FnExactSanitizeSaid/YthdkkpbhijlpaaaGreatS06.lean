import Derived.Deep.RegionWith
import Derived.Deep.Draws
import Derived.Test.YthdkkpbhijlpaaaGreatS04
import Derived.Test.YthdkkpbhijlpaaaGreatS03
import Derived.Test.YthdkkpbhijlpaaaGreatS05
set_option linter.unusedVariables false
namespace Go.Proofs.YthdkkpbhijlpaaaGreat
open Go.ChangeShapes Go.WideShapes Go.ChangeAt Go.RowKit Go.Deep

/-- a text is among some -/
def hasM (l : List ByteArray) (s : ByteArray) : Bool := l.any fun x => x.toList == s.toList
theorem hasM_take {l : List ByteArray} {s : ByteArray} {k : Nat} (hk : k < l.length) : hasM (l.take (k + 1)) s = (hasM (l.take k) s || (l[k].toList == s.toList)) := by
  unfold hasM; rw [List.take_succ_eq_append_getElem hk, List.any_append]; simp only [List.any_cons, List.any_nil, Bool.or_false]
theorem hasM_hit {l : List ByteArray} {s : ByteArray} {k : Nat} (hk : k < l.length) (h : (l[k].toList == s.toList) = true) : true = hasM l s := by
  symm; rw [hasM, List.any_eq_true]; exact ⟨_, List.getElem_mem hk, h⟩
theorem l01HasM_any (l : List ByteArray) (s : ByteArray) (w : World) (A : Option Addr) (n c : Nat) (hn : n = l.length) (hr : NmIn w A l) :
    Calls Tryz.prog 117 #[.slice A n c, .string s] w fun e w' => e = .returned (.bool (hasM l s)) ∧ w = w' := by
  subst hn
  have hl := hr.1
  unfold maxLen at hl
  have HC := Lib.hid hr
  clear hr
  go_enter Tryz.func117, Tryz.ntmps117
  go_wp2
  go_loop [5] (fun i => ∃ k : Nat, k ≤ l.length ∧ i = .int .i64 k ∧ hasM (l.take k) s = false) (fun i => l.length - (intOf i).toNat)
  case atStart => exact ⟨0, by omega, rfl, by simp [hasM]⟩
  case round =>
    obtain ⟨k, hk, rfl, hall⟩ := hrel
    have HA := Lib.hid hall
    clear hall
    by_cases hlt : k < l.length
    · obtain ⟨g, o, rfl, hg, hck, _⟩ := HC.out.get hlt
      by_cases hf : (l[k].toList == s.toList) = true
      · have HF := Lib.hid hf
        go_wp2
        go_ret
        exact ⟨ret_bool (hasM_hit hlt HF.out), rfl⟩
      · have HF := Lib.hid hf
        have hf' : (l[k].toList == s.toList) = false := by simpa using hf
        clear hf
        go_wp2
        go_round
        case rel => exact ⟨k + 1, by omega, by go_num, by rw [hasM_take hlt, HA.out]; simpa using HF.out⟩
        case measure => simp [intOf]; omega
    · obtain rfl : k = l.length := by omega
      go_wp2
      go_ret
      exact ⟨ret_bool (by have := HA.out; rw [List.take_length] at this; exact this.symm), rfl⟩
theorem indexM_any (l : List ByteArray) (s : ByteArray) (w : World) (A : Option Addr) (n c : Nat) (hn : n = l.length) (hr : NmIn w A l) :
    Calls Tryz.prog 176 #[.slice A n c, .string s] w fun e w' => (∃ i : Int, e = .returned (.int .i64 i) ∧ decide (i ≥ 0) = hasM l s) ∧ w = w' := by
  subst hn
  have hl := hr.1
  unfold maxLen at hl
  have HC := Lib.hid hr
  clear hr
  go_enter Tryz.func176, Tryz.ntmps176
  go_wp2
  go_loop [8] (fun i => ∃ k : Nat, k ≤ l.length ∧ i = .int .i64 k ∧ hasM (l.take k) s = false) (fun i => l.length - (intOf i).toNat)
  case atStart => exact ⟨0, by omega, rfl, by simp [hasM]⟩
  case round =>
    obtain ⟨k, hk, rfl, hall⟩ := hrel
    have HA := Lib.hid hall
    clear hall
    by_cases hlt : k < l.length
    · obtain ⟨g, o, rfl, hg, hck, _⟩ := HC.out.get hlt
      by_cases hf : (l[k].toList == s.toList) = true
      · have HF := Lib.hid hf
        have hf' : (s.toList == l[k].toList) = true := by rw [beq_iff_eq] at hf ⊢; exact hf.symm
        clear hf
        go_wp2
        go_ret
        exact ⟨⟨k, rfl, by rw [← hasM_hit hlt HF.out]; simp⟩, rfl⟩
      · have HF := Lib.hid hf
        have hf' : (s.toList == l[k].toList) = false := by rw [beq_eq_false_iff_ne]; intro e; exact hf (by rw [e]; simp)
        clear hf
        go_wp2
        go_round
        case rel => exact ⟨k + 1, by omega, by go_num, by rw [hasM_take hlt, HA.out]; simpa using HF.out⟩
        case measure => simp [intOf]; omega
    · obtain rfl : k = l.length := by omega
      go_wp2
      go_ret
      exact ⟨⟨-1, rfl, by have := HA.out; rw [List.take_length] at this; rw [this]; rfl⟩, rfl⟩
theorem containsM_any (l : List ByteArray) (s : ByteArray) (w : World) (A : Option Addr) (n c : Nat) (hn : n = l.length) (hr : NmIn w A l) :
    Calls Tryz.prog 129 #[.slice A n c, .string s] w fun e w' => e = .returned (.bool (hasM l s)) ∧ w = w' := by
  have HR := Lib.hid (And.intro hn hr)
  clear hn hr
  go_enter Tryz.func129, Tryz.ntmps129
  go_wp2_with (go_at_call 176; refine (indexM_any l s _ A n c HR.out.1 HR.out.2).mono ?_; rintro e w1 ⟨⟨i, rfl, hi⟩, rfl⟩; have HI := Lib.hid hi; clear hi)
  go_ret
  exact ⟨ret_bool (by rw [← HI.out]), rfl⟩
/-- the first k are tags' names, no two alike -/
noncomputable def nmGo (l : List ByteArray) : Nat → Bool
  | 0 => true
  | k + 1 => nmGo l k && (match l[k]? with | some x => namedB small tagB x && !hasM (l.take k) x | none => true)
noncomputable def namesB (l : List ByteArray) : Bool := decide (l.length ≤ 10) && nmGo l l.length
theorem nmGo_succ {l : List ByteArray} {k : Nat} (hk : k < l.length) : nmGo l (k + 1) = (nmGo l k && (namedB small tagB l[k] && !hasM (l.take k) l[k])) := by
  rw [nmGo, List.getElem?_eq_getElem hk]
theorem nmGo_false {l : List ByteArray} {k : Nat} : ∀ {m : Nat}, k ≤ m → nmGo l k = false → nmGo l m = false
  | 0, h, h2 => by rw [Nat.le_zero.1 h] at h2; exact h2
  | m + 1, h, h2 => by
    by_cases e : k = m + 1
    · subst e; exact h2
    · rw [nmGo, nmGo_false (m := m) (by omega) h2]; rfl
theorem namesB_bad {l : List ByteArray} {k : Nat} (hk : k < l.length) (h : (namedB small tagB l[k] && !hasM (l.take k) l[k]) = false) : false = namesB l := by
  rw [namesB, nmGo_false (k := k + 1) (by omega) (by rw [nmGo_succ hk, h, Bool.and_false]), Bool.and_false]
theorem l01Tag_q (s : ByteArray) (w : World) (n : Nat) (r : Bool) (hq : namedB small tagB s = r) (hs : s.size ≤ maxLen) :
    Calls Tryz.prog 163 #[.string s] (w.drewN n) fun e w' => e = .returned (.bool r) ∧ w' = w.drewN n :=
  (l01Tag_any s (w.drewN n) hs).mono fun _ _ h => ⟨by rw [h.1, hq], h.2.symm⟩
theorem l01HasM_q (l : List ByteArray) (s : ByteArray) (w : World) (A : Option Addr) (m c : Nat) (n : Nat) (r : Bool) (hq : hasM l s = r) (hm : m = l.length) (hr : NmIn w A l) :
    Calls Tryz.prog 117 #[.slice A m c, .string s] (w.drewN n) fun e w' => e = .returned (.bool r) ∧ w' = w.drewN n :=
  (l01HasM_any l s (w.drewN n) A m c hm (hr.carry fun _ _ _ _ _ _ => rfl)).mono fun _ _ h => ⟨by rw [h.1, hq], h.2.symm⟩
theorem l07Names_any (l : List ByteArray) (w : World) (A : Option Addr) (c : Nat) (hlc : l.length ≤ c) (hr : NmIn w A l) :
    Calls Tryz.prog 115 #[.slice A l.length c] w fun e w' => e = .returned (.bool (namesB l)) ∧ Below w.heap.size w w' := by
  have hl := hr.1
  have HC := Lib.hid hr
  clear hr
  by_cases h10 : l.length ≤ 10
  · clear hl
    go_enter Tryz.func115, Tryz.ntmps115
    go_wp2
    go_loopw [3] (fun i wr => ∃ k : Nat, k ≤ l.length ∧ i = .int .i64 k ∧ Hid (nmGo l k = true ∧ Below w.heap.size w wr)) (fun i wr => l.length - (intOf i).toNat)
    case atStart => exact ⟨0, by omega, rfl, Lib.hid ⟨rfl, Below.refl _ _⟩⟩
    case round =>
      obtain ⟨k, hk, rfl, HA⟩ := hrel
      by_cases hlt : k < l.length
      · have HN := Lib.hid (HC.out.next HA.out.2)
        obtain ⟨g, o, rfl, hg, hck, hz⟩ := HN.out.get hlt
        have HT := Lib.hid (HN.out.take k)
        have hkl : k = (l.take k).length := by simp; omega
        have hkc : k ≤ c := by omega
        cases h1 : namedB small tagB l[k] with
        | false =>
          have HX := Lib.hid (namesB_bad hlt (by rw [h1]; rfl))
          have H1 := Lib.hid h1
          clear h1 hkl
          go_wp2
          go_quiet ((go_at_call 163; exact Calls.quiet_of_same (l01Tag_q l[k] _ _ _ H1.out hz)))
          go_wp2
          go_ret
          exact ⟨ret_bool HX.out, below_drewN HA.out.2 _⟩
        | true =>
          cases h2 : hasM (l.take k) l[k] with
          | true =>
            have HX := Lib.hid (namesB_bad hlt (by rw [h1, h2]; rfl))
            have H1 := Lib.hid h1
            have H2 := Lib.hid h2
            have HKL := Lib.hid hkl
            clear h1 h2 hkl
            go_wp2
            go_quiet (first | (go_at_call 163; exact Calls.quiet_of_same (l01Tag_q l[k] _ _ _ H1.out hz)) | (go_at_call 117; exact Calls.quiet_of_same (l01HasM_q (l.take k) l[k] wr _ k _ _ _ H2.out HKL.out HT.out)))
            go_wp2
            go_ret
            exact ⟨ret_bool HX.out, below_drewN HA.out.2 _⟩
          | false =>
            have HX := Lib.hid (show nmGo l (k + 1) = true by rw [nmGo_succ hlt, HA.out.1, h1, h2]; rfl)
            have H1 := Lib.hid h1
            have H2 := Lib.hid h2
            have HKL := Lib.hid hkl
            clear h1 h2 hkl
            go_wp2
            go_quiet (first | (go_at_call 163; exact Calls.quiet_of_same (l01Tag_q l[k] _ _ _ H1.out hz)) | (go_at_call 117; exact Calls.quiet_of_same (l01HasM_q (l.take k) l[k] wr _ k _ _ _ H2.out HKL.out HT.out)))
            go_wp2
            go_roundw
            case rel => exact ⟨k + 1, by omega, by go_num, Lib.hid ⟨HX.out, below_drewN HA.out.2 _⟩⟩
            case measure => simp [intOf]; omega
      · obtain rfl : k = l.length := by omega
        have HX : Hid (true = namesB l) := Lib.hid (by rw [namesB, HA.out.1]; simpa using h10)
        go_wp2
        go_ret
        exact ⟨ret_bool HX.out, HA.out.2⟩
  · unfold maxLen at hl
    have HX : Hid (false = namesB l) := Lib.hid (by simp [namesB, h10])
    go_enter Tryz.func115, Tryz.ntmps115
    go_wp2
    go_ret
    exact ⟨ret_bool HX.out, Below.refl _ _⟩
set_option maxRecDepth 100000 in
theorem namesOK_any (l : List ByteArray) (w : World) (A : Option Addr) (c : Nat) (hlc : l.length ≤ c) (hr : NmIn w A l) :
    Calls Tryz.prog 78 #[.slice A l.length c] w fun e w' => e = .returned (.bool (namesB l)) ∧ w = w' := by
  have hl := hr.1
  have HC := Lib.hid hr
  clear hr
  by_cases h10 : l.length ≤ 10
  · clear hl
    go_enter Tryz.func78, Tryz.ntmps78
    go_wp2
    go_loop [10] (fun i => ∃ k : Nat, k ≤ l.length ∧ i = .int .i64 k ∧ Hid (nmGo l k = true)) (fun i => l.length - (intOf i).toNat)
    case atStart => exact ⟨0, by omega, rfl, Lib.hid rfl⟩
    case round =>
      obtain ⟨k, hk, rfl, HA⟩ := hrel
      by_cases hlt : k < l.length
      · obtain ⟨g, o, rfl, hg, hck, hz⟩ := HC.out.get hlt
        have HT := Lib.hid (HC.out.take k)
        have hkl : k = (l.take k).length := by simp; omega
        have hkc : k ≤ c := by omega
        cases h1 : namedB small tagB l[k] with
        | false =>
          have HX := Lib.hid (namesB_bad hlt (by rw [h1]; rfl))
          have H1 := Lib.hid h1
          clear h1 hkl
          go_wp2_with (go_at_call 110; refine (implTagOK_any _ _ hz).mono ?_; rintro e w' ⟨rfl, rfl⟩; rw [H1.out])
          go_ret
          exact ⟨ret_bool HX.out, rfl⟩
        | true =>
          cases h2 : hasM (l.take k) l[k] with
          | true =>
            have HX := Lib.hid (namesB_bad hlt (by rw [h1, h2]; rfl))
            have H1 := Lib.hid h1
            have H2 := Lib.hid h2
            have HKL := Lib.hid hkl
            clear h1 h2 hkl
            go_wp2_with (first | (go_at_call 110; refine (implTagOK_any _ _ hz).mono ?_; rintro e w' ⟨rfl, rfl⟩; rw [H1.out]) | (go_at_call 129; refine (containsM_any (l.take k) _ _ _ k _ HKL.out HT.out).mono ?_; rintro e w' ⟨rfl, rfl⟩; rw [H2.out]))
            go_ret
            exact ⟨ret_bool HX.out, rfl⟩
          | false =>
            have HX := Lib.hid (show nmGo l (k + 1) = true by rw [nmGo_succ hlt, HA.out, h1, h2]; rfl)
            have H1 := Lib.hid h1
            have H2 := Lib.hid h2
            have HKL := Lib.hid hkl
            clear h1 h2 hkl
            go_wp2_with (first | (go_at_call 110; refine (implTagOK_any _ _ hz).mono ?_; rintro e w' ⟨rfl, rfl⟩; rw [H1.out]) | (go_at_call 129; refine (containsM_any (l.take k) _ _ _ k _ HKL.out HT.out).mono ?_; rintro e w' ⟨rfl, rfl⟩; rw [H2.out]))
            go_round
            case rel => exact ⟨k + 1, by omega, by go_num, HX⟩
            case measure => simp [intOf]; omega
      · obtain rfl : k = l.length := by omega
        have HX : Hid (true = namesB l) := Lib.hid (by rw [namesB, HA.out]; simpa using h10)
        go_wp2
        go_ret
        exact ⟨ret_bool HX.out, rfl⟩
  · unfold maxLen at hl
    have HX : Hid (false = namesB l) := Lib.hid (by simp [namesB, h10])
    go_enter Tryz.func78, Tryz.ntmps78
    go_wp2
    go_ret
    exact ⟨ret_bool HX.out, rfl⟩
/-- it is a rule -/
noncomputable def ruleB (x : Ru) : Bool := (decide (0 ≤ x.1) && decide (x.1 ≤ 2)) && namedB small tagB x.2.1 && namesB x.2.2
theorem l07Rule_any (sp : Int) (n : ByteArray) (al : List ByteArray) (w : World) (A : Option Addr) (c : Nat) (hn : n.size ≤ maxLen) (hlc : al.length ≤ c) (hr : NmIn w A al) :
    Calls Tryz.prog 169 #[.agg #[.int .i64 sp, .string n, .slice A al.length c]] w fun e w' => e = .returned (.bool (ruleB (sp, n, al))) ∧ Below w.heap.size w w' := by
  have hg := (Below.refl w.heap.size w).alloc (Nat.le_refl _) (.cells #[.int .i64 sp, .string n, .slice A al.length c] 106)
  have HN := Lib.hid (hr.next hg)
  have HG := Lib.hid hg
  clear hr hg
  cases h1 : (decide (0 ≤ sp) && decide (sp ≤ 2)) with
  | false =>
    have HX : Hid (ruleB (sp, n, al) = false) := Lib.hid (by simp only [ruleB, h1, Bool.false_and])
    have H1 := Lib.hid h1
    clear h1
    go_enter Tryz.func169, Tryz.ntmps169
    go_wp2_with (go_at_call 186; refine (l01In_any _ _ _ _).mono ?_; rintro e w' ⟨rfl, rfl⟩; rw [H1.out])
    go_ret
    exact ⟨by rw [HX.out]; rfl, HG.out⟩
  | true =>
    cases h2 : namedB small tagB n with
    | false =>
      have HX : Hid (ruleB (sp, n, al) = false) := Lib.hid (by simp only [ruleB, h2, Bool.and_false, Bool.false_and])
      have H1 := Lib.hid h1
      have H2 := Lib.hid h2
      clear h1 h2
      go_enter Tryz.func169, Tryz.ntmps169
      go_wp2_with (first | (go_at_call 186; refine (l01In_any _ _ _ _).mono ?_; rintro e w' ⟨rfl, rfl⟩; rw [H1.out]) | (go_at_call 163; refine (l01Tag_any _ _ hn).mono ?_; rintro e w' ⟨rfl, rfl⟩; rw [H2.out]))
      go_ret
      exact ⟨by rw [HX.out]; rfl, HG.out⟩
    | true =>
      have HX : Hid (ruleB (sp, n, al) = namesB al) := Lib.hid (by simp only [ruleB, h1, h2, Bool.true_and])
      have H1 := Lib.hid h1
      have H2 := Lib.hid h2
      clear h1 h2
      go_enter Tryz.func169, Tryz.ntmps169
      go_wp2_with (first | (go_at_call 186; refine (l01In_any _ _ _ _).mono ?_; rintro e w' ⟨rfl, rfl⟩; rw [H1.out]) | (go_at_call 163; refine (l01Tag_any _ _ hn).mono ?_; rintro e w' ⟨rfl, rfl⟩; rw [H2.out]) | (go_at_call 115; refine (l07Names_any al _ A c hlc HN.out).mono ?_; rintro e w' ⟨rfl, hB⟩; have HB := Lib.hid hB; clear hB))
      go_ret
      exact ⟨by rw [HX.out]; rfl, HG.out.trans (HB.out.mono HG.out.size)⟩
theorem implRuleOK_any (sp : Int) (n : ByteArray) (al : List ByteArray) (w : World) (A : Option Addr) (c : Nat) (hn : n.size ≤ maxLen) (hlc : al.length ≤ c) (hr : NmIn w A al) :
    Calls Tryz.prog 175 #[.agg #[.int .i64 sp, .string n, .slice A al.length c]] w fun e w' => e = .returned (.bool (ruleB (sp, n, al))) ∧ Below w.heap.size w w' := by
  have hg := (Below.refl w.heap.size w).alloc (Nat.le_refl _) (.cells #[.int .i64 sp, .string n, .slice A al.length c] 106)
  have HN := Lib.hid (hr.next hg)
  have HG := Lib.hid hg
  clear hr hg
  cases h1 : (decide (0 ≤ sp) && decide (sp ≤ 2)) with
  | false =>
    have HX : Hid (ruleB (sp, n, al) = false) := Lib.hid (by simp only [ruleB, h1, Bool.false_and])
    have H1 := Lib.hid h1
    clear h1
    go_enter Tryz.func175, Tryz.ntmps175
    go_wp2_with (go_at_call 171; refine (isSpace_any _ _).mono ?_; rintro e w' ⟨rfl, rfl⟩; rw [H1.out])
    go_ret
    exact ⟨by rw [HX.out]; rfl, HG.out⟩
  | true =>
    cases h2 : namedB small tagB n with
    | false =>
      have HX : Hid (ruleB (sp, n, al) = false) := Lib.hid (by simp only [ruleB, h2, Bool.and_false, Bool.false_and])
      have H1 := Lib.hid h1
      have H2 := Lib.hid h2
      clear h1 h2
      go_enter Tryz.func175, Tryz.ntmps175
      go_wp2_with (first | (go_at_call 171; refine (isSpace_any _ _).mono ?_; rintro e w' ⟨rfl, rfl⟩; rw [H1.out]) | (go_at_call 110; refine (implTagOK_any _ _ hn).mono ?_; rintro e w' ⟨rfl, rfl⟩; rw [H2.out]))
      go_ret
      exact ⟨by rw [HX.out]; rfl, HG.out⟩
    | true =>
      have HX : Hid (ruleB (sp, n, al) = namesB al) := Lib.hid (by simp only [ruleB, h1, h2, Bool.true_and])
      have H1 := Lib.hid h1
      have H2 := Lib.hid h2
      clear h1 h2
      go_enter Tryz.func175, Tryz.ntmps175
      go_wp2_with (first | (go_at_call 171; refine (isSpace_any _ _).mono ?_; rintro e w' ⟨rfl, rfl⟩; rw [H1.out]) | (go_at_call 110; refine (implTagOK_any _ _ hn).mono ?_; rintro e w' ⟨rfl, rfl⟩; rw [H2.out]) | (go_at_call 78; refine (namesOK_any al _ A c hlc HN.out).mono ?_; rintro e w' ⟨rfl, rfl⟩))
      go_ret
      exact ⟨by rw [HX.out]; rfl, HG.out⟩
end Go.Proofs.YthdkkpbhijlpaaaGreat
