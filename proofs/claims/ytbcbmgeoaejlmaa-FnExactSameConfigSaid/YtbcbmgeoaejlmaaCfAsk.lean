
import Derived.Test.YtbcbmgeoaejlmaaCfG
namespace Go.Proofs.Ytbcbmgeoaejlmaa
open Go.ChangeShapes Go.WideShapes Go.ChangeAt Go.RowKit Go.Deep Go.Maps

theorem checkOf_is (X : Cf) : checkOf X = 0 ∨ checkOf X = 1 ∨ checkOf X = 13 := by
  unfold checkOf
  split
  · split
    · exact Or.inr (Or.inr rfl)
    · exact Or.inl rfl
  · exact Or.inr (Or.inl rfl)
theorem checkOf_ok {X : Cf} (h : checkOf X = 0) : cfOK X = true := by
  unfold checkOf at h
  split at h
  · assumption
  · cases h
theorem cfOK_lists {X : Cf} (h : cfOK X = true) : rulesB true X.al = true ∧ rulesB false X.rm = true ∧ rulesB false X.uw = true := by
  unfold cfOK at h
  simp only [Bool.and_eq_true] at h
  exact ⟨h.1.1.1.1, h.1.1.1.2, h.1.1.2⟩
/-- the code of a configuration and an element -/
noncomputable def cfAsk (X : Cf) (sp : Int) (n : ByteArray) : Int :=
  if (65536 : Int) < n.size then 2 else if checkOf X = 0 then (if (decide (0 ≤ sp) && decide (sp ≤ 2)) = true then (if namedB small tagB n = true then 0 else 10) else 4) else checkOf X
theorem cfAsk_ok {X : Cf} {sp : Int} {n : ByteArray} (h : cfAsk X sp n = 0) : checkOf X = 0 ∧ 0 ≤ sp ∧ sp ≤ 2 := by
  unfold cfAsk at h
  split at h
  · cases h
  · split at h
    · split at h
      · rename_i hq
        simp only [Bool.and_eq_true, decide_eq_true_eq] at hq
        exact ⟨by assumption, hq.1, hq.2⟩
      · cases h
    · exact absurd h (by assumption)

set_option maxHeartbeats 2000000 in
theorem elementFault_any (X : Cf) (V : CfV) (sp : Int) (n : ByteArray) (w : World) (hn : n.size ≤ maxLen) (h : CfIn w X V) :
    Calls Try.prog 67 #[.agg #[.bool X.ha, .bool X.hb, .slice V.a1 X.al.length V.c1, .slice V.a2 X.rm.length V.c2, .slice V.a3 X.uw.length V.c3, .slice V.a4 X.at_.length V.c4, .slice V.a5 X.dp.length V.c5, .bool X.cm, .bool X.da], .int .i64 sp, .string n] w fun e w' => e = .returned (.int .i64 (cfAsk X sp n)) ∧ Below w.heap.size w w' := by
  have HX := Lib.hid h
  clear h
  by_cases hl : (65536 : Int) < n.size
  · have HM : Hid (cfAsk X sp n = 2) := Lib.hid (by rw [cfAsk, if_pos hl])
    go_enter Try.func67, Try.ntmps67
    go_wp2
    all_goals (go_ret; exact ⟨by rw [HM.out]; rfl, by go_grown⟩)
  · rcases checkOf_is X with hc | hc | hc
    · have HC := Lib.hid hc
      cases hs : decide (0 ≤ sp) && decide (sp ≤ 2) with
      | false =>
        have HS := Lib.hid hs
        have HM : Hid (cfAsk X sp n = 4) := Lib.hid (by rw [cfAsk, if_neg hl, if_pos hc, hs]; rfl)
        clear hc hs
        go_enter Try.func67, Try.ntmps67
        go_wp2_with fail
        refine (implCheck_any X V _ (HX.out.next (by first | exact Below.refl _ _ | go_grown))).mono ?_
        rintro e w1 ⟨rfl, hB⟩
        rw [HC.out]
        have HB := Lib.hid hB
        clear hB
        go_wp2_with fail
        refine (isSpace_any sp _).mono ?_
        rintro e w2 ⟨rfl, rfl⟩
        rw [HS.out]
        go_wp2
        go_ret
        exact ⟨by rw [HM.out]; rfl, by first | exact HB.out | exact Below.trans (by go_grown) (HB.out.mono (by simp))⟩
      | true =>
        have HS := Lib.hid hs
        cases ht : namedB small tagB n with
        | false =>
          have HT := Lib.hid ht
          have HM : Hid (cfAsk X sp n = 10) := Lib.hid (by rw [cfAsk, if_neg hl, if_pos hc, hs, ht]; rfl)
          clear hc hs ht
          go_enter Try.func67, Try.ntmps67
          go_wp2_with fail
          refine (implCheck_any X V _ (HX.out.next (by first | exact Below.refl _ _ | go_grown))).mono ?_
          rintro e w1 ⟨rfl, hB⟩
          rw [HC.out]
          have HB := Lib.hid hB
          clear hB
          go_wp2_with fail
          refine (isSpace_any sp _).mono ?_
          rintro e w2 ⟨rfl, rfl⟩
          rw [HS.out]
          go_wp2_with fail
          refine (implTagOK_any n _ hn).mono ?_
          rintro e w3 ⟨rfl, rfl⟩
          rw [HT.out]
          go_wp2
          go_ret
          exact ⟨by rw [HM.out]; rfl, by first | exact HB.out | exact Below.trans (by go_grown) (HB.out.mono (by simp))⟩
        | true =>
          have HT := Lib.hid ht
          have HM : Hid (cfAsk X sp n = 0) := Lib.hid (by rw [cfAsk, if_neg hl, if_pos hc, hs, ht]; rfl)
          clear hc hs ht
          go_enter Try.func67, Try.ntmps67
          go_wp2_with fail
          refine (implCheck_any X V _ (HX.out.next (by first | exact Below.refl _ _ | go_grown))).mono ?_
          rintro e w1 ⟨rfl, hB⟩
          rw [HC.out]
          have HB := Lib.hid hB
          clear hB
          go_wp2_with fail
          refine (isSpace_any sp _).mono ?_
          rintro e w2 ⟨rfl, rfl⟩
          rw [HS.out]
          go_wp2_with fail
          refine (implTagOK_any n _ hn).mono ?_
          rintro e w3 ⟨rfl, rfl⟩
          rw [HT.out]
          go_wp2
          go_ret
          exact ⟨by rw [HM.out]; rfl, by first | exact HB.out | exact Below.trans (by go_grown) (HB.out.mono (by simp))⟩
    · have HC := Lib.hid hc
      have HM : Hid (cfAsk X sp n = 1) := Lib.hid (by rw [cfAsk, if_neg hl, hc]; rfl)
      clear hc
      go_enter Try.func67, Try.ntmps67
      go_wp2_with fail
      refine (implCheck_any X V _ (HX.out.next (by first | exact Below.refl _ _ | go_grown))).mono ?_
      rintro e w1 ⟨rfl, hB⟩
      rw [HC.out]
      have HB := Lib.hid hB
      clear hB
      go_wp2
      go_ret
      exact ⟨by rw [HM.out]; rfl, by first | exact HB.out | exact Below.trans (by go_grown) (HB.out.mono (by simp))⟩
    · have HC := Lib.hid hc
      have HM : Hid (cfAsk X sp n = 13) := Lib.hid (by rw [cfAsk, if_neg hl, hc]; rfl)
      clear hc
      go_enter Try.func67, Try.ntmps67
      go_wp2_with fail
      refine (implCheck_any X V _ (HX.out.next (by first | exact Below.refl _ _ | go_grown))).mono ?_
      rintro e w1 ⟨rfl, hB⟩
      rw [HC.out]
      have HB := Lib.hid hB
      clear hB
      go_wp2
      go_ret
      exact ⟨by rw [HM.out]; rfl, by first | exact HB.out | exact Below.trans (by go_grown) (HB.out.mono (by simp))⟩
set_option maxHeartbeats 2000000 in
theorem l07AskName_any (X : Cf) (V : CfV) (sp : Int) (n : ByteArray) (w : World) (hn : n.size ≤ maxLen) (h : CfIn w X V) :
    Calls Try.prog 62 #[.agg #[.bool X.ha, .bool X.hb, .slice V.a1 X.al.length V.c1, .slice V.a2 X.rm.length V.c2, .slice V.a3 X.uw.length V.c3, .slice V.a4 X.at_.length V.c4, .slice V.a5 X.dp.length V.c5, .bool X.cm, .bool X.da], .int .i64 sp, .string n] w fun e w' => e = .returned (.int .i64 (cfAsk X sp n)) ∧ Below w.heap.size w w' := by
  have HX := Lib.hid h
  clear h
  by_cases hl : (65536 : Int) < n.size
  · have HM : Hid (cfAsk X sp n = 2) := Lib.hid (by rw [cfAsk, if_pos hl])
    go_enter Try.func62, Try.ntmps62
    go_wp2
    all_goals (go_ret; exact ⟨by rw [HM.out]; rfl, by go_grown⟩)
  · rcases checkOf_is X with hc | hc | hc
    · have HC := Lib.hid hc
      cases hs : decide (0 ≤ sp) && decide (sp ≤ 2) with
      | false =>
        have HS := Lib.hid hs
        have HM : Hid (cfAsk X sp n = 4) := Lib.hid (by rw [cfAsk, if_neg hl, if_pos hc, hs]; rfl)
        clear hc hs
        go_enter Try.func62, Try.ntmps62
        go_wp2_with fail
        refine (l07Check_any X V _ (HX.out.next (by first | exact Below.refl _ _ | go_grown))).mono ?_
        rintro e w1 ⟨rfl, hB⟩
        rw [HC.out]
        have HB := Lib.hid hB
        clear hB
        go_wp2_with fail
        refine (l01In_any sp 0 2 _).mono ?_
        rintro e w2 ⟨rfl, rfl⟩
        rw [HS.out]
        go_wp2
        go_ret
        exact ⟨by rw [HM.out]; rfl, by first | exact HB.out | exact Below.trans (by go_grown) (HB.out.mono (by simp))⟩
      | true =>
        have HS := Lib.hid hs
        cases ht : namedB small tagB n with
        | false =>
          have HT := Lib.hid ht
          have HM : Hid (cfAsk X sp n = 10) := Lib.hid (by rw [cfAsk, if_neg hl, if_pos hc, hs, ht]; rfl)
          clear hc hs ht
          go_enter Try.func62, Try.ntmps62
          go_wp2_with fail
          refine (l07Check_any X V _ (HX.out.next (by first | exact Below.refl _ _ | go_grown))).mono ?_
          rintro e w1 ⟨rfl, hB⟩
          rw [HC.out]
          have HB := Lib.hid hB
          clear hB
          go_wp2_with fail
          refine (l01In_any sp 0 2 _).mono ?_
          rintro e w2 ⟨rfl, rfl⟩
          rw [HS.out]
          go_wp2_with fail
          refine (l01Tag_any n _ hn).mono ?_
          rintro e w3 ⟨rfl, rfl⟩
          rw [HT.out]
          go_wp2
          go_ret
          exact ⟨by rw [HM.out]; rfl, by first | exact HB.out | exact Below.trans (by go_grown) (HB.out.mono (by simp))⟩
        | true =>
          have HT := Lib.hid ht
          have HM : Hid (cfAsk X sp n = 0) := Lib.hid (by rw [cfAsk, if_neg hl, if_pos hc, hs, ht]; rfl)
          clear hc hs ht
          go_enter Try.func62, Try.ntmps62
          go_wp2_with fail
          refine (l07Check_any X V _ (HX.out.next (by first | exact Below.refl _ _ | go_grown))).mono ?_
          rintro e w1 ⟨rfl, hB⟩
          rw [HC.out]
          have HB := Lib.hid hB
          clear hB
          go_wp2_with fail
          refine (l01In_any sp 0 2 _).mono ?_
          rintro e w2 ⟨rfl, rfl⟩
          rw [HS.out]
          go_wp2_with fail
          refine (l01Tag_any n _ hn).mono ?_
          rintro e w3 ⟨rfl, rfl⟩
          rw [HT.out]
          go_wp2
          go_ret
          exact ⟨by rw [HM.out]; rfl, by first | exact HB.out | exact Below.trans (by go_grown) (HB.out.mono (by simp))⟩
    · have HC := Lib.hid hc
      have HM : Hid (cfAsk X sp n = 1) := Lib.hid (by rw [cfAsk, if_neg hl, hc]; rfl)
      clear hc
      go_enter Try.func62, Try.ntmps62
      go_wp2_with fail
      refine (l07Check_any X V _ (HX.out.next (by first | exact Below.refl _ _ | go_grown))).mono ?_
      rintro e w1 ⟨rfl, hB⟩
      rw [HC.out]
      have HB := Lib.hid hB
      clear hB
      go_wp2
      go_ret
      exact ⟨by rw [HM.out]; rfl, by first | exact HB.out | exact Below.trans (by go_grown) (HB.out.mono (by simp))⟩
    · have HC := Lib.hid hc
      have HM : Hid (cfAsk X sp n = 13) := Lib.hid (by rw [cfAsk, if_neg hl, hc]; rfl)
      clear hc
      go_enter Try.func62, Try.ntmps62
      go_wp2_with fail
      refine (l07Check_any X V _ (HX.out.next (by first | exact Below.refl _ _ | go_grown))).mono ?_
      rintro e w1 ⟨rfl, hB⟩
      rw [HC.out]
      have HB := Lib.hid hB
      clear hB
      go_wp2
      go_ret
      exact ⟨by rw [HM.out]; rfl, by first | exact HB.out | exact Below.trans (by go_grown) (HB.out.mono (by simp))⟩
end Go.Proofs.Ytbcbmgeoaejlmaa
