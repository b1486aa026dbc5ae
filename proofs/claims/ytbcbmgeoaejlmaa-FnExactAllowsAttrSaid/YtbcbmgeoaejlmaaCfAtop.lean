
import Derived.Test.YtbcbmgeoaejlmaaCfAts
import Derived.Test.YtbcbmgeoaejlmaaAttrs
import Derived.Test.YtbcbmgeoaejlmaaGood
namespace Go.Proofs.Ytbcbmgeoaejlmaa
open Go.ChangeShapes Go.WideShapes Go.ChangeAt Go.RowKit Go.Deep Go.Maps

/-- what is answered of an attribute, and the code beside it -/
noncomputable def askAtt (X : Cf) (sp : Int) (n an av : ByteArray) : Bool := if cfAsk X sp n = 0 then (if attrB (an, av) = true then attA X sp n an av else false) else false
noncomputable def codeAtt (X : Cf) (sp : Int) (n an av : ByteArray) : Int := if cfAsk X sp n = 0 then (if attrB (an, av) = true then 0 else 1) else cfAsk X sp n
theorem attr_small {an av : ByteArray} (h : attrB (an, av) = true) : an.size ≤ 65536 ∧ av.size ≤ 65536 := by
  have h := (attrB_iff (an, av)).1 h
  obtain ⟨h1, h2⟩ := h
  have h1 : Named small tagB an := by simpa [namedB] using h1
  obtain ⟨_, h3, _⟩ := h1
  have h2 : av.size ≤ 40 := h2
  exact ⟨by omega, by omega⟩
theorem alB_one (an av : ByteArray) : alB [(an, av)] = attrB (an, av) := by
  rw [Bool.eq_iff_iff, attrB_iff]
  simp only [alB, decide_eq_true_eq]
  constructor
  · intro h; exact (h.2 0 (by simp) (by simp)).1
  · intro h; refine ⟨by simp, fun i hi _ => ?_⟩
    obtain rfl : i = 0 := by simpa using hi
    exact ⟨h, fun j hj => absurd hj (Nat.not_lt_zero _)⟩
theorem l03Attrs_one (an av : ByteArray) (w : World) (g : Nat) (c : Nat) (h1 : an.size ≤ maxLen) (h2 : av.size ≤ maxLen) (h3 : w.cell? ⟨g, 0, none⟩ = some (.string an)) (h4 : w.cell? ⟨g, 1, none⟩ = some (.string av)) :
    Calls Try.prog 63 #[.slice (some ⟨g, 0, none⟩) 1 c] w fun e w' => e = .returned (.bool (attrB (an, av))) ∧ Below w.heap.size w w' := by
  have := l03Attrs_any [(an, av)] w (some ⟨g, 0, none⟩) c g 0 0 w.heap.size ⟨by simp [maxLen], fun _ => ⟨rfl, Nat.zero_le _, World.block_lt_of_cell? w _ h3⟩⟩ (Nat.le_refl _) ⟨h3, h4, h1, h2, trivial⟩
  rw [alB_one] at this
  exact this

set_option maxHeartbeats 4000000 in
theorem implAttr_any (X : Cf) (V : CfV) (sp : Int) (n an av : ByteArray) (w : World) (hn : n.size ≤ maxLen) (h1 : an.size ≤ maxLen) (h2 : av.size ≤ maxLen) (h : CfIn w X V) :
    Calls Try.prog 20 #[.agg #[.bool X.ha, .bool X.hb, .slice V.a1 X.al.length V.c1, .slice V.a2 X.rm.length V.c2, .slice V.a3 X.uw.length V.c3, .slice V.a4 X.at_.length V.c4, .slice V.a5 X.dp.length V.c5, .bool X.cm, .bool X.da], .int .i64 sp, .string n, .agg #[.string an, .string av]] w fun e w' => e = .returned (.tuple #[.bool (askAtt X sp n an av), .int .i64 (codeAtt X sp n an av)]) ∧ Below w.heap.size w w' := by
  have HN := Lib.hid (And.intro hn (And.intro h1 h2))
  have HX := Lib.hid (AttBox.new h 34 36 an av)
  clear h
  obtain ⟨p0, p1, p2, p3, p4, p5, p6, p7, p8⟩ := lay9 HX.out.1.1
  obtain ⟨s0, s1⟩ := lay2u HX.out.2.1
  by_cases hc : cfAsk X sp n = 0
  · have HC := Lib.hid hc
    cases ha : attrB (an, av) with
    | false =>
      have HA := Lib.hid ha
      have HM : Hid (askAtt X sp n an av = false ∧ codeAtt X sp n an av = 1) := Lib.hid ⟨by rw [askAtt, if_pos hc, ha]; rfl, by rw [codeAtt, if_pos hc, ha]; rfl⟩
      clear hc ha
      go_enter Try.func20, Try.ntmps20
      go_wp2_with fail
      refine (elementFault_any X V sp n _ HN.out.1 HX.out.1.2.1).mono ?_
      rintro e w1 ⟨rfl, hB⟩
      rw [HC.out]
      have HX := Lib.hid (HX.out.next hB)
      clear hB p0 p1 p2 p3 p4 p5 p6 p7 p8 s0 s1
      obtain ⟨p0, p1, p2, p3, p4, p5, p6, p7, p8⟩ := lay9 HX.out.1.1
      obtain ⟨s0, s1⟩ := lay2u HX.out.2.1
      go_wp2_with fail
      refine (attrOK_any (an, av) _ HN.out.2.1 HN.out.2.2).mono ?_
      rintro e w1 ⟨rfl, hB⟩
      rw [HA.out]
      have HX := Lib.hid (HX.out.next hB)
      clear hB p0 p1 p2 p3 p4 p5 p6 p7 p8 s0 s1
      obtain ⟨p0, p1, p2, p3, p4, p5, p6, p7, p8⟩ := lay9 HX.out.1.1
      obtain ⟨s0, s1⟩ := lay2u HX.out.2.1
      go_wp2
      all_goals (go_ret2; exact ⟨by rw [HM.out.1, HM.out.2]; try rfl, HX.out.1.2.2.1⟩)
    | true =>
      have HA := Lib.hid ha
      have HM : Hid (askAtt X sp n an av = attA X sp n an av ∧ codeAtt X sp n an av = 0) := Lib.hid ⟨by rw [askAtt, if_pos hc, ha]; rfl, by rw [codeAtt, if_pos hc, ha]; rfl⟩
      clear hc ha
      go_enter Try.func20, Try.ntmps20
      go_wp2_with fail
      refine (elementFault_any X V sp n _ HN.out.1 HX.out.1.2.1).mono ?_
      rintro e w1 ⟨rfl, hB⟩
      rw [HC.out]
      have HX := Lib.hid (HX.out.next hB)
      clear hB p0 p1 p2 p3 p4 p5 p6 p7 p8 s0 s1
      obtain ⟨p0, p1, p2, p3, p4, p5, p6, p7, p8⟩ := lay9 HX.out.1.1
      obtain ⟨s0, s1⟩ := lay2u HX.out.2.1
      go_wp2_with fail
      refine (attrOK_any (an, av) _ HN.out.2.1 HN.out.2.2).mono ?_
      rintro e w1 ⟨rfl, hB⟩
      rw [HA.out]
      have HX := Lib.hid (HX.out.next hB)
      clear hB p0 p1 p2 p3 p4 p5 p6 p7 p8 s0 s1
      obtain ⟨p0, p1, p2, p3, p4, p5, p6, p7, p8⟩ := lay9 HX.out.1.1
      obtain ⟨s0, s1⟩ := lay2u HX.out.2.1
      go_wp2_with fail
      refine (allowsAttr_any X V sp n an av _ (cfAsk_ok HC.out).2.1 (cfAsk_ok HC.out).2.2 HN.out.1 HN.out.2.1 HN.out.2.2 HX.out.1.2.1 (cfOK_lists (checkOf_ok (cfAsk_ok HC.out).1)).1).mono ?_
      rintro e w1 ⟨rfl, hB⟩
      have HX := Lib.hid (HX.out.next hB)
      clear hB p0 p1 p2 p3 p4 p5 p6 p7 p8 s0 s1
      obtain ⟨p0, p1, p2, p3, p4, p5, p6, p7, p8⟩ := lay9 HX.out.1.1
      obtain ⟨s0, s1⟩ := lay2u HX.out.2.1
      go_wp2
      all_goals (go_ret2; exact ⟨by rw [HM.out.1, HM.out.2]; try rfl, HX.out.1.2.2.1⟩)
  · obtain ⟨cd, hcd⟩ : ∃ cd, cfAsk X sp n = cd := ⟨_, rfl⟩
    have HM : Hid (askAtt X sp n an av = false ∧ codeAtt X sp n an av = cd) := Lib.hid ⟨by rw [askAtt, if_neg hc], by rw [codeAtt, if_neg hc, hcd]⟩
    have HC := Lib.hid hcd
    rw [hcd] at hc
    clear hcd
    go_enter Try.func20, Try.ntmps20
    go_wp2_with fail
    refine (elementFault_any X V sp n _ HN.out.1 HX.out.1.2.1).mono ?_
    rintro e w1 ⟨rfl, hB⟩
    rw [HC.out]
    have HX := Lib.hid (HX.out.next hB)
    clear hB p0 p1 p2 p3 p4 p5 p6 p7 p8 s0 s1
    obtain ⟨p0, p1, p2, p3, p4, p5, p6, p7, p8⟩ := lay9 HX.out.1.1
    obtain ⟨s0, s1⟩ := lay2u HX.out.2.1
    go_wp2
    all_goals (go_ret2; exact ⟨by rw [HM.out.1, HM.out.2]; try rfl, HX.out.1.2.2.1⟩)

set_option maxHeartbeats 4000000 in
theorem specAttr_any (X : Cf) (V : CfV) (sp : Int) (n an av : ByteArray) (w : World) (hn : n.size ≤ maxLen) (h1 : an.size ≤ maxLen) (h2 : av.size ≤ maxLen) (h : CfIn w X V) :
    Calls Try.prog 17 #[.agg #[.bool X.ha, .bool X.hb, .slice V.a1 X.al.length V.c1, .slice V.a2 X.rm.length V.c2, .slice V.a3 X.uw.length V.c3, .slice V.a4 X.at_.length V.c4, .slice V.a5 X.dp.length V.c5, .bool X.cm, .bool X.da], .int .i64 sp, .string n, .agg #[.string an, .string av]] w fun e w' => e = .returned (.tuple #[.bool (askAtt X sp n an av), .int .i64 (codeAtt X sp n an av)]) ∧ Below w.heap.size w w' := by
  have HN := Lib.hid (And.intro hn (And.intro h1 h2))
  have HX := Lib.hid (AttBox.new h 34 36 an av)
  clear h
  obtain ⟨p0, p1, p2, p3, p4, p5, p6, p7, p8⟩ := lay9 HX.out.1.1
  obtain ⟨s0, s1⟩ := lay2u HX.out.2.1
  by_cases hl : (65536 : Int) < n.size
  · have HA : Hid (cfAsk X sp n = 2) := Lib.hid (by rw [cfAsk, if_pos hl])
    have HM : Hid (askAtt X sp n an av = false ∧ codeAtt X sp n an av = 2) := Lib.hid ⟨by rw [askAtt, HA.out]; rfl, by rw [codeAtt, HA.out]; rfl⟩
    go_enter Try.func17, Try.ntmps17
    go_wp2
    all_goals (go_ret2; exact ⟨by rw [HM.out.1, HM.out.2]; try rfl, HX.out.1.2.2.1⟩)
  · by_cases hc : cfAsk X sp n = 0
    · have HC := Lib.hid hc
      cases ha : attrB (an, av) with
      | false =>
        have HA := Lib.hid ha
        have HM : Hid (askAtt X sp n an av = false ∧ codeAtt X sp n an av = 1) := Lib.hid ⟨by rw [askAtt, if_pos hc, ha]; rfl, by rw [codeAtt, if_pos hc, ha]; rfl⟩
        clear hc ha
        go_enter Try.func17, Try.ntmps17
        go_wp2_with fail
        refine (l07AskName_any X V sp n _ HN.out.1 HX.out.1.2.1).mono ?_
        rintro e w1 ⟨rfl, hB⟩
        rw [HC.out]
        have HX := Lib.hid (HX.out.next hB)
        clear hB p0 p1 p2 p3 p4 p5 p6 p7 p8 s0 s1
        obtain ⟨p0, p1, p2, p3, p4, p5, p6, p7, p8⟩ := lay9 HX.out.1.1
        obtain ⟨s0, s1⟩ := lay2u HX.out.2.1
        go_wp2_with fail
        refine (l03Attrs_one an av _ _ _ HN.out.2.1 HN.out.2.2 (new_cell rfl) (new_cell rfl)).mono ?_
        rintro e w1 ⟨rfl, hB⟩
        rw [HA.out]
        have HX := Lib.hid ((HX.out.next ((Below.refl _ _).alloc (Nat.le_refl _) (.cells #[.string an, .string av] 36))).next hB)
        clear hB p0 p1 p2 p3 p4 p5 p6 p7 p8 s0 s1
        obtain ⟨p0, p1, p2, p3, p4, p5, p6, p7, p8⟩ := lay9 HX.out.1.1
        obtain ⟨s0, s1⟩ := lay2u HX.out.2.1
        go_wp2
        all_goals (go_ret2; exact ⟨by rw [HM.out.1, HM.out.2]; try rfl, HX.out.1.2.2.1⟩)
      | true =>
        have HA := Lib.hid ha
        have HM : Hid (askAtt X sp n an av = attA X sp n an av ∧ codeAtt X sp n an av = 0) := Lib.hid ⟨by rw [askAtt, if_pos hc, ha]; rfl, by rw [codeAtt, if_pos hc, ha]; rfl⟩
        clear hc ha
        go_enter Try.func17, Try.ntmps17
        go_wp2_with fail
        refine (l07AskName_any X V sp n _ HN.out.1 HX.out.1.2.1).mono ?_
        rintro e w1 ⟨rfl, hB⟩
        rw [HC.out]
        have HX := Lib.hid (HX.out.next hB)
        clear hB p0 p1 p2 p3 p4 p5 p6 p7 p8 s0 s1
        obtain ⟨p0, p1, p2, p3, p4, p5, p6, p7, p8⟩ := lay9 HX.out.1.1
        obtain ⟨s0, s1⟩ := lay2u HX.out.2.1
        go_wp2_with fail
        refine (l03Attrs_one an av _ _ _ HN.out.2.1 HN.out.2.2 (new_cell rfl) (new_cell rfl)).mono ?_
        rintro e w1 ⟨rfl, hB⟩
        rw [HA.out]
        have HX := Lib.hid ((HX.out.next ((Below.refl _ _).alloc (Nat.le_refl _) (.cells #[.string an, .string av] 36))).next hB)
        clear hB p0 p1 p2 p3 p4 p5 p6 p7 p8 s0 s1
        obtain ⟨p0, p1, p2, p3, p4, p5, p6, p7, p8⟩ := lay9 HX.out.1.1
        obtain ⟨s0, s1⟩ := lay2u HX.out.2.1
        go_wp2_with fail
        refine (l07Attr_any X V sp n an av _ (attr_small HA.out).1 (attr_small HA.out).2 HX.out.1.2.1).mono ?_
        rintro e w1 ⟨rfl, hB⟩
        have HX := Lib.hid (HX.out.next hB)
        clear hB p0 p1 p2 p3 p4 p5 p6 p7 p8 s0 s1
        obtain ⟨p0, p1, p2, p3, p4, p5, p6, p7, p8⟩ := lay9 HX.out.1.1
        obtain ⟨s0, s1⟩ := lay2u HX.out.2.1
        go_wp2
        all_goals (go_ret2; exact ⟨by rw [HM.out.1, HM.out.2]; try rfl, HX.out.1.2.2.1⟩)
    · obtain ⟨cd, hcd⟩ : ∃ cd, cfAsk X sp n = cd := ⟨_, rfl⟩
      have HM : Hid (askAtt X sp n an av = false ∧ codeAtt X sp n an av = cd) := Lib.hid ⟨by rw [askAtt, if_neg hc], by rw [codeAtt, if_neg hc, hcd]⟩
      have HC := Lib.hid hcd
      rw [hcd] at hc
      clear hcd
      go_enter Try.func17, Try.ntmps17
      go_wp2_with fail
      refine (l07AskName_any X V sp n _ HN.out.1 HX.out.1.2.1).mono ?_
      rintro e w1 ⟨rfl, hB⟩
      rw [HC.out]
      have HX := Lib.hid (HX.out.next hB)
      clear hB p0 p1 p2 p3 p4 p5 p6 p7 p8 s0 s1
      obtain ⟨p0, p1, p2, p3, p4, p5, p6, p7, p8⟩ := lay9 HX.out.1.1
      obtain ⟨s0, s1⟩ := lay2u HX.out.2.1
      go_wp2
      all_goals (go_ret2; exact ⟨by rw [HM.out.1, HM.out.2]; try rfl, HX.out.1.2.2.1⟩)
end Go.Proofs.Ytbcbmgeoaejlmaa
