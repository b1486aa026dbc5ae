import Derived.Test.YthdkkpbhijlpaaaGreatS39
import Derived.Test.YthdkkpbhijlpaaaGreatS40
import Derived.Test.YthdkkpbhijlpaaaGreatS41
import Derived.Test.YthdkkpbhijlpaaaGreatS30
import Derived.Test.YthdkkpbhijlpaaaGreatS33
import Derived.Test.YthdkkpbhijlpaaaGreatS19
import Derived.Test.YthdkkpbhijlpaaaGreatS22
set_option linter.unusedVariables false
namespace Go.Proofs.YthdkkpbhijlpaaaGreat
open Go.ChangeShapes Go.WideShapes Go.ChangeAt Go.RowKit Go.Deep

theorem NmIn.fit {w : World} {A : Option Addr} {l : List ByteArray} (h : NmIn w A l) : nmSafe l := ⟨h.1, fun t ht => by
  obtain ⟨k, hk, rfl⟩ := List.getElem_of_mem ht
  obtain ⟨_, _, _, _, _, h⟩ := h.get hk
  exact h⟩
theorem RuIn.fit {w : World} {A : Option Addr} {l : List Ru} (h : RuIn w A l) : ruFit l := ⟨h.1, fun t ht => by
  obtain ⟨k, hk, rfl⟩ := List.getElem_of_mem ht
  obtain ⟨_, _, _, _, _, _, hz, _, _, _, _, hb⟩ := h.get hk
  exact ⟨hz, hb.fit⟩⟩
theorem CfIn.fit {w : World} {X : Cf} {V : CfV} (h : CfIn w X V) : cfFit X := ⟨h.al.fit, h.rm.fit, h.uw.fit, h.at_.fit, h.dp.fit⟩
/-- a configuration of one's own, all behind block 'base' -/
def CfOwn (w : World) (base : Nat) (X : Cf) (V : CfV) : Prop := CfIn w X V ∧ ∃ K, CfRows w X V K ∧ K.Apart w.heap.size ∧ ∀ k ∈ K.all, base ≤ k
theorem cf_own {w : World} {base : Nat} {X : Cf} {g1 g2 g3 g4 g5 g6 : Nat} (hb : base ≤ g1) (hf : cfFit X) (n1 : RO w g1 g2 X.al) (n2 : RO w g2 g3 X.rm) (n3 : RO w g3 g4 X.uw) (n4 : SO w g4 g5 X.at_) (n5 : SO w g5 g6 X.dp) :
    CfOwn w base X ⟨some ⟨g1, 0, none⟩, X.al.length, some ⟨g2, 0, none⟩, X.rm.length, some ⟨g3, 0, none⟩, X.uw.length, some ⟨g4, 0, none⟩, X.at_.length, some ⟨g5, 0, none⟩, X.dp.length⟩ := by
  obtain ⟨b1, s1, r1, m1⟩ := n1.row
  obtain ⟨b2, s2, r2, m2⟩ := n2.row
  obtain ⟨b3, s3, r3, m3⟩ := n3.row
  have q1 := n1.1
  have q2 := n2.1
  have q3 := n3.1
  have q4 := n4.1
  have q5 := n5.1
  have q6 := n5.2.1
  have e4 : ∀ k, k ∈ [g4] → k = g4 := fun k hk => by simpa using hk
  have e5 : ∀ k, k ∈ [g5] → k = g5 := fun k hk => by simpa using hk
  have hr : CfRows w X ⟨some ⟨g1, 0, none⟩, X.al.length, some ⟨g2, 0, none⟩, X.rm.length, some ⟨g3, 0, none⟩, X.uw.length, some ⟨g4, 0, none⟩, X.at_.length, some ⟨g5, 0, none⟩, X.dp.length⟩ ⟨b1, b2, b3, s1, s2, s3, [g4], [g5]⟩ := ⟨r1, r2, r3, n4.row, n5.row⟩
  refine ⟨hr.in_ hf (Nat.le_refl _) (Nat.le_refl _), _, hr, ⟨?_, ?_, ?_, ?_, ?_, ?_, ?_, ?_, ?_, ?_, ?_, ?_, ?_, ?_, ?_⟩, fun k hk => ?_⟩
  · intro k hk; have := m1 k hk; omega
  · intro k hk; have := m2 k hk; omega
  · intro k hk; have := m3 k hk; omega
  · intro k hk; have := e4 k hk; omega
  · intro k hk; have := e5 k hk; omega
  · intro k hk hk'; have := m1 k hk; have := m2 k hk'; omega
  · intro k hk hk'; have := m1 k hk; have := m3 k hk'; omega
  · intro k hk hk'; have := m1 k hk; have := e4 k hk'; omega
  · intro k hk hk'; have := m1 k hk; have := e5 k hk'; omega
  · intro k hk hk'; have := m2 k hk; have := m3 k hk'; omega
  · intro k hk hk'; have := m2 k hk; have := e4 k hk'; omega
  · intro k hk hk'; have := m2 k hk; have := e5 k hk'; omega
  · intro k hk hk'; have := m3 k hk; have := e4 k hk'; omega
  · intro k hk hk'; have := m3 k hk; have := e5 k hk'; omega
  · intro k hk hk'; have := e4 k hk; have := e5 k hk'; omega
  · simp only [CfB.all, List.mem_append] at hk
    rcases hk with (((hk | hk) | hk) | hk) | hk
    · have := m1 k hk; omega
    · have := m2 k hk; omega
    · have := m3 k hk; omega
    · have := e4 k hk; omega
    · have := e5 k hk; omega
set_option maxHeartbeats 2000000 in
theorem toConfig_W (X : Cf) (V : CfV) (w : World) (hs : cfSize X ≤ 1048576) (h : CfIn w X V) :
    Calls Tryz.prog 12 #[.agg #[.bool X.ha, .bool X.hb, .slice V.a1 X.al.length V.c1, .slice V.a2 X.rm.length V.c2, .slice V.a3 X.uw.length V.c3, .slice V.a4 X.at_.length V.c4, .slice V.a5 X.dp.length V.c5, .bool X.cm, .bool X.da]] w fun e w' => ∃ V' : CfV, e = .returned (.agg #[.bool X.ha, .bool X.hb, .slice V'.a1 X.al.length V'.c1, .slice V'.a2 X.rm.length V'.c2, .slice V'.a3 X.uw.length V'.c3, .slice V'.a4 X.at_.length V'.c4, .slice V'.a5 X.dp.length V'.c5, .bool X.cm, .bool X.da]) ∧ Below w.heap.size w w' ∧ CfOwn w' w.heap.size X V' := by
  have h1 : X.al.length + rusSize X.al ≤ 1048576 := by unfold cfSize at hs; omega
  have h2 : X.rm.length + rusSize X.rm ≤ 1048576 := by unfold cfSize at hs; omega
  have h3 : X.uw.length + rusSize X.uw ≤ 1048576 := by unfold cfSize at hs; omega
  have h4 : X.at_.length ≤ 1048576 := by unfold cfSize at hs; omega
  have h5 : X.dp.length ≤ 1048576 := by unfold cfSize at hs; omega
  have H0 := Lib.hid h
  have HFIT := Lib.hid h.fit
  have HX : Hid (CfT w (((w.alloc (.cells #[.bool X.ha, .bool X.hb, .slice V.a1 X.al.length V.c1, .slice V.a2 X.rm.length V.c2, .slice V.a3 X.uw.length V.c3, .slice V.a4 X.at_.length V.c4, .slice V.a5 X.dp.length V.c5, .bool X.cm, .bool X.da] 26)).alloc (.cells #[.bool false, .bool false, .slice none 0 0, .slice none 0 0, .slice none 0 0, .slice none 0 0, .slice none 0 0, .bool false, .bool false] 35)).alloc (.cells #[.bool X.ha, .bool X.hb, .slice none 0 0, .slice none 0 0, .slice none 0 0, .slice none 0 0, .slice none 0 0, .bool false, .bool false] 35)) #[.bool X.ha, .bool X.hb, .slice none 0 0, .slice none 0 0, .slice none 0 0, .slice none 0 0, .slice none 0 0, .bool false, .bool false] X V) := Lib.hid (by
    obtain ⟨L1, L2, L3, B3⟩ := three_lay (Below.refl (w.heap.size + 1 + 1 + 1) (((w.alloc (.cells #[.bool X.ha, .bool X.hb, .slice V.a1 X.al.length V.c1, .slice V.a2 X.rm.length V.c2, .slice V.a3 X.uw.length V.c3, .slice V.a4 X.at_.length V.c4, .slice V.a5 X.dp.length V.c5, .bool X.cm, .bool X.da] 26)).alloc (.cells #[.bool false, .bool false, .slice none 0 0, .slice none 0 0, .slice none 0 0, .slice none 0 0, .slice none 0 0, .bool false, .bool false] 35)).alloc (.cells #[.bool X.ha, .bool X.hb, .slice none 0 0, .slice none 0 0, .slice none 0 0, .slice none 0 0, .slice none 0 0, .bool false, .bool false] 35)))
    exact ⟨⟨L1, L2, L3⟩, h.next B3, B3, by simp⟩)
  clear h hs
  go_enter Tryz.func12, Tryz.ntmps12
  go_wp2_with fail
  refine (toRuleS_W X.al _ V.a1 V.c1 h1 HX.out.2.1.al).mono ?_
  rintro e w1 ⟨rfl, hB, hM⟩
  simp only [World.size_alloc] at hB hM ⊢
  have HX := Lib.hid (HX.out.next (by simpa using hB))
  have hsz : w.heap.size + 1 + 1 < w1.heap.size := HX.out.2.2.2
  have HSZ1 := Lib.hid hsz
  have N0 := Lib.hid hM
  have HP := HX.out
  have q2 := HP.1.2.2.1 2
  have f2 := HP.1.2.2.2 2
  obtain ⟨p0, p1, p2, p3, p4, p5, p6, p7, p8⟩ := lay9 HP.1.1
  have HX := Lib.hid (HX.out.put H0.out 2 (.slice (some ⟨w.heap.size + 1 + 1 + 1, 0, none⟩) X.al.length X.al.length))
  have N0 := Lib.hid (N0.out.off (b := w.heap.size + 1 + 1) (i := 2) (by omega) (.slice (some ⟨w.heap.size + 1 + 1 + 1, 0, none⟩) X.al.length X.al.length))
  clear hB hM hsz HP
  (try simp at q2)
  go_wp2_with fail
  refine (toRuleS_W X.rm _ V.a2 V.c2 h2 HX.out.2.1.rm).mono ?_
  rintro e w2 ⟨rfl, hB, hM⟩
  simp only [World.size_setCell] at hB hM ⊢
  have HX := Lib.hid (HX.out.next (by simpa using hB))
  have N0 := Lib.hid (N0.out.next (by simpa using hB))
  have hsz : w.heap.size + 1 + 1 < w2.heap.size := HX.out.2.2.2
  have HSZ2 := Lib.hid hsz
  have N1 := Lib.hid hM
  have HP := HX.out
  have q3 := HP.1.2.2.1 3
  have f3 := HP.1.2.2.2 3
  obtain ⟨p0, p1, p2, p3, p4, p5, p6, p7, p8⟩ := lay9 HP.1.1
  have HX := Lib.hid (HX.out.put H0.out 3 (.slice (some ⟨w1.heap.size, 0, none⟩) X.rm.length X.rm.length))
  have N0 := Lib.hid (N0.out.off (b := w.heap.size + 1 + 1) (i := 3) (by omega) (.slice (some ⟨w1.heap.size, 0, none⟩) X.rm.length X.rm.length))
  have N1 := Lib.hid (N1.out.off (b := w.heap.size + 1 + 1) (i := 3) (by have := HSZ1.out; omega) (.slice (some ⟨w1.heap.size, 0, none⟩) X.rm.length X.rm.length))
  clear hB hM hsz HP
  (try simp at q3)
  go_wp2_with fail
  refine (toRuleS_W X.uw _ V.a3 V.c3 h3 HX.out.2.1.uw).mono ?_
  rintro e w3 ⟨rfl, hB, hM⟩
  simp only [World.size_setCell] at hB hM ⊢
  have HX := Lib.hid (HX.out.next (by simpa using hB))
  have N0 := Lib.hid (N0.out.next (by simpa using hB))
  have N1 := Lib.hid (N1.out.next (by simpa using hB))
  have hsz : w.heap.size + 1 + 1 < w3.heap.size := HX.out.2.2.2
  have HSZ3 := Lib.hid hsz
  have N2 := Lib.hid hM
  have HP := HX.out
  have q4 := HP.1.2.2.1 4
  have f4 := HP.1.2.2.2 4
  obtain ⟨p0, p1, p2, p3, p4, p5, p6, p7, p8⟩ := lay9 HP.1.1
  have HX := Lib.hid (HX.out.put H0.out 4 (.slice (some ⟨w2.heap.size, 0, none⟩) X.uw.length X.uw.length))
  have N0 := Lib.hid (N0.out.off (b := w.heap.size + 1 + 1) (i := 4) (by omega) (.slice (some ⟨w2.heap.size, 0, none⟩) X.uw.length X.uw.length))
  have N1 := Lib.hid (N1.out.off (b := w.heap.size + 1 + 1) (i := 4) (by have := HSZ1.out; omega) (.slice (some ⟨w2.heap.size, 0, none⟩) X.uw.length X.uw.length))
  have N2 := Lib.hid (N2.out.off (b := w.heap.size + 1 + 1) (i := 4) (by have := HSZ2.out; omega) (.slice (some ⟨w2.heap.size, 0, none⟩) X.uw.length X.uw.length))
  clear hB hM hsz HP
  (try simp at q4)
  go_wp2_with fail
  refine (toStringS_W X.at_ _ V.a4 V.c4 h4 HX.out.2.1.at_).mono ?_
  rintro e w4 ⟨rfl, hB, hM⟩
  simp only [World.size_setCell] at hB hM ⊢
  have HX := Lib.hid (HX.out.next (by simpa using hB))
  have N0 := Lib.hid (N0.out.next (by simpa using hB))
  have N1 := Lib.hid (N1.out.next (by simpa using hB))
  have N2 := Lib.hid (N2.out.next (by simpa using hB))
  have hsz : w.heap.size + 1 + 1 < w4.heap.size := HX.out.2.2.2
  have HSZ4 := Lib.hid hsz
  have N3 := Lib.hid hM
  have HP := HX.out
  have q5 := HP.1.2.2.1 5
  have f5 := HP.1.2.2.2 5
  obtain ⟨p0, p1, p2, p3, p4, p5, p6, p7, p8⟩ := lay9 HP.1.1
  have HX := Lib.hid (HX.out.put H0.out 5 (.slice (some ⟨w3.heap.size, 0, none⟩) X.at_.length X.at_.length))
  have N0 := Lib.hid (N0.out.off (b := w.heap.size + 1 + 1) (i := 5) (by omega) (.slice (some ⟨w3.heap.size, 0, none⟩) X.at_.length X.at_.length))
  have N1 := Lib.hid (N1.out.off (b := w.heap.size + 1 + 1) (i := 5) (by have := HSZ1.out; omega) (.slice (some ⟨w3.heap.size, 0, none⟩) X.at_.length X.at_.length))
  have N2 := Lib.hid (N2.out.off (b := w.heap.size + 1 + 1) (i := 5) (by have := HSZ2.out; omega) (.slice (some ⟨w3.heap.size, 0, none⟩) X.at_.length X.at_.length))
  have N3 := Lib.hid (N3.out.off (b := w.heap.size + 1 + 1) (i := 5) (by have := HSZ3.out; omega) (.slice (some ⟨w3.heap.size, 0, none⟩) X.at_.length X.at_.length))
  clear hB hM hsz HP
  (try simp at q5)
  go_wp2_with fail
  refine (toStringS_W X.dp _ V.a5 V.c5 h5 HX.out.2.1.dp).mono ?_
  rintro e w5 ⟨rfl, hB, hM⟩
  simp only [World.size_setCell] at hB hM ⊢
  have HX := Lib.hid (HX.out.next (by simpa using hB))
  have N0 := Lib.hid (N0.out.next (by simpa using hB))
  have N1 := Lib.hid (N1.out.next (by simpa using hB))
  have N2 := Lib.hid (N2.out.next (by simpa using hB))
  have N3 := Lib.hid (N3.out.next (by simpa using hB))
  have hsz : w.heap.size + 1 + 1 < w5.heap.size := HX.out.2.2.2
  have HSZ5 := Lib.hid hsz
  have N4 := Lib.hid hM
  have HP := HX.out
  have q6 := HP.1.2.2.1 6
  have f6 := HP.1.2.2.2 6
  obtain ⟨p0, p1, p2, p3, p4, p5, p6, p7, p8⟩ := lay9 HP.1.1
  have q0 := HP.1.2.2.1 0
  have f0 := HP.1.2.2.2 0
  have q1 := HP.1.2.2.1 1
  have f1 := HP.1.2.2.2 1
  have q2 := HP.1.2.2.1 2
  have f2 := HP.1.2.2.2 2
  have q3 := HP.1.2.2.1 3
  have f3 := HP.1.2.2.2 3
  have q4 := HP.1.2.2.1 4
  have f4 := HP.1.2.2.2 4
  have q5 := HP.1.2.2.1 5
  have f5 := HP.1.2.2.2 5
  have q7 := HP.1.2.2.1 7
  have f7 := HP.1.2.2.2 7
  have q8 := HP.1.2.2.1 8
  have f8 := HP.1.2.2.2 8
  have n0 := HP.1.2.1.1
  have n1 := HP.1.2.1.2
  have HU := Lib.hid HP
  have HX := Lib.hid (HX.out.put H0.out 6 (.slice (some ⟨w4.heap.size, 0, none⟩) X.dp.length X.dp.length))
  have N0 := Lib.hid (N0.out.off (b := w.heap.size + 1 + 1) (i := 6) (by omega) (.slice (some ⟨w4.heap.size, 0, none⟩) X.dp.length X.dp.length))
  have N1 := Lib.hid (N1.out.off (b := w.heap.size + 1 + 1) (i := 6) (by have := HSZ1.out; omega) (.slice (some ⟨w4.heap.size, 0, none⟩) X.dp.length X.dp.length))
  have N2 := Lib.hid (N2.out.off (b := w.heap.size + 1 + 1) (i := 6) (by have := HSZ2.out; omega) (.slice (some ⟨w4.heap.size, 0, none⟩) X.dp.length X.dp.length))
  have N3 := Lib.hid (N3.out.off (b := w.heap.size + 1 + 1) (i := 6) (by have := HSZ3.out; omega) (.slice (some ⟨w4.heap.size, 0, none⟩) X.dp.length X.dp.length))
  have N4 := Lib.hid (N4.out.off (b := w.heap.size + 1 + 1) (i := 6) (by have := HSZ4.out; omega) (.slice (some ⟨w4.heap.size, 0, none⟩) X.dp.length X.dp.length))
  clear hB hM hsz HP
  simp at q0 q1 q2 q3 q4 q5 q6 q7 q8
  go_wp2
  (try simp only [Exit.inBlock, Exit.then])
  have M3 := lay_nine (((HU.out.1.2.1.setOther (g' := w.heap.size + 1 + 1) (by omega) 6 (.slice (some ⟨w4.heap.size, 0, none⟩) X.dp.length X.dp.length)).setOther (g' := w.heap.size + 1 + 1) (by omega) 7 (.bool X.cm)).setOther (g' := w.heap.size + 1 + 1) (by omega) 8 (.bool X.da)) (.bool X.ha) (.bool X.hb) (.slice (some ⟨w.heap.size + 1 + 1 + 1, 0, none⟩) X.al.length X.al.length) (.slice (some ⟨w1.heap.size, 0, none⟩) X.rm.length X.rm.length) (.slice (some ⟨w2.heap.size, 0, none⟩) X.uw.length X.uw.length) (.slice (some ⟨w3.heap.size, 0, none⟩) X.at_.length X.at_.length) (.slice (some ⟨w4.heap.size, 0, none⟩) X.dp.length X.dp.length) (.bool X.cm) (.bool X.da)
  refine ret_config rfl M3 rfl rfl ⟨⟨some ⟨w.heap.size + 1 + 1 + 1, 0, none⟩, X.al.length, some ⟨w1.heap.size, 0, none⟩, X.rm.length, some ⟨w2.heap.size, 0, none⟩, X.uw.length, some ⟨w3.heap.size, 0, none⟩, X.at_.length, some ⟨w4.heap.size, 0, none⟩, X.dp.length⟩, rfl, ?_, ?_⟩
  · exact ((((((((((((HU.out.2.2.1).setCell (p := ⟨_, _, none⟩) (by show w.heap.size ≤ w.heap.size + 1 + 1; omega) _).setCell (p := ⟨_, _, none⟩) (by show w.heap.size ≤ w.heap.size + 1 + 1; omega) _).setCell (p := ⟨_, _, none⟩) (by show w.heap.size ≤ w.heap.size + 1 + 1; omega) _).setCell (p := ⟨_, _, none⟩) (by show w.heap.size ≤ w.heap.size + 1; omega) _).setCell (p := ⟨_, _, none⟩) (by show w.heap.size ≤ w.heap.size + 1; omega) _).setCell (p := ⟨_, _, none⟩) (by show w.heap.size ≤ w.heap.size + 1; omega) _).setCell (p := ⟨_, _, none⟩) (by show w.heap.size ≤ w.heap.size + 1; omega) _).setCell (p := ⟨_, _, none⟩) (by show w.heap.size ≤ w.heap.size + 1; omega) _).setCell (p := ⟨_, _, none⟩) (by show w.heap.size ≤ w.heap.size + 1; omega) _).setCell (p := ⟨_, _, none⟩) (by show w.heap.size ≤ w.heap.size + 1; omega) _).setCell (p := ⟨_, _, none⟩) (by show w.heap.size ≤ w.heap.size + 1; omega) _).setCell (p := ⟨_, _, none⟩) (by show w.heap.size ≤ w.heap.size + 1; omega) _
  · exact cf_own (by omega) HFIT.out ((((((((((((N0.out).off (b := w.heap.size + 1 + 1) (i := 7) (by omega) (.bool X.cm)).off (b := w.heap.size + 1 + 1) (i := 8) (by omega) (.bool X.da)).off (b := w.heap.size + 1) (i := 0) (by omega) (.bool X.ha)).off (b := w.heap.size + 1) (i := 1) (by omega) (.bool X.hb)).off (b := w.heap.size + 1) (i := 2) (by omega) (.slice (some ⟨w.heap.size + 1 + 1 + 1, 0, none⟩) X.al.length X.al.length)).off (b := w.heap.size + 1) (i := 3) (by omega) (.slice (some ⟨w1.heap.size, 0, none⟩) X.rm.length X.rm.length)).off (b := w.heap.size + 1) (i := 4) (by omega) (.slice (some ⟨w2.heap.size, 0, none⟩) X.uw.length X.uw.length)).off (b := w.heap.size + 1) (i := 5) (by omega) (.slice (some ⟨w3.heap.size, 0, none⟩) X.at_.length X.at_.length)).off (b := w.heap.size + 1) (i := 6) (by omega) (.slice (some ⟨w4.heap.size, 0, none⟩) X.dp.length X.dp.length)).off (b := w.heap.size + 1) (i := 7) (by omega) (.bool X.cm)).off (b := w.heap.size + 1) (i := 8) (by omega) (.bool X.da)) ((((((((((((N1.out).off (b := w.heap.size + 1 + 1) (i := 7) (by have := HSZ1.out; omega) (.bool X.cm)).off (b := w.heap.size + 1 + 1) (i := 8) (by have := HSZ1.out; omega) (.bool X.da)).off (b := w.heap.size + 1) (i := 0) (by have := HSZ1.out; omega) (.bool X.ha)).off (b := w.heap.size + 1) (i := 1) (by have := HSZ1.out; omega) (.bool X.hb)).off (b := w.heap.size + 1) (i := 2) (by have := HSZ1.out; omega) (.slice (some ⟨w.heap.size + 1 + 1 + 1, 0, none⟩) X.al.length X.al.length)).off (b := w.heap.size + 1) (i := 3) (by have := HSZ1.out; omega) (.slice (some ⟨w1.heap.size, 0, none⟩) X.rm.length X.rm.length)).off (b := w.heap.size + 1) (i := 4) (by have := HSZ1.out; omega) (.slice (some ⟨w2.heap.size, 0, none⟩) X.uw.length X.uw.length)).off (b := w.heap.size + 1) (i := 5) (by have := HSZ1.out; omega) (.slice (some ⟨w3.heap.size, 0, none⟩) X.at_.length X.at_.length)).off (b := w.heap.size + 1) (i := 6) (by have := HSZ1.out; omega) (.slice (some ⟨w4.heap.size, 0, none⟩) X.dp.length X.dp.length)).off (b := w.heap.size + 1) (i := 7) (by have := HSZ1.out; omega) (.bool X.cm)).off (b := w.heap.size + 1) (i := 8) (by have := HSZ1.out; omega) (.bool X.da)) ((((((((((((N2.out).off (b := w.heap.size + 1 + 1) (i := 7) (by have := HSZ2.out; omega) (.bool X.cm)).off (b := w.heap.size + 1 + 1) (i := 8) (by have := HSZ2.out; omega) (.bool X.da)).off (b := w.heap.size + 1) (i := 0) (by have := HSZ2.out; omega) (.bool X.ha)).off (b := w.heap.size + 1) (i := 1) (by have := HSZ2.out; omega) (.bool X.hb)).off (b := w.heap.size + 1) (i := 2) (by have := HSZ2.out; omega) (.slice (some ⟨w.heap.size + 1 + 1 + 1, 0, none⟩) X.al.length X.al.length)).off (b := w.heap.size + 1) (i := 3) (by have := HSZ2.out; omega) (.slice (some ⟨w1.heap.size, 0, none⟩) X.rm.length X.rm.length)).off (b := w.heap.size + 1) (i := 4) (by have := HSZ2.out; omega) (.slice (some ⟨w2.heap.size, 0, none⟩) X.uw.length X.uw.length)).off (b := w.heap.size + 1) (i := 5) (by have := HSZ2.out; omega) (.slice (some ⟨w3.heap.size, 0, none⟩) X.at_.length X.at_.length)).off (b := w.heap.size + 1) (i := 6) (by have := HSZ2.out; omega) (.slice (some ⟨w4.heap.size, 0, none⟩) X.dp.length X.dp.length)).off (b := w.heap.size + 1) (i := 7) (by have := HSZ2.out; omega) (.bool X.cm)).off (b := w.heap.size + 1) (i := 8) (by have := HSZ2.out; omega) (.bool X.da)) ((((((((((((N3.out).off (b := w.heap.size + 1 + 1) (i := 7) (by have := HSZ3.out; omega) (.bool X.cm)).off (b := w.heap.size + 1 + 1) (i := 8) (by have := HSZ3.out; omega) (.bool X.da)).off (b := w.heap.size + 1) (i := 0) (by have := HSZ3.out; omega) (.bool X.ha)).off (b := w.heap.size + 1) (i := 1) (by have := HSZ3.out; omega) (.bool X.hb)).off (b := w.heap.size + 1) (i := 2) (by have := HSZ3.out; omega) (.slice (some ⟨w.heap.size + 1 + 1 + 1, 0, none⟩) X.al.length X.al.length)).off (b := w.heap.size + 1) (i := 3) (by have := HSZ3.out; omega) (.slice (some ⟨w1.heap.size, 0, none⟩) X.rm.length X.rm.length)).off (b := w.heap.size + 1) (i := 4) (by have := HSZ3.out; omega) (.slice (some ⟨w2.heap.size, 0, none⟩) X.uw.length X.uw.length)).off (b := w.heap.size + 1) (i := 5) (by have := HSZ3.out; omega) (.slice (some ⟨w3.heap.size, 0, none⟩) X.at_.length X.at_.length)).off (b := w.heap.size + 1) (i := 6) (by have := HSZ3.out; omega) (.slice (some ⟨w4.heap.size, 0, none⟩) X.dp.length X.dp.length)).off (b := w.heap.size + 1) (i := 7) (by have := HSZ3.out; omega) (.bool X.cm)).off (b := w.heap.size + 1) (i := 8) (by have := HSZ3.out; omega) (.bool X.da)) ((((((((((((N4.out).off (b := w.heap.size + 1 + 1) (i := 7) (by have := HSZ4.out; omega) (.bool X.cm)).off (b := w.heap.size + 1 + 1) (i := 8) (by have := HSZ4.out; omega) (.bool X.da)).off (b := w.heap.size + 1) (i := 0) (by have := HSZ4.out; omega) (.bool X.ha)).off (b := w.heap.size + 1) (i := 1) (by have := HSZ4.out; omega) (.bool X.hb)).off (b := w.heap.size + 1) (i := 2) (by have := HSZ4.out; omega) (.slice (some ⟨w.heap.size + 1 + 1 + 1, 0, none⟩) X.al.length X.al.length)).off (b := w.heap.size + 1) (i := 3) (by have := HSZ4.out; omega) (.slice (some ⟨w1.heap.size, 0, none⟩) X.rm.length X.rm.length)).off (b := w.heap.size + 1) (i := 4) (by have := HSZ4.out; omega) (.slice (some ⟨w2.heap.size, 0, none⟩) X.uw.length X.uw.length)).off (b := w.heap.size + 1) (i := 5) (by have := HSZ4.out; omega) (.slice (some ⟨w3.heap.size, 0, none⟩) X.at_.length X.at_.length)).off (b := w.heap.size + 1) (i := 6) (by have := HSZ4.out; omega) (.slice (some ⟨w4.heap.size, 0, none⟩) X.dp.length X.dp.length)).off (b := w.heap.size + 1) (i := 7) (by have := HSZ4.out; omega) (.bool X.cm)).off (b := w.heap.size + 1) (i := 8) (by have := HSZ4.out; omega) (.bool X.da))
end Go.Proofs.YthdkkpbhijlpaaaGreat
namespace Go.Proofs.YthdkkpbhijlpaaaGreat
open Go.ChangeShapes Go.WideShapes Go.ChangeAt Go.RowKit Go.Deep

/-- a tree that a call has made: its row in block g, all of it from g up to h -/
def MadeAt (w : World) (g h : Nat) (F : Fo) : Prop := h ≤ w.heap.size ∧ g < h ∧ FoAt w g h g 0 F
theorem MadeAt.row {w : World} {g h : Nat} {F : Fo} (hm : MadeAt w g h F) (hl : F.len ≤ maxLen) : RowAt g h (some ⟨g, 0, none⟩) F.len g 0 := ⟨hl, fun _ => ⟨rfl, Nat.le_refl _, hm.2.1⟩⟩
theorem MadeAt.below {w w' : World} {g h B : Nat} {F : Fo} (hm : MadeAt w g h F) (hB : Below B w w') (hh : h ≤ B) : MadeAt w' g h F :=
  ⟨Nat.le_trans hm.1 hB.size, hm.2.1, hm.2.2.carry (Nat.le_refl _) (Nat.le_refl _) (fun b o _ h2 => hB.cell (p := ⟨b, o, none⟩) (by show b < B; omega)) (fun j _ => hB.cell (p := ⟨g, 0 + j, none⟩) (by have := hm.2.1; show g < B; omega))⟩
theorem MadeAt.next {w w' : World} {g h : Nat} {F : Fo} (hm : MadeAt w g h F) (hB : Below w.heap.size w w') : MadeAt w' g h F := hm.below hB hm.1
/-- the tree that came in -/
def CameIn (w : World) (A : Option Addr) (b o hi : Nat) (F : Fo) : Prop := RowAt 0 hi A F.len b o ∧ hi ≤ w.heap.size ∧ FoAt w 0 hi b o F
theorem CameIn.next {w w' : World} {A : Option Addr} {b o hi : Nat} {F : Fo} (h : CameIn w A b o hi F) (hB : Below w.heap.size w w') : CameIn w' A b o hi F :=
  ⟨h.1, Nat.le_trans h.2.1 hB.size, FoAt.below h.1 h.2.2 hB h.2.1⟩
theorem copy_any (F : Fo) (w : World) (A : Option Addr) (c b o hi : Nat) (hs : F.len + F.size ≤ 1048576) (h : CameIn w A b o hi F) :
    Calls Tryz.prog 11 #[.slice A F.len c] w fun e w' => e = .returned (.slice (some ⟨w.heap.size, 0, none⟩) F.len F.len) ∧ Below w.heap.size w w' ∧ MadeAt w' w.heap.size w'.heap.size F :=
  (toNodeS_any F w A c b o hi (Fo.small_of F (by omega)) (by omega) h.1 h.2.1 h.2.2).mono fun e w' ⟨h1, h2, h3, h4⟩ => ⟨h1, h2, Nat.le_refl _, h3, h4.mono (by omega) (Nat.le_refl _)⟩
theorem alike_any (F : Fo) (w : World) (g h g' h' c c' : Nat) (hl : F.len ≤ maxLen) (h1 : MadeAt w g h F) (h2 : MadeAt w g' h' F) :
    Calls Tryz.prog 14 #[.slice (some ⟨g, 0, none⟩) F.len c, .slice (some ⟨g', 0, none⟩) F.len c'] w fun e w' => e = .returned (.bool true) ∧ Below w.heap.size w w' :=
  eqNodeS_same F w _ _ c c' g g' 0 0 g h g' h' (h1.row hl) (h2.row hl) h1.1 h2.1 h1.2.2 h2.2.2
end Go.Proofs.YthdkkpbhijlpaaaGreat
namespace Go.Proofs.YthdkkpbhijlpaaaGreat
open Go.ChangeShapes Go.WideShapes Go.ChangeAt Go.RowKit Go.Deep

theorem Fo.cnt_le : ∀ F : Fo, F.cnt ≤ 4 * (F.len + F.size)
  | .nil => Nat.zero_le _
  | .cons _ _ n t al kids rest => by
    have h1 := Fo.cnt_le kids
    have h2 := Fo.cnt_le rest
    simp only [Fo.cnt, Fo.len, Fo.size]
    omega
theorem copyO_any (F : Fo) (w : World) (A : Option Addr) (c b o hi : Nat) (hs : F.len + F.size ≤ 1048576) (h : CameIn w A b o hi F) :
    Calls Tryz.prog 11 #[.slice A F.len c] w fun e w' => ∃ bl, e = .returned (.slice (some ⟨w.heap.size, 0, none⟩) F.len F.len) ∧ Below w.heap.size w w' ∧ Own w' w.heap.size w.heap.size F bl :=
  toNodeS_lay F w A c b o hi (Fo.small_of F (by omega)) (by omega) h.1 h.2.1 h.2.2
theorem Own.made {w : World} {g : Nat} {F : Fo} {bl : List Nat} (h : Own w g g F bl) : MadeAt w g w.heap.size F := ⟨Nat.le_refl _, h.2.1, h.at⟩
/-- all of x's blocks are marked, nothing else -/
theorem markO_any (F : Fo) (w : World) (c g : Nat) (bl : List Nat) (hs : F.len + F.size ≤ 1048576) (h : Own w g g F bl) :
    Calls Tryz.prog 16 #[.slice (some ⟨g, 0, none⟩) F.len c, .int .i64 1] w fun e w' => e = .returned (.int .i64 ((1 + F.cnt : Nat) : Int)) ∧ OnlyAt w w' (g :: bl) :=
  (markNodeS_any F 1 w (some ⟨g, 0, none⟩) c (g :: bl) (Nat.le_refl _) (by have := Fo.cnt_le F; omega) (by unfold maxLen; omega) (Or.inr ⟨g, bl, rfl, rfl, h.2.2.1⟩) h.2.2.2.1 (fun k hk => by rcases List.mem_cons.1 hk with rfl | hk; exact h.2.1; exact (h.2.2.2.2 k hk).2)).mono fun _ _ ⟨h1, _, h3⟩ => ⟨h1, h3⟩
end Go.Proofs.YthdkkpbhijlpaaaGreat
