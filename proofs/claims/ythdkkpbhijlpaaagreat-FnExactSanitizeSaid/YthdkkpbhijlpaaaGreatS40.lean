import Derived.Deep.QuietTactic
import Derived.BigQuiet
import Derived.Deep.RegionHeld3
import Derived.Shelf.Abstract
import Derived.Test.YthdkkpbhijlpaaaGreatS39
import Derived.Test.YthdkkpbhijlpaaaGreatS22
import Derived.Test.YthdkkpbhijlpaaaGreatS03
import Derived.Test.YthdkkpbhijlpaaaGreatS04
set_option linter.unusedVariables false
namespace Go.Proofs.YthdkkpbhijlpaaaGreat
open Go.ChangeShapes Go.WideShapes Go.ChangeAt Go.RowKit Go.Deep

theorem eqConfig_same (X : Cf) (V V' : CfV) (w : World) (h : CfIn w X V) (h' : CfIn w X V') :
    Calls Tryz.prog 15 #[.agg #[.bool X.ha, .bool X.hb, .slice V.a1 X.al.length V.c1, .slice V.a2 X.rm.length V.c2, .slice V.a3 X.uw.length V.c3, .slice V.a4 X.at_.length V.c4, .slice V.a5 X.dp.length V.c5, .bool X.cm, .bool X.da], .agg #[.bool X.ha, .bool X.hb, .slice V'.a1 X.al.length V'.c1, .slice V'.a2 X.rm.length V'.c2, .slice V'.a3 X.uw.length V'.c3, .slice V'.a4 X.at_.length V'.c4, .slice V'.a5 X.dp.length V'.c5, .bool X.cm, .bool X.da]] w fun e w' => e = .returned (.bool true) ∧ Below w.heap.size w w' := by
  obtain ⟨L1, L2, B3⟩ := two_lay (Below.refl (w.heap.size + 1 + 1) ((w.alloc (.cells #[.bool X.ha, .bool X.hb, .slice V.a1 X.al.length V.c1, .slice V.a2 X.rm.length V.c2, .slice V.a3 X.uw.length V.c3, .slice V.a4 X.at_.length V.c4, .slice V.a5 X.dp.length V.c5, .bool X.cm, .bool X.da] 35)).alloc (.cells #[.bool X.ha, .bool X.hb, .slice V'.a1 X.al.length V'.c1, .slice V'.a2 X.rm.length V'.c2, .slice V'.a3 X.uw.length V'.c3, .slice V'.a4 X.at_.length V'.c4, .slice V'.a5 X.dp.length V'.c5, .bool X.cm, .bool X.da] 35)))
  have HX : Hid (CfBox w ((w.alloc (.cells #[.bool X.ha, .bool X.hb, .slice V.a1 X.al.length V.c1, .slice V.a2 X.rm.length V.c2, .slice V.a3 X.uw.length V.c3, .slice V.a4 X.at_.length V.c4, .slice V.a5 X.dp.length V.c5, .bool X.cm, .bool X.da] 35)).alloc (.cells #[.bool X.ha, .bool X.hb, .slice V'.a1 X.al.length V'.c1, .slice V'.a2 X.rm.length V'.c2, .slice V'.a3 X.uw.length V'.c3, .slice V'.a4 X.at_.length V'.c4, .slice V'.a5 X.dp.length V'.c5, .bool X.cm, .bool X.da] 35)) w.heap.size X V) := Lib.hid ⟨L1, h.next B3, B3, by simp; omega⟩
  have HY : Hid (CfBox w ((w.alloc (.cells #[.bool X.ha, .bool X.hb, .slice V.a1 X.al.length V.c1, .slice V.a2 X.rm.length V.c2, .slice V.a3 X.uw.length V.c3, .slice V.a4 X.at_.length V.c4, .slice V.a5 X.dp.length V.c5, .bool X.cm, .bool X.da] 35)).alloc (.cells #[.bool X.ha, .bool X.hb, .slice V'.a1 X.al.length V'.c1, .slice V'.a2 X.rm.length V'.c2, .slice V'.a3 X.uw.length V'.c3, .slice V'.a4 X.at_.length V'.c4, .slice V'.a5 X.dp.length V'.c5, .bool X.cm, .bool X.da] 35)) (w.heap.size + 1) X V') := Lib.hid ⟨L2, h'.next B3, B3, by simp⟩
  clear h h' L1 L2 B3
  go_enter Tryz.func15, Tryz.ntmps15
  go_wp2_with fail
  refine (eqRuleS_same X.al _ V.a1 V'.a1 V.c1 V'.c1 HX.out.2.1.al HY.out.2.1.al).mono ?_
  rintro e w1 ⟨rfl, hB⟩
  have HX := Lib.hid (HX.out.next hB)
  have HY := Lib.hid (HY.out.next hB)
  clear hB
  obtain ⟨p0, p1, p2, p3, p4, p5, p6, p7, p8⟩ := lay9 HX.out.1
  obtain ⟨q0, q1, q2, q3, q4, q5, q6, q7, q8⟩ := lay9 HY.out.1
  go_wp2_with fail
  refine (eqRuleS_same X.rm _ V.a2 V'.a2 V.c2 V'.c2 HX.out.2.1.rm HY.out.2.1.rm).mono ?_
  rintro e w2 ⟨rfl, hB⟩
  have HX := Lib.hid (HX.out.next hB)
  have HY := Lib.hid (HY.out.next hB)
  clear p0 p1 p2 p3 p4 p5 p6 p7 p8 q0 q1 q2 q3 q4 q5 q6 q7 q8
  clear hB
  obtain ⟨p0, p1, p2, p3, p4, p5, p6, p7, p8⟩ := lay9 HX.out.1
  obtain ⟨q0, q1, q2, q3, q4, q5, q6, q7, q8⟩ := lay9 HY.out.1
  go_wp2_with fail
  refine (eqRuleS_same X.uw _ V.a3 V'.a3 V.c3 V'.c3 HX.out.2.1.uw HY.out.2.1.uw).mono ?_
  rintro e w3 ⟨rfl, hB⟩
  have HX := Lib.hid (HX.out.next hB)
  have HY := Lib.hid (HY.out.next hB)
  clear p0 p1 p2 p3 p4 p5 p6 p7 p8 q0 q1 q2 q3 q4 q5 q6 q7 q8
  clear hB
  obtain ⟨p0, p1, p2, p3, p4, p5, p6, p7, p8⟩ := lay9 HX.out.1
  obtain ⟨q0, q1, q2, q3, q4, q5, q6, q7, q8⟩ := lay9 HY.out.1
  go_wp2_with fail
  refine (eqNm_same X.at_ _ V.a4 V'.a4 V.c4 V'.c4 HX.out.2.1.at_ HY.out.2.1.at_).mono ?_
  rintro e w4 ⟨rfl, hB⟩
  have HX := Lib.hid (HX.out.next hB)
  have HY := Lib.hid (HY.out.next hB)
  clear p0 p1 p2 p3 p4 p5 p6 p7 p8 q0 q1 q2 q3 q4 q5 q6 q7 q8
  clear hB
  obtain ⟨p0, p1, p2, p3, p4, p5, p6, p7, p8⟩ := lay9 HX.out.1
  obtain ⟨q0, q1, q2, q3, q4, q5, q6, q7, q8⟩ := lay9 HY.out.1
  go_wp2_with fail
  refine (eqNm_same X.dp _ V.a5 V'.a5 V.c5 V'.c5 HX.out.2.1.dp HY.out.2.1.dp).mono ?_
  rintro e w5 ⟨rfl, hB⟩
  have HX := Lib.hid (HX.out.next hB)
  have HY := Lib.hid (HY.out.next hB)
  clear p0 p1 p2 p3 p4 p5 p6 p7 p8 q0 q1 q2 q3 q4 q5 q6 q7 q8
  clear hB
  obtain ⟨p0, p1, p2, p3, p4, p5, p6, p7, p8⟩ := lay9 HX.out.1
  obtain ⟨q0, q1, q2, q3, q4, q5, q6, q7, q8⟩ := lay9 HY.out.1
  go_wp2
  go_ret
  exact ⟨rfl, HX.out.2.2.1⟩
end Go.Proofs.YthdkkpbhijlpaaaGreat
namespace Go.Proofs.YthdkkpbhijlpaaaGreat
open Go.ChangeShapes Go.WideShapes Go.ChangeAt Go.RowKit Go.Deep

/-- a row of texts that may be written -/
def StrRow (w : World) (A : Option Addr) (l : List ByteArray) (bs : List Nat) : Prop :=
  (l = [] ∧ bs = []) ∨ ∃ g, A = some ⟨g, 0, none⟩ ∧ bs = [g] ∧ ∀ k (h : k < l.length), CellW w g k (.string l[k])
theorem StrRow.same {w w' : World} {A : Option Addr} {l : List ByteArray} {bs : List Nat} (h : StrRow w A l bs) (hb : ∀ k ∈ bs, w'.heap[k]? = w.heap[k]?) : StrRow w' A l bs := by
  rcases h with h | ⟨g, h1, h2, h3⟩
  · exact Or.inl h
  · subst h2; exact Or.inr ⟨g, h1, rfl, fun k hk => (h3 k hk).same (hb g (by simp))⟩
def markL (l : List ByteArray) (m : Nat) : List ByteArray := (List.range l.length).map fun k => markT (m + k)
theorem markL_len (l : List ByteArray) (m : Nat) : (markL l m).length = l.length := by simp [markL]
theorem markL_get (l : List ByteArray) (m k : Nat) (h : k < (markL l m).length) : (markL l m)[k] = markT (m + k) := by simp [markL]
theorem markStringS_any (l : List ByteArray) (m : Nat) (w : World) (A : Option Addr) (c : Nat) (bs : List Nat) (h1 : 1 ≤ m) (h2 : m + l.length ≤ 1073741824) (hr : StrRow w A l bs) :
    Calls Tryz.prog 47 #[.slice A l.length c, .int .i64 (m : Int)] w fun e w' => e = .returned (.int .i64 ((m + l.length : Nat) : Int)) ∧ StrRow w' A (markL l m) bs ∧ OnlyAt w w' bs := by
  rcases hr with ⟨rfl, rfl⟩ | ⟨g, rfl, rfl, hc⟩
  · simp only [List.length_nil]
    go_enter Tryz.func47, Tryz.ntmps47
    go_wp2
    refine wp_loop_rounds 1 ?_
    rw [rounds_succ]
    go_wp2
    go_ret
    exact ⟨rfl, Or.inl ⟨rfl, rfl⟩, But.refl _ _⟩
  · have HC := Lib.hid hc
    clear hc
    go_enter Tryz.func47, Tryz.ntmps47
    go_wp2
    go_loopw [1, 5] (fun x i wr => ∃ k : Nat, k ≤ l.length ∧ x = .int .i64 ((m + k : Nat) : Int) ∧ i = .int .i64 k ∧ Hid ((∀ j, j < k → CellW wr g j (.string (markT (m + j)))) ∧ (∀ j (h : j < l.length), k ≤ j → CellW wr g j (.string l[j])) ∧ OnlyAt w wr [g])) (fun x i wr => l.length - (intOf i).toNat)
    case atStart => exact ⟨0, by omega, rfl, rfl, Lib.hid ⟨fun j hj => by omega, fun j h _ => HC.out j h, But.refl _ _⟩⟩
    case round =>
      obtain ⟨k, hk, rfl, rfl, HH⟩ := hrel
      by_cases hlt : k < l.length
      · have hg : g < wr.heap.size := (HH.out.2.1 k hlt (Nat.le_refl _)).lt
        go_wp2_with fail
        refine (markText_any (m + k) (by omega) (by omega) _).mono ?_
        rintro e w1 ⟨rfl, hB⟩
        have B1 := Lib.hid hB
        have hc := (HH.out.2.1 k hlt (Nat.le_refl _)).same (hB.block g hg)
        have ck := hc.1
        have fk := hc.2
        clear hB hc
        go_wp2
        go_roundw
        case rel =>
          refine ⟨k + 1, by omega, by go_num, by go_num, Lib.hid ⟨fun j hj => ?_, fun j h hj => ?_, ?_⟩⟩
          · by_cases e : j = k
            · subst e
              exact ((HH.out.2.1 j hlt (Nat.le_refl _)).same (B1.out.block g hg)).put _
            · exact ((HH.out.1 j (by omega)).same (B1.out.block g hg)).set (Or.inr (Ne.symm e)) _
          · exact ((HH.out.2.1 j h (by omega)).same (B1.out.block g hg)).set (Or.inr (by omega)) _
          · exact But.setCell (OnlyAt.then HH.out.2.2 (OnlyAt.low B1.out _)) (p := ⟨g, k, none⟩) (Or.inl (by simp)) _
        case measure => simp [intOf]; omega
      · obtain rfl : k = l.length := by omega
        go_wp2
        go_ret
        exact ⟨rfl, Or.inr ⟨g, rfl, rfl, fun j hj => by rw [markL_get]; exact HH.out.1 j (by rw [markL_len] at hj; exact hj)⟩, HH.out.2.2⟩
end Go.Proofs.YthdkkpbhijlpaaaGreat
namespace Go.Proofs.YthdkkpbhijlpaaaGreat
open Go.ChangeShapes Go.WideShapes Go.ChangeAt Go.RowKit Go.Deep

/-- how many marks the first k rules take -/
def ruOff (l : List Ru) : Nat → Nat
  | 0 => 0
  | k + 1 => ruOff l k + (match l[k]? with | some x => 2 + x.2.2.length | none => 0)
theorem ruOff_succ {l : List Ru} {k : Nat} (hk : k < l.length) : ruOff l (k + 1) = ruOff l k + (2 + l[k].2.2.length) := by rw [ruOff, List.getElem?_eq_getElem hk]
theorem ruOff_le (l : List Ru) : ∀ {k j : Nat}, k ≤ j → ruOff l k ≤ ruOff l j
  | k, 0, h => by rw [Nat.le_zero.1 h]; exact Nat.le_refl _
  | k, j + 1, h => by
    by_cases e : k = j + 1
    · rw [e]; exact Nat.le_refl _
    · exact Nat.le_trans (ruOff_le l (by omega : k ≤ j)) (by rw [ruOff]; exact Nat.le_add_right _ _)
def ruCnt (l : List Ru) : Nat := ruOff l l.length
/-- a marked rule -/
def mkRu (x : Ru) (m : Nat) : Ru := ((m : Int), markT (m + 1), markL x.2.2 (m + 2))
def mkRuL (l : List Ru) (m : Nat) : List Ru := l.mapIdx fun k x => mkRu x (m + ruOff l k)
theorem mkRuL_len (l : List Ru) (m : Nat) : (mkRuL l m).length = l.length := by simp [mkRuL]
theorem mkRuL_get (l : List Ru) (m k : Nat) (h : k < (mkRuL l m).length) (h' : k < l.length) : (mkRuL l m)[k] = mkRu l[k] (m + ruOff l k) := by simp [mkRuL]
/-- the rule at place j of block g may be written, and its texts in blocks bs -/
def RuW (w : World) (g j : Nat) (x : Ru) (bs : List Nat) : Prop :=
  CellW w g (j * 3) (.int .i64 x.1) ∧ CellW w g (j * 3 + 1) (.string x.2.1) ∧ ∃ B c, x.2.2.length ≤ c ∧ CellW w g (j * 3 + 2) (.slice B x.2.2.length c) ∧ StrRow w B x.2.2 bs
theorem RuW.same {w w' : World} {g j : Nat} {x : Ru} {bs : List Nat} (h : RuW w g j x bs) (hg : w'.heap[g]? = w.heap[g]?) (hb : ∀ k ∈ bs, w'.heap[k]? = w.heap[k]?) : RuW w' g j x bs := by
  obtain ⟨h1, h2, B, c, hl, h3, h4⟩ := h
  exact ⟨h1.same hg, h2.same hg, B, c, hl, h3.same hg, h4.same hb⟩
theorem heap_set (w : World) (g o : Nat) (u : Value) {k : Nat} (h : k ≠ g) : (w.setCell ⟨g, o, none⟩ u).heap[k]? = w.heap[k]? := Below.heap_setCell w ⟨g, o, none⟩ u k h
theorem RuW.set {w : World} {g j o : Nat} {x : Ru} {bs : List Nat} (h : RuW w g j x bs) (h0 : o ≠ j * 3) (h1 : o ≠ j * 3 + 1) (h2 : o ≠ j * 3 + 2) (hg : ∀ k ∈ bs, k ≠ g) (u : Value) : RuW (w.setCell ⟨g, o, none⟩ u) g j x bs := by
  obtain ⟨a1, a2, B, c, hl, a3, a4⟩ := h
  exact ⟨a1.set (Or.inr h0) u, a2.set (Or.inr h1) u, B, c, hl, a3.set (Or.inr h2) u, a4.same fun k hk => heap_set w g o u (hg k hk)⟩
theorem RuW.put0 {w : World} {g j : Nat} {x : Ru} {bs : List Nat} (h : RuW w g j x bs) (hg : ∀ k ∈ bs, k ≠ g) (z : Int) : RuW (w.setCell ⟨g, j * 3, none⟩ (.int .i64 z)) g j (z, x.2) bs := by
  obtain ⟨a1, a2, B, c, hl, a3, a4⟩ := h
  exact ⟨a1.put _, a2.set (Or.inr (by omega)) _, B, c, hl, a3.set (Or.inr (by omega)) _, a4.same fun k hk => heap_set w g _ _ (hg k hk)⟩
theorem RuW.put1 {w : World} {g j : Nat} {x : Ru} {bs : List Nat} (h : RuW w g j x bs) (hg : ∀ k ∈ bs, k ≠ g) (t : ByteArray) : RuW (w.setCell ⟨g, j * 3 + 1, none⟩ (.string t)) g j (x.1, t, x.2.2) bs := by
  obtain ⟨a1, a2, B, c, hl, a3, a4⟩ := h
  exact ⟨a1.set (Or.inr (by omega)) _, a2.put _, B, c, hl, a3.set (Or.inr (by omega)) _, a4.same fun k hk => heap_set w g _ _ (hg k hk)⟩
theorem RuW.lt {w : World} {g j : Nat} {x : Ru} {bs : List Nat} (h : RuW w g j x bs) : g < w.heap.size := h.1.lt
/-- a row of rules that may be written; bl: the blocks of each rule's texts; bs: all blocks -/
def RuRowW (w : World) (A : Option Addr) (l : List Ru) (bl : Nat → List Nat) (bs : List Nat) : Prop :=
  l = [] ∨ ∃ g, A = some ⟨g, 0, none⟩ ∧ g ∈ bs ∧ (∀ k ∈ bs, k < w.heap.size) ∧ (∀ j (h : j < l.length), RuW w g j l[j] (bl j)) ∧ (∀ j, j < l.length → ∀ k ∈ bl j, k ∈ bs ∧ k ≠ g) ∧ (∀ i j, i < l.length → j < l.length → i ≠ j → ∀ k ∈ bl i, k ∉ bl j)
theorem RuRowW.same {w w' : World} {A : Option Addr} {l : List Ru} {bl : Nat → List Nat} {bs : List Nat} (h : RuRowW w A l bl bs) (hs : w.heap.size ≤ w'.heap.size) (hb : ∀ k ∈ bs, w'.heap[k]? = w.heap[k]?) : RuRowW w' A l bl bs := by
  rcases h with h | ⟨g, h1, h2, h3, h4, h5, h6⟩
  · exact Or.inl h
  · exact Or.inr ⟨g, h1, h2, fun k hk => Nat.lt_of_lt_of_le (h3 k hk) hs, fun j hj => (h4 j hj).same (hb g h2) fun k hk => hb k (h5 j hj k hk).1, h5, h6⟩
set_option maxHeartbeats 1000000 in
theorem markRuleS_any (l : List Ru) (m : Nat) (w : World) (A : Option Addr) (c : Nat) (bl : Nat → List Nat) (bs : List Nat) (h1 : 1 ≤ m) (h2 : m + ruCnt l ≤ 1073741824) (hl : l.length ≤ 1048576) (hr : RuRowW w A l bl bs) :
    Calls Tryz.prog 46 #[.slice A l.length c, .int .i64 (m : Int)] w fun e w' => e = .returned (.int .i64 ((m + ruCnt l : Nat) : Int)) ∧ RuRowW w' A (mkRuL l m) bl bs ∧ OnlyAt w w' bs := by
  rcases hr with rfl | ⟨g, rfl, hgb, hsz, hc, hbl, hdj⟩
  · simp only [List.length_nil]
    go_enter Tryz.func46, Tryz.ntmps46
    go_wp2
    refine wp_loop_rounds 1 ?_
    rw [rounds_succ]
    go_wp2
    go_ret
    exact ⟨rfl, Or.inl rfl, But.refl _ _⟩
  · have HC := Lib.hid hc
    have HBL := Lib.hid (And.intro hgb (And.intro hsz (And.intro hbl hdj)))
    clear hc hgb hsz hbl hdj
    go_enter Tryz.func46, Tryz.ntmps46
    go_wp2
    go_loopw [1, 5] (fun x i wr => ∃ k : Nat, k ≤ l.length ∧ x = .int .i64 ((m + ruOff l k : Nat) : Int) ∧ i = .int .i64 k ∧ Hid ((∀ j (h : j < l.length), j < k → RuW wr g j (mkRu l[j] (m + ruOff l j)) (bl j)) ∧ (∀ j (h : j < l.length), k ≤ j → RuW wr g j l[j] (bl j)) ∧ OnlyAt w wr bs)) (fun x i wr => l.length - (intOf i).toNat)
    case atStart => exact ⟨0, by omega, rfl, rfl, Lib.hid ⟨fun j _ hj => by omega, fun j h _ => HC.out j h, But.refl _ _⟩⟩
    case round =>
      obtain ⟨k, hk, rfl, rfl, HH⟩ := hrel
      by_cases hlt : k < l.length
      · have hof := ruOff_succ hlt
        have hofl : ruOff l (k + 1) ≤ ruCnt l := ruOff_le l (by omega)
        have hgk : ∀ q ∈ bl k, q ≠ g := fun q hq => (HBL.out.2.2.1 k hlt q hq).2
        have hqs : ∀ q ∈ bl k, q < wr.heap.size := fun q hq => Nat.lt_of_lt_of_le (HBL.out.2.1 q (HBL.out.2.2.1 k hlt q hq).1) HH.out.2.2.size
        have R0 := Lib.hid (HH.out.2.1 k hlt (Nat.le_refl _))
        obtain ⟨⟨c0, f0⟩, _⟩ := R0.out
        go_wp2_with fail
        have R1 := Lib.hid (R0.out.put0 hgk ((m + ruOff l k : Nat) : Int))
        clear c0 f0
        refine (markText_any (m + ruOff l k + 1) (by omega) (by omega) _).mono ?_
        rintro e w1 ⟨rfl, hB⟩
        have hsz1 : wr.heap.size ≤ w1.heap.size := by have := hB.size; rw [World.size_setCell] at this; exact this
        have R2 := Lib.hid (R1.out.same (hB.block g R1.out.lt) (fun q hq => hB.block q (by rw [World.size_setCell]; exact hqs q hq)))
        have B2 := Lib.hid hB
        obtain ⟨_, ⟨c1, f1⟩, B, cc, hlc, ⟨c2, f2⟩, hrow⟩ := R2.out
        have HROW := Lib.hid hrow
        have H2 := Lib.hid (show CellW w1 g (k * 3 + 2) (.slice B l[k].2.2.length cc) from ⟨c2, f2⟩)
        clear hB hrow
        go_wp2_with fail
        have R3 := Lib.hid (R2.out.put1 hgk (markT (m + ruOff l k + 1)))
        rw [show (m : Int) + (ruOff l k : Int) + 1 + 1 = ((m + ruOff l k + 2 : Nat) : Int) by omega]
        refine (markStringS_any l[k].2.2 (m + ruOff l k + 2) _ B cc (bl k) (by omega) (by omega) (HROW.out.same fun q hq => heap_set w1 g _ _ (hgk q hq))).mono ?_
        rintro e w3 ⟨rfl, hR, hO⟩
        have hgn : g ∉ bl k := fun h => hgk g h rfl
        have hb3 := hO.block g R3.out.lt hgn
        have h4 := (H2.out.set (g' := g) (o' := k * 3 + 1) (Or.inr (by omega)) (.string (markT (m + ruOff l k + 1)))).same hb3
        have R4 := Lib.hid (show RuW w3 g k (mkRu l[k] (m + ruOff l k)) (bl k) from ⟨R3.out.1.same hb3, R3.out.2.1.same hb3, B, cc, by simpa [mkRu, markL_len] using hlc, by simpa [mkRu, markL_len] using h4, by simpa [mkRu] using hR⟩)
        have hz1 : ∀ q, q < wr.heap.size → q < (wr.setCell ⟨g, k * 3, none⟩ (.int .i64 ((m + ruOff l k : Nat) : Int))).heap.size := fun q hq => by rw [World.size_setCell]; exact hq
        have hz3 : ∀ q, q < wr.heap.size → q < (w1.setCell ⟨g, k * 3 + 1, none⟩ (.string (markT (m + ruOff l k + 1)))).heap.size := fun q hq => by rw [World.size_setCell]; omega
        have hgw : g < wr.heap.size := R0.out.lt
        have keep : ∀ j (_ : j < l.length) (x : Ru), j ≠ k → RuW wr g j x (bl j) → RuW w3 g j x (bl j) := fun j hj x hne hr => by
          have hqj : ∀ q ∈ bl j, q < wr.heap.size := fun q hq => Nat.lt_of_lt_of_le (HBL.out.2.1 q (HBL.out.2.2.1 j hj q hq).1) HH.out.2.2.size
          have hgj : ∀ q ∈ bl j, q ≠ g := fun q hq => (HBL.out.2.2.1 j hj q hq).2
          have a1 := hr.set (o := k * 3) (by omega) (by omega) (by omega) hgj (.int .i64 ((m + ruOff l k : Nat) : Int))
          have a2 := a1.same (B2.out.block g (hz1 g hgw)) (fun q hq => B2.out.block q (hz1 q (hqj q hq)))
          have a3 := a2.set (o := k * 3 + 1) (by omega) (by omega) (by omega) hgj (.string (markT (m + ruOff l k + 1)))
          exact a3.same hb3 (fun q hq => hO.block q (hz3 q (hqj q hq)) (HBL.out.2.2.2 j k hj hlt hne q hq))
        have KP := Lib.hid keep
        have hOO : OnlyAt w w3 bs := by
          have o1 := But.setCell HH.out.2.2 (p := ⟨g, k * 3, none⟩) (Or.inl HBL.out.1) (.int .i64 ((m + ruOff l k : Nat) : Int))
          have o2 := But.setCell (OnlyAt.then o1 (OnlyAt.low B2.out _)) (p := ⟨g, k * 3 + 1, none⟩) (Or.inl HBL.out.1) (.string (markT (m + ruOff l k + 1)))
          exact OnlyAt.then o2 (hO.mono fun q hq => (HBL.out.2.2.1 k hlt q hq).1)
        have HO := Lib.hid hOO
        clear hR hO hb3 h4 keep hOO c1 f1 c2 f2
        go_wp2
        go_roundw
        case rel =>
          refine ⟨k + 1, by omega, by go_num, by go_num, Lib.hid ⟨fun j hj hjk => ?_, fun j hj hjk => ?_, HO.out⟩⟩
          · by_cases e : j = k
            · subst e; exact R4.out
            · exact KP.out j hj _ e (HH.out.1 j hj (by omega))
          · exact KP.out j hj _ (by omega) (HH.out.2.1 j hj (by omega))
        case measure => simp [intOf]; omega
      · obtain rfl : k = l.length := by omega
        go_wp2
        go_ret
        exact ⟨rfl, Or.inr ⟨g, rfl, HBL.out.1, fun q hq => Nat.lt_of_lt_of_le (HBL.out.2.1 q hq) HH.out.2.2.size, fun j hj => (mkRuL_get l m j hj (by rw [mkRuL_len] at hj; exact hj)).symm ▸ HH.out.1 j (by rw [mkRuL_len] at hj; exact hj) (by rw [mkRuL_len] at hj; exact hj), by rw [mkRuL_len]; exact HBL.out.2.2.1, by rw [mkRuL_len]; exact HBL.out.2.2.2⟩, HH.out.2.2⟩
/-- texts and rows of a size that stands -/
def nmSafe (l : List ByteArray) : Prop := l.length ≤ maxLen ∧ ∀ t ∈ l, t.size ≤ maxLen
def ruFit (l : List Ru) : Prop := l.length ≤ maxLen ∧ ∀ x ∈ l, x.2.1.size ≤ maxLen ∧ nmSafe x.2.2
theorem StrRow.nm {w : World} {A : Option Addr} {l : List ByteArray} {bs : List Nat} (h : StrRow w A l bs) (hs : nmSafe l) : NmIn w A l := by
  refine ⟨hs.1, ?_⟩
  rcases h with h | ⟨g, h1, h2, h3⟩
  · exact Or.inl h.1
  · exact Or.inr ⟨g, 0, h1, fun k hk => ⟨by rw [Nat.zero_add]; exact (h3 k hk).1, hs.2 _ (List.getElem_mem hk)⟩⟩
theorem RuRowW.ru {w : World} {A : Option Addr} {l : List Ru} {bl : Nat → List Nat} {bs : List Nat} (h : RuRowW w A l bl bs) (hs : ruFit l) : RuIn w A l := by
  refine ⟨hs.1, ?_⟩
  rcases h with h | ⟨g, h1, h2, h3, h4, h5, h6⟩
  · exact Or.inl h
  · refine Or.inr ⟨g, 0, h1, fun k hk => ?_⟩
    obtain ⟨a1, a2, B, c, hl, a3, a4⟩ := h4 k hk
    have hx := hs.2 _ (List.getElem_mem hk)
    rw [Nat.zero_add]
    exact ⟨a1.1, a2.1, hx.1, B, c, a3.1, hl, a4.nm hx.2⟩
end Go.Proofs.YthdkkpbhijlpaaaGreat
