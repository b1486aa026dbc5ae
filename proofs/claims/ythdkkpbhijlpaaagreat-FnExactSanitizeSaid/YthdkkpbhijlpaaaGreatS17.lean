import Derived.Test.YthdkkpbhijlpaaaGreatShelf
import Derived.ProofKit
import Derived.Lib.Hide
import Derived.Below
import Derived.Test.YthdkkpbhijlpaaaGreatProg
import Derived.WalkKit
import Derived.Laws.Concat
import Derived.Laws.RangeString
import Derived.WalkSpells
import Derived.Lib.SpaceUEq
import Derived.Deep.QuietTactic
import Derived.BigQuiet
import Derived.WalkMore
import Derived.WalkSmall
import Derived.Laws.RangeAny
import Derived.Test.YthdkkpbhijlpaaaGreatS14
import Derived.Test.YthdkkpbhijlpaaaGreatS02
set_option linter.unusedVariables false
namespace Go.Proofs.YthdkkpbhijlpaaaGreat
open Go.ChangeShapes Go.WideShapes Go.ChangeAt Go.RowKit Go.Deep Go.Maps

set_option maxHeartbeats 4000000 in
theorem allowsElement_any (X : Cf) (V : CfV) (sp : Int) (n : ByteArray) (w : World) (h0 : 0 ≤ sp) (h2 : sp ≤ 2) (hn : n.size ≤ maxLen) (h : CfIn w X V) (ha : rulesB true X.al = true) (hr : rulesB false X.rm = true) (hu : rulesB false X.uw = true) :
    Calls Tryz.prog 87 #[.agg #[.bool X.ha, .bool X.hb, .slice V.a1 X.al.length V.c1, .slice V.a2 X.rm.length V.c2, .slice V.a3 X.uw.length V.c3, .slice V.a4 X.at_.length V.c4, .slice V.a5 X.dp.length V.c5, .bool X.cm, .bool X.da], .agg #[.int .i64 sp, .string n]] w fun e w' => e = .returned (.bool (allB X sp n)) ∧ Below w.heap.size w w' := by
  have HU := Lib.hid (And.intro (all_safe (rulesB_all hu)) (rulesB_len hu))
  have HL := Lib.hid (And.intro (all_safe (rulesB_all ha)) (rulesB_len ha))
  have HD := Lib.hid (And.intro (all_safe (rulesB_all hr)) (rulesB_len hr))
  have HX := Lib.hid (AskBox.new h 35 114 sp n)
  have HR := Lib.hid (And.intro h0 h2)
  have HN := Lib.hid hn
  obtain ⟨p0, p1, p2, p3, p4, p5, p6, p7, p8⟩ := lay9 HX.out.1.1
  obtain ⟨r0, r1⟩ := lay2u HX.out.2.1
  clear h hu ha hr h0 h2
  cases hq : inL bannedL n with
  | true =>
    have HQ := Lib.hid hq
    have HM : Hid (allB X sp n = false) := Lib.hid (by rw [allB, hq]; rfl)
    clear hq
    go_enter Tryz.func87, Tryz.ntmps87
    go_wp2_with fail
    refine (implIsBanned_any n _ HN.out).mono ?_
    rintro e w1 ⟨rfl, hB⟩
    rw [HQ.out]
    have HX := Lib.hid (HX.out.next hB)
    clear hB p0 p1 p2 p3 p4 p5 p6 p7 p8 r0 r1
    obtain ⟨p0, p1, p2, p3, p4, p5, p6, p7, p8⟩ := lay9 HX.out.1.1
    obtain ⟨r0, r1⟩ := lay2u HX.out.2.1
    go_wp2
    all_goals (go_ret; exact ⟨by rw [HM.out]; rfl, HX.out.1.2.2.1⟩)
  | false =>
    have HQ := Lib.hid hq
    cases hz : hasRu X.uw sp n with
    | true =>
      have HZ := Lib.hid hz
      have HM : Hid (allB X sp n = false) := Lib.hid (by rw [allB, hq, hz]; rfl)
      clear hq hz
      go_enter Tryz.func87, Tryz.ntmps87
      go_wp2_with fail
      refine (implIsBanned_any n _ HN.out).mono ?_
      rintro e w1 ⟨rfl, hB⟩
      rw [HQ.out]
      have HX := Lib.hid (HX.out.next hB)
      clear hB p0 p1 p2 p3 p4 p5 p6 p7 p8 r0 r1
      obtain ⟨p0, p1, p2, p3, p4, p5, p6, p7, p8⟩ := lay9 HX.out.1.1
      obtain ⟨r0, r1⟩ := lay2u HX.out.2.1
      go_wp2_with fail
      refine (hasRule_any X.uw sp n _ V.a3 V.c3 HU.out.1 HU.out.2 HR.out.1 HR.out.2 HN.out HX.out.1.2.1.uw).mono ?_
      rintro e w2 ⟨rfl, hB⟩
      rw [HZ.out]
      have HX := Lib.hid (HX.out.next hB)
      clear hB p0 p1 p2 p3 p4 p5 p6 p7 p8 r0 r1
      obtain ⟨p0, p1, p2, p3, p4, p5, p6, p7, p8⟩ := lay9 HX.out.1.1
      obtain ⟨r0, r1⟩ := lay2u HX.out.2.1
      go_wp2
      all_goals (go_ret; exact ⟨by rw [HM.out]; rfl, HX.out.1.2.2.1⟩)
    | false =>
      have HZ := Lib.hid hz
      rcases Bool.eq_false_or_eq_true X.ha with hx | hx
      · have HM : Hid (allB X sp n = hasRu X.al sp n) := Lib.hid (by rw [allB, hq, hz, hx]; rfl)
        have HH := Lib.hid hx
        clear hq hz hx
        go_enter Tryz.func87, Tryz.ntmps87
        go_wp2_with fail
        refine (implIsBanned_any n _ HN.out).mono ?_
        rintro e w1 ⟨rfl, hB⟩
        rw [HQ.out]
        have HX := Lib.hid (HX.out.next hB)
        clear hB p0 p1 p2 p3 p4 p5 p6 p7 p8 r0 r1
        obtain ⟨p0, p1, p2, p3, p4, p5, p6, p7, p8⟩ := lay9 HX.out.1.1
        obtain ⟨r0, r1⟩ := lay2u HX.out.2.1
        go_wp2_with fail
        refine (hasRule_any X.uw sp n _ V.a3 V.c3 HU.out.1 HU.out.2 HR.out.1 HR.out.2 HN.out HX.out.1.2.1.uw).mono ?_
        rintro e w2 ⟨rfl, hB⟩
        rw [HZ.out]
        have HX := Lib.hid (HX.out.next hB)
        clear hB p0 p1 p2 p3 p4 p5 p6 p7 p8 r0 r1
        obtain ⟨p0, p1, p2, p3, p4, p5, p6, p7, p8⟩ := lay9 HX.out.1.1
        obtain ⟨r0, r1⟩ := lay2u HX.out.2.1
        rw [HH.out] at p0
        go_wp2_with fail
        refine (hasRule_any X.al sp n _ V.a1 V.c1 HL.out.1 HL.out.2 HR.out.1 HR.out.2 HN.out HX.out.1.2.1.al).mono ?_
        rintro e w3 ⟨rfl, hB⟩
        have HX := Lib.hid (HX.out.next hB)
        clear hB p0 p1 p2 p3 p4 p5 p6 p7 p8 r0 r1
        obtain ⟨p0, p1, p2, p3, p4, p5, p6, p7, p8⟩ := lay9 HX.out.1.1
        obtain ⟨r0, r1⟩ := lay2u HX.out.2.1
        go_wp2
        all_goals (go_ret; exact ⟨by rw [HM.out]; rfl, HX.out.1.2.2.1⟩)
      · have HM : Hid (allB X sp n = !hasRu X.rm sp n) := Lib.hid (by rw [allB, hq, hz, hx]; rfl)
        have HH := Lib.hid hx
        clear hq hz hx
        go_enter Tryz.func87, Tryz.ntmps87
        go_wp2_with fail
        refine (implIsBanned_any n _ HN.out).mono ?_
        rintro e w1 ⟨rfl, hB⟩
        rw [HQ.out]
        have HX := Lib.hid (HX.out.next hB)
        clear hB p0 p1 p2 p3 p4 p5 p6 p7 p8 r0 r1
        obtain ⟨p0, p1, p2, p3, p4, p5, p6, p7, p8⟩ := lay9 HX.out.1.1
        obtain ⟨r0, r1⟩ := lay2u HX.out.2.1
        go_wp2_with fail
        refine (hasRule_any X.uw sp n _ V.a3 V.c3 HU.out.1 HU.out.2 HR.out.1 HR.out.2 HN.out HX.out.1.2.1.uw).mono ?_
        rintro e w2 ⟨rfl, hB⟩
        rw [HZ.out]
        have HX := Lib.hid (HX.out.next hB)
        clear hB p0 p1 p2 p3 p4 p5 p6 p7 p8 r0 r1
        obtain ⟨p0, p1, p2, p3, p4, p5, p6, p7, p8⟩ := lay9 HX.out.1.1
        obtain ⟨r0, r1⟩ := lay2u HX.out.2.1
        rw [HH.out] at p0
        go_wp2_with fail
        refine (hasRule_any X.rm sp n _ V.a2 V.c2 HD.out.1 HD.out.2 HR.out.1 HR.out.2 HN.out HX.out.1.2.1.rm).mono ?_
        rintro e w3 ⟨rfl, hB⟩
        have HX := Lib.hid (HX.out.next hB)
        clear hB p0 p1 p2 p3 p4 p5 p6 p7 p8 r0 r1
        obtain ⟨p0, p1, p2, p3, p4, p5, p6, p7, p8⟩ := lay9 HX.out.1.1
        obtain ⟨r0, r1⟩ := lay2u HX.out.2.1
        go_wp2
        all_goals (go_ret; exact ⟨by rw [HM.out]; rfl, HX.out.1.2.2.1⟩)
set_option maxHeartbeats 4000000 in
theorem l07Element_any (X : Cf) (V : CfV) (sp : Int) (n : ByteArray) (w : World) (h : CfIn w X V) :
    Calls Tryz.prog 119 #[.agg #[.bool X.ha, .bool X.hb, .slice V.a1 X.al.length V.c1, .slice V.a2 X.rm.length V.c2, .slice V.a3 X.uw.length V.c3, .slice V.a4 X.at_.length V.c4, .slice V.a5 X.dp.length V.c5, .bool X.cm, .bool X.da], .int .i64 sp, .string n] w fun e w' => e = .returned (.bool (allB X sp n)) ∧ Below w.heap.size w w' := by
  have HX := Lib.hid (CfBox.new h 35)
  obtain ⟨p0, p1, p2, p3, p4, p5, p6, p7, p8⟩ := lay9 HX.out.1
  clear h
  cases hq : inL bannedL n with
  | true =>
    have HQ := Lib.hid hq
    have HM : Hid (allB X sp n = false) := Lib.hid (by rw [allB, hq]; rfl)
    clear hq
    go_enter Tryz.func119, Tryz.ntmps119
    go_wp2_with fail
    refine (l01Banned_any n _).mono ?_
    rintro e w1 ⟨rfl, hB⟩
    rw [HQ.out]
    have HX := Lib.hid (HX.out.next hB)
    clear hB p0 p1 p2 p3 p4 p5 p6 p7 p8
    obtain ⟨p0, p1, p2, p3, p4, p5, p6, p7, p8⟩ := lay9 HX.out.1
    go_wp2
    all_goals (go_ret; exact ⟨by rw [HM.out]; rfl, HX.out.2.2.1⟩)
  | false =>
    have HQ := Lib.hid hq
    by_cases hz : 0 ≤ ruAt X.uw sp n
    · have HM : Hid (allB X sp n = false) := Lib.hid (by rw [allB, hq, ← ruAt_has X.uw, decide_eq_true hz]; rfl)
      clear hq
      go_enter Tryz.func119, Tryz.ntmps119
      go_wp2_with fail
      refine (l01Banned_any n _).mono ?_
      rintro e w1 ⟨rfl, hB⟩
      rw [HQ.out]
      have HX := Lib.hid (HX.out.next hB)
      clear hB p0 p1 p2 p3 p4 p5 p6 p7 p8
      obtain ⟨p0, p1, p2, p3, p4, p5, p6, p7, p8⟩ := lay9 HX.out.1
      go_wp2_with fail
      refine (l07At_any X.uw sp n _ V.a3 V.c3 HX.out.2.1.uw).mono ?_
      rintro e w2 ⟨rfl, rfl⟩
      go_wp2
      all_goals (go_ret; exact ⟨by rw [HM.out]; rfl, HX.out.2.2.1⟩)
    · rcases Bool.eq_false_or_eq_true X.ha with hx | hx
      · have HM : Hid (allB X sp n = (decide (0 ≤ ruAt X.al sp n))) := Lib.hid (by rw [allB, hq, ← ruAt_has X.uw, decide_eq_false hz, hx, ruAt_has]; rfl)
        have HH := Lib.hid hx
        clear hq hx
        go_enter Tryz.func119, Tryz.ntmps119
        go_wp2_with fail
        refine (l01Banned_any n _).mono ?_
        rintro e w1 ⟨rfl, hB⟩
        rw [HQ.out]
        have HX := Lib.hid (HX.out.next hB)
        clear hB p0 p1 p2 p3 p4 p5 p6 p7 p8
        obtain ⟨p0, p1, p2, p3, p4, p5, p6, p7, p8⟩ := lay9 HX.out.1
        rw [HH.out] at p0
        go_wp2_with fail
        refine (l07At_any X.uw sp n _ V.a3 V.c3 HX.out.2.1.uw).mono ?_
        rintro e w2 ⟨rfl, rfl⟩
        go_wp2_with fail
        refine (l07At_any X.al sp n _ V.a1 V.c1 HX.out.2.1.al).mono ?_
        rintro e w3 ⟨rfl, rfl⟩
        go_wp2
        all_goals (go_ret; exact ⟨ret_bool (by first | (rw [HM.out]; done) | (rw [HM.out, Bool.eq_iff_iff]; simp <;> omega)), HX.out.2.2.1⟩)
      · have HM : Hid (allB X sp n = (!decide (0 ≤ ruAt X.rm sp n))) := Lib.hid (by rw [allB, hq, ← ruAt_has X.uw, decide_eq_false hz, hx, ruAt_has]; rfl)
        have HH := Lib.hid hx
        clear hq hx
        go_enter Tryz.func119, Tryz.ntmps119
        go_wp2_with fail
        refine (l01Banned_any n _).mono ?_
        rintro e w1 ⟨rfl, hB⟩
        rw [HQ.out]
        have HX := Lib.hid (HX.out.next hB)
        clear hB p0 p1 p2 p3 p4 p5 p6 p7 p8
        obtain ⟨p0, p1, p2, p3, p4, p5, p6, p7, p8⟩ := lay9 HX.out.1
        rw [HH.out] at p0
        go_wp2_with fail
        refine (l07At_any X.uw sp n _ V.a3 V.c3 HX.out.2.1.uw).mono ?_
        rintro e w2 ⟨rfl, rfl⟩
        go_wp2_with fail
        refine (l07At_any X.rm sp n _ V.a2 V.c2 HX.out.2.1.rm).mono ?_
        rintro e w3 ⟨rfl, rfl⟩
        go_wp2
        all_goals (go_ret; exact ⟨ret_bool (by first | (rw [HM.out]; done) | (rw [HM.out, Bool.eq_iff_iff]; simp <;> omega)), HX.out.2.2.1⟩)
end Go.Proofs.YthdkkpbhijlpaaaGreat
namespace Go.Proofs.YthdkkpbhijlpaaaGreat
open Go.ChangeShapes Go.WideShapes Go.ChangeAt Go.RowKit Go.Shelf

/-- the text has that byte -/
def hasC (s : ByteArray) (c : UInt8) : Bool := s.data.toList.contains c
/-- among the first k bytes it is not -/
def NoC (s : ByteArray) (c : UInt8) (k : Nat) : Prop := (s.data.toList.take k).contains c = false
theorem NoC.zero (s : ByteArray) (c : UInt8) : NoC s c 0 := by simp [NoC]
theorem byte_eq {a b : UInt8} (h : ((a.toNat : Int) == (b.toNat : Int)) = true) : a = b := by
  apply UInt8.toNat_inj.1; have h1 : (a.toNat : Int) = b.toNat := by simpa using h
  omega
theorem byte_ne {a b : UInt8} (h : ((a.toNat : Int) == (b.toNat : Int)) = false) : ¬ a = b := by
  rintro rfl; simp at h
theorem NoC.step {s : ByteArray} {c : UInt8} {k : Nat} (h : k < s.size) (hn : NoC s c k) (hf : ((s[k].toNat : Int) == (c.toNat : Int)) = false) : NoC s c (k + 1) := by
  have e : s.data.toList.take (k + 1) = s.data.toList.take k ++ [s[k]] := List.take_succ_eq_append_getElem (by simpa using h)
  have h1 := byte_ne hf
  rw [NoC, e, List.contains_eq_any_beq, List.any_append]
  rw [NoC, List.contains_eq_any_beq] at hn
  rw [hn]
  simp
  exact fun e => h1 e.symm
theorem hasC_hit {s : ByteArray} {c : UInt8} {k : Nat} (h : k < s.size) (hf : ((s[k].toNat : Int) == (c.toNat : Int)) = true) : true = hasC s c := by
  symm
  rw [hasC, List.contains_iff_mem, ← byte_eq hf]
  exact List.getElem_mem (by simpa using h)
theorem hasC_none {s : ByteArray} {c : UInt8} (h : NoC s c s.size) : false = hasC s c := by
  rw [NoC, List.take_of_length_le (by simp)] at h
  exact h.symm
set_option maxHeartbeats 1000000 in
theorem l02Has_any (s : ByteArray) (c : UInt8) (w : World) (hs : s.size ≤ 65536) :
    Calls Tryz.prog 156 #[.string s, .int .u8 (c.toNat : Int)] w fun e w' => e = .returned (.bool (hasC s c)) ∧ w = w' := by
  go_enter Tryz.func156, Tryz.ntmps156
  go_wp2
  go_loop [5] (fun i => ∃ k : Nat, k ≤ s.size ∧ i = .int .i64 k ∧ NoC s c k) (fun i => s.size - (intOf i).toNat)
  case atStart => exact ⟨0, Nat.zero_le _, rfl, NoC.zero s c⟩
  case round =>
    obtain ⟨k, hk, rfl, hn⟩ := hrel
    have HN := Lib.hid hn
    clear hn
    by_cases hlt : k < s.size
    · by_cases hf : ((s[k].toNat : Int) == (c.toNat : Int)) = true
      · have HF := Lib.hid hf
        go_wp2
        go_ret
        exact ⟨ret_bool (hasC_hit hlt HF.out), rfl⟩
      · have hf' : ((s[k].toNat : Int) == (c.toNat : Int)) = false := by simpa using hf
        have HF := Lib.hid hf'
        clear hf
        go_wp2
        go_round
        case rel => exact ⟨k + 1, by omega, by go_num, HN.out.step hlt HF.out⟩
        case measure => simp [intOf]; omega
    · obtain rfl : k = s.size := by omega
      go_wp2
      go_ret
      exact ⟨ret_bool (hasC_none HN.out), rfl⟩
def markupB (s : ByteArray) : Bool := decide (s.size ≤ 65536) && hasC s 60
theorem containsLt (s : ByteArray) (w : World) : Calls Tryz.prog 137 #[.string s, .string ⟨#[60]⟩] w fun e w' => e = .returned (.bool (hasC s 60)) ∧ w = w' :=
  (strings_Contains_one s 60 w).mono fun e w' ⟨h1, h2⟩ => ⟨h1.trans (ret_bool (by rw [hasC, Lib.contains_iff_indexByte])), h2.symm⟩
theorem implHasMarkup_any (s : ByteArray) (w : World) :
    Calls Tryz.prog 145 #[.string s] w fun e w' => e = .returned (.bool (markupB s)) ∧ w = w' := by
  by_cases h : (s.size : Int) ≤ 65536
  · go_enter Tryz.func145, Tryz.ntmps145
    go_wp2_with (go_at_call 137; refine (containsLt s _).mono ?_; rintro e w1 ⟨rfl, rfl⟩)
    go_ret
    exact ⟨ret_bool (by rw [markupB, decide_eq_true (by omega)]; rfl), rfl⟩
  · have h' : decide ((s.size : Int) ≤ 65536) = false := by simpa using h
    clear h
    go_enter Tryz.func145, Tryz.ntmps145
    go_wp2
    go_ret
    exact ⟨ret_bool (by rw [markupB, decide_eq_false (by simp at h'; omega)]; rfl), rfl⟩
end Go.Proofs.YthdkkpbhijlpaaaGreat
namespace Go.Proofs.YthdkkpbhijlpaaaGreat
open Go.ChangeShapes Go.WideShapes Go.ChangeAt Go.RowKit Go.Shelf

theorem encode_form {r : Int} (h : 128 ≤ r) : (∃ y z : UInt8, Utf8.encode r = ⟨#[y, z]⟩ ∧ 128 ≤ (z.toNat : Int)) ∨ (3 ≤ (Utf8.encode r).size ∧ (Utf8.encode r).size ≤ 4) := by
  have hc : 128 ≤ (if Utf8.valid r then r.toNat else Utf8.runeError) := by
    split
    · omega
    · decide
  unfold Utf8.encode
  simp only
  generalize (if Utf8.valid r then r.toNat else Utf8.runeError) = c at hc
  rw [if_neg (by omega)]
  split
  · refine Or.inl ⟨_, _, rfl, ?_⟩
    simp; omega
  · right
    split <;> simp [ByteArray.size]
theorem convRune (r : Int) (w : World) : (convert 21 9 (.int .i32 r)).run Tryz.prog w = .ok (.string (Utf8.encode r)) w := by
  simp [convert, run_underlying Tryz.underlying21, run_underlying Tryz.underlying9, Conv.intToString]
theorem validRune_any (r : Int) (w : World) : Calls Tryz.prog 206 #[.int .i32 r] w fun e w' => e = .returned (.bool (Lib.validRune r)) ∧ w = w' :=
  (utf8_ValidRune r w).mono fun _ _ ⟨h1, h2⟩ => ⟨h1, h2.symm⟩
theorem indexByte_nil (c : Int) (w : World) : Calls Tryz.prog 205 #[.string ⟨#[]⟩, .int .u8 c] w fun e w' => e = .returned (.int .i64 (-1)) ∧ w' = w :=
  (strings_IndexByte ⟨#[]⟩ c w).mono fun _ _ ⟨h1, h2⟩ => ⟨h1, h2⟩
abbrev ltgt : ByteArray := { data := #[60, 62] }
set_option maxHeartbeats 4000000 in
set_option maxRecDepth 1000000 in
/-- a rune that is none of ASCII's is not in it -/
theorem indexRune_high (r : Nat) (h : 128 ≤ r) (hr : r ≠ 65533) (w : World) :
    Calls Tryz.prog 195 #[.string ltgt, .int .i32 (r : Int)] w fun e w' => e = .returned (.int .i64 (-1)) ∧ Below w.heap.size w w' := by
  have h1 : ¬ ((r : Int) < 128) := by omega
  have h1' : decide ((r : Int) < 128) = false := by simpa using h1
  have h2 : ((r : Int) == 65533) = false := by simp; omega
  by_cases hv : Lib.validRune (r : Int) = true
  · have hconv := convRune (r : Int)
    rcases encode_form (r := (r : Int)) (by omega) with ⟨y, z, he, hz⟩ | ⟨he1, he2⟩
    · rw [he] at hconv
      have hx : ∀ w, (Instr.slice 9 (.string ltgt) (some (.int .i64 2)) none none).run Tryz.prog w = .ok (.string ⟨#[]⟩) w := fun w => by
        rw [run_slice_string_from_if w 9 ltgt .i64 _ Tryz.underlying9, if_pos (by decide)]
        rfl
      clear he
      go_enter Tryz.func195, Tryz.ntmps195
      go_wp2_with (go_at_call 206; refine (validRune_any (r : Int) _).mono ?_; rintro e w1 ⟨rfl, rfl⟩)
      go_step3
      go_wp2
      go_loopw [9] (fun i wr => i = .int .i64 1 ∧ wr = w) (fun _ _ => 0)
      case atStart => exact ⟨rfl, rfl⟩
      case round =>
        obtain ⟨rfl, rfl⟩ := hrel
        have hw2 : IntKind.i64.wrap 2 = 2 := by decide
        have hne : (((ltgt[1]'(by decide)).toNat : Int) != (((ByteArray.mk #[y, z])[1]'(Nat.lt_succ_self 1)).toNat : Int)) = true := by
          show ((62 : Int) != (z.toNat : Int)) = true
          simp; omega
        go_wp2
        go_step3
        go_wp2
        go_quiet (fail)
        have hq : Below wr.heap.size wr (wr.drewN nq) := below_drewN (Below.refl _ _) nq
        generalize wr.drewN nq = w2 at hq ⊢
        go_wp2
        go_quiet ((go_at_call 205; exact Calls.quiet_of_same (indexByte_nil _ _)))
        have hq2 : Below wr.heap.size wr (w2.drewN nq) := below_drewN hq nq
        generalize w2.drewN nq = w3 at hq2 ⊢
        go_wp2
        repeat (change Exit.noGoto _ .ret _ _; rw [Exit.noGoto_ret])
        go_ret
        exact ⟨rfl, hq2⟩
    · clear h1
      generalize Utf8.encode (r : Int) = bs at hconv he1 he2
      go_enter Tryz.func195, Tryz.ntmps195
      go_wp2_with (go_at_call 206; refine (validRune_any (r : Int) _).mono ?_; rintro e w1 ⟨rfl, rfl⟩)
      go_step3
      go_wp2
      go_loopw [9] (fun i wr => i = .int .i64 ((bs.size : Int) - 1) ∧ wr = w) (fun _ _ => 0)
      case atStart => exact ⟨rfl, rfl⟩
      case round =>
        obtain ⟨rfl, rfl⟩ := hrel
        go_wp2
        rw [Exit.noGoto_ret]
        go_ret
        exact ⟨rfl, Below.refl _ _⟩
  · have hv' : Lib.validRune (r : Int) = false := by simpa using hv
    clear hv
    go_enter Tryz.func195, Tryz.ntmps195
    go_wp2_with (go_at_call 206; refine (validRune_any (r : Int) _).mono ?_; rintro e w1 ⟨rfl, rfl⟩)
    go_ret
    exact ⟨rfl, Below.refl _ _⟩
end Go.Proofs.YthdkkpbhijlpaaaGreat
namespace Go.Proofs.YthdkkpbhijlpaaaGreat

/-- the bytes of a rune behind its first are no marks -/
theorem conts {s : ByteArray} {pos : Nat} (h : pos < s.size) (ha : 128 ≤ (s[pos]'h).toNat) (j : Nat) (hj : j < s.size) (h1 : pos ≤ j) (h2 : j < pos + (Utf8.decode s pos).2) : 128 ≤ (s[j]'hj).toNat := by
  have hc := Lib.decodeN_conts (s.data.toList.length - pos) (s.data.toList.getD pos 0).toNat (s.data.toList.getD (pos + 1) 0).toNat (s.data.toList.getD (pos + 2) 0).toNat (s.data.toList.getD (pos + 3) 0).toNat
  rw [← Lib.decode_N] at hc
  obtain ⟨c2, c3, c4, c5⟩ := hc
  have key : ∀ d, j = pos + d → (s.data.toList.getD (pos + d) 0).toNat / 64 = 2 → 128 ≤ (s[j]'hj).toNat := by
    rintro d rfl hd
    rw [List.getD_eq_getElem?_getD, List.getElem?_eq_getElem (by simpa using hj)] at hd
    have : (s[pos + d]'hj).toNat / 64 = 2 := hd
    omega
  obtain ⟨d, rfl⟩ := Nat.exists_eq_add_of_le h1
  have hd : d < 4 := by omega
  match d, hd with
  | 0, _ => exact ha
  | 1, _ => exact key 1 rfl (c2 (by omega)).1
  | 2, _ => exact key 2 rfl (c3 (by omega)).1
  | 3, _ => exact key 3 rfl (c4 (by omega)).1
theorem width_in {s : ByteArray} {pos : Nat} (h : pos < s.size) : 1 ≤ (Utf8.decode s pos).2 ∧ pos + (Utf8.decode s pos).2 ≤ s.size := by
  have h1 : 1 ≤ (Utf8.decode s pos).2 := by
    by_cases ha : (s[pos]'h).toNat < 128
    · rw [decode_ascii s pos h ha]; exact Nat.le_refl _
    · exact (decode_high s pos h (by omega)).2
  have hc := Lib.decodeN_conts (s.data.toList.length - pos) (s.data.toList.getD pos 0).toNat (s.data.toList.getD (pos + 1) 0).toNat (s.data.toList.getD (pos + 2) 0).toNat (s.data.toList.getD (pos + 3) 0).toNat
  rw [← Lib.decode_N] at hc
  obtain ⟨c2, c3, c4, c5⟩ := hc
  have hl : s.data.toList.length = s.size := by simp
  rw [hl] at c2 c3 c4
  refine ⟨h1, ?_⟩
  by_cases e2 : 2 ≤ (Utf8.decode s pos).2
  · by_cases e3 : 3 ≤ (Utf8.decode s pos).2
    · by_cases e4 : 4 ≤ (Utf8.decode s pos).2
      · have := (c4 e4).2; omega
      · have := (c3 e3).2; omega
    · have := (c2 e2).2; omega
  · omega
end Go.Proofs.YthdkkpbhijlpaaaGreat
