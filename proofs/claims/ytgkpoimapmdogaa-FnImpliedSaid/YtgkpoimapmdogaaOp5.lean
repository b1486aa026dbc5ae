import Derived.Test.YtgkpoimapmdogaaOp4
import Derived.Laws.StructEq
import Derived.Deep.DeepCutAuto
namespace Go.Proofs.Ytgkpoimapmdogaa
open Go.ChangeShapes Go.WideShapes Go.ChangeAt Go.RowKit Go.Deep

theorem fieldsOpen : Try.prog.underlying 31 = some (.struct (Try.prog.fieldsOf 31)) := by kernel_rfl
theorem heldOpen : Try.prog.stoodInHeld 31 = false := by kernel_rfl
theorem guardOpen : Try.prog.eqGuardType Try.prog.depth 31 = false := by kernel_rfl
theorem run_guardOpen (xs ys : Array Value) (x y : Operand) (w : World) : (eqGuard .eql 31 x y (.agg xs) (.agg ys)).run Try.prog w = .ok () w := run_eqGuard_agg w _ _ _ _ _ _ guardOpen
theorem fieldsL : ∃ f0 f1 : Field, (Try.prog.fieldsOf 31).toList = [f0, f1] ∧ (f0.name ≠ "_" ∧ f1.name ≠ "_") ∧ (f0.offset = 0 ∧ f1.offset = 1) ∧ f0.type = 9 ∧ f1.type = 3 := by
  refine ⟨(Try.prog.fieldsOf 31)[0]!, (Try.prog.fieldsOf 31)[1]!, by kernel_rfl, ⟨?_, ?_⟩, ⟨by kernel_rfl, by kernel_rfl⟩, by kernel_rfl, by kernel_rfl⟩
  all_goals (refine of_decide_eq_true ?_; kernel_rfl)
theorem run_eqlOpen (s s' : ByteArray) (z z' : Int) (w : World) : (binOp .eql 31 (.agg #[.string s, .int .i64 z]) (.agg #[.string s', .int .i64 z'])).run Try.prog w = .ok (.bool ((s.toList == s'.toList) && (z == z'))) w := by
  obtain ⟨f0, f1, hf, ⟨n0, n1⟩, ⟨o0, o1⟩, t0, t1⟩ := fieldsL
  rw [run_eql_struct, run_equalIn_agg w 9999 _ _ _ fieldsOpen heldOpen, hf]
  simp only [Op.eqFields, n0, n1, o0, o1, t0, t1, ne_eq, not_false_eq_true, if_true]
  have p0 : ∀ (a b : Value) (w : World), (part 9 #[a, b] 0).run Try.prog w = .ok a w := fun a b w => by kernel_rfl
  have p1 : ∀ (a b : Value) (w : World), (part 3 #[a, b] 1).run Try.prog w = .ok b w := fun a b w => by kernel_rfl
  simp only [Sem.run_bind, p0, p1, Result.andThen_ok, run_equalIn_string w _ _ _ _ Try.underlying9, run_equalIn_int w _ _ _ _ _ _ Try.underlying3]
  cases s.toList == s'.toList <;> cases h2 : (z == z') <;> simp [Result.andThen_ok, p0, p1, run_equalIn_string w _ _ _ _ Try.underlying9, run_equalIn_int w _ _ _ _ _ _ Try.underlying3, *]
  all_goals simpa using h2

/-- how many are left when an element of that name begins: behind what breaks out .. -/
def left1 (l : List (ByteArray × Int)) (n : ByteArray) : Nat := if inL outL n = true then cutOf htmlB l else l.length
def isTop (l : List (ByteArray × Int)) (k : Nat) (s : List UInt8) : Bool := (topOf (l.take k)).1.toList == s && (topOf (l.take k)).2 == 0
/-- .. behind the end of a p .. -/
def left2 (l : List (ByteArray × Int)) (n : ByteArray) : Nat := if (isTop l (left1 l n) [112] && inL endsL n) = true then left1 l n - 1 else left1 l n
/-- .. behind the end of an li -/
def leftOf (l : List (ByteArray × Int)) (n : ByteArray) : Nat := if (isTop l (left2 l n) [108, 105] && (n.toList == [108, 105])) = true then left2 l n - 1 else left2 l n
theorem left1_le (l : List (ByteArray × Int)) (n : ByteArray) : left1 l n ≤ l.length := by
  unfold left1; have := cutOf_le htmlB l; split <;> omega
theorem left2_le (l : List (ByteArray × Int)) (n : ByteArray) : left2 l n ≤ l.length := by
  unfold left2; have := left1_le l n; split <;> omega
theorem leftOf_le (l : List (ByteArray × Int)) (n : ByteArray) : leftOf l n ≤ l.length := by
  unfold leftOf; have := left2_le l n; split <;> omega
theorem isTop_pos {l : List (ByteArray × Int)} {k : Nat} {s : List UInt8} (hs : s ≠ []) (h : isTop l k s = true) : 0 < k := by
  rcases Nat.eq_zero_or_pos k with rfl | h0
  · exfalso
    simp only [isTop, List.take_zero, topOf_nil, Bool.and_eq_true, beq_iff_eq] at h
    exact hs (by rw [← h.1]; exact is_nil (s := ⟨#[]⟩) (by decide))
  · exact h0

/-- a stack in slot: k of l -/
def StackIs (v : Value) (w : World) (b o : Nat) (l : List (ByteArray × Int)) (k : Nat) : Prop := ∃ A c, v = .slice A k c ∧ k ≤ c ∧ OsIn w A b o (l.take k)
theorem StackIs.mk' {v : Value} {w : World} {b o : Nat} {l : List (ByteArray × Int)} {k : Nat} (A : Option Addr) (c : Nat) (h : v = .slice A k c) (hc : k ≤ c) (hl : OsIn w A b o (l.take k)) : StackIs v w b o l k := ⟨A, c, h, hc, hl⟩

theorem slice_stack (A : Option Addr) (b o n c k : Nat) (hk : k ≤ c) (hA : A = some ⟨b, o, none⟩ ∨ (A = none ∧ c = 0)) (w : World) : (Instr.slice 44 (.slice A n c) none (some (.int .i64 (k : Int))) none).run Try.prog w = .ok (.slice A k c) w := by
  have he : Try.prog.elem 44 = 31 := by kernel_rfl
  have ht : Try.prog.underlying 44 = some (.slice (Try.prog.elem 44)) := by kernel_rfl
  have hs : (sizeOf 31).run Try.prog w = .ok 2 w := by kernel_rfl
  rw [run_slice_h w _ _ _ _ ht .i64 (k : Int) (by omega) (by omega), he, hs]
  show Result.ok (sliced A 0 (k : Int).toNat c 2) w = _
  unfold sliced
  rw [Int.toNat_natCast]
  by_cases e : c = 0
  · subst e
    obtain rfl : k = 0 := by omega
    rfl
  · rw [if_neg e]
    rcases hA with rfl | ⟨rfl, h⟩
    · simp [Addr.add]
    · omega

theorem innermost_k (l : List (ByteArray × Int)) (k : Nat) (w : World) (A : Option Addr) (c b o : Nat) (hk : k ≤ l.length) (hl : OsIn w A b o (l.take k)) :
    Calls Try.prog 47 #[.slice A k c] w fun e w' => e = .returned (.agg #[.string (topOf (l.take k)).1, .int .i64 (topOf (l.take k)).2]) ∧ Below w.heap.size w w' := by
  have := innermost_any (l.take k) w A c b o hl
  rwa [List.length_take, Nat.min_eq_left hk] at this
theorem eql_top {l : List (ByteArray × Int)} {k : Nat} {s : List UInt8} {bp : Bool} (h : isTop l k s = bp) (w : World) :
    (binOp .eql 31 (.agg #[.string (topOf (l.take k)).1, .int .i64 (topOf (l.take k)).2]) (.agg #[.string ⟨s.toArray⟩, .int .i64 0])).run Try.prog w = .ok (.bool bp) w := by
  rw [run_eqlOpen, ← h, isTop, ByteArray.toList_eq ⟨s.toArray⟩]
theorem isTop_le {l : List (ByteArray × Int)} {k : Nat} {s : List UInt8} {w : World} {A : Option Addr} {b o : Nat} (hs : s ≠ []) (hk : k ≤ l.length) (h : isTop l k s = true) (hl : OsIn w A b o (l.take k)) : 0 < k ∧ A = some ⟨b, o, none⟩ := by
  have h0 := isTop_pos hs h
  exact ⟨h0, (hl.1.2 (by rw [List.length_take]; omega)).1⟩
theorem take_take' {l : List (ByteArray × Int)} {k j : Nat} (h : j ≤ k) : (l.take k).take j = l.take j := by rw [List.take_take, Nat.min_eq_left h]

set_option maxHeartbeats 1000000 in
theorem leftOpen_any (l : List (ByteArray × Int)) (n : ByteArray) (w : World) (A : Option Addr) (c b o : Nat) (hn : n.size ≤ maxLen) (hc : l.length ≤ c) (hA : A = some ⟨b, o, none⟩ ∨ (A = none ∧ c = 0)) (hl : OsIn w A b o l) :
    Calls Try.prog 25 #[.slice A l.length c, .string n] w fun e w' => ∃ v, e = .returned v ∧ StackIs v w' b o l (leftOf l n) ∧ Below w.heap.size w w' := by
  have hml := hl.1.1
  unfold maxLen at hml
  have HL := Lib.hid hl
  have HN := Lib.hid hn
  have hcl := cutOf_le htmlB l
  obtain ⟨bo, hbo⟩ : ∃ bo, inL outL n = bo := ⟨_, rfl⟩
  have HBO := Lib.hid hbo
  clear hl hn hbo
  go_enter Try.func25, Try.ntmps25
  go_upto_if 7 with (go_at_call 45; refine (implBreaksOut_any n _ HN.out).mono ?_; rintro e w1 ⟨rfl, hB⟩; rw [HBO.out]; have B1 := Lib.hid hB; clear hB)
  go_cut [0] (fun s0 wx => StackIs s0 wx b o l (left1 l n) ∧ Below w.heap.size w wx)
  case first =>
    cases bo
    case true =>
      have HK : Hid (left1 l n = cutOf htmlB l) := Lib.hid (if_pos HBO.out)
      have hsl := slice_stack A b o l.length c (cutOf htmlB l) (by omega) hA
      have hz : ((cutOf htmlB l : Nat) : Int) - 1 + 1 = ((cutOf htmlB l : Nat) : Int) := by omega
      go_wp2_with (go_at_call 28; refine (placeHtml_any l _ A c b o (HL.out.next B1.out)).mono ?_; rintro e w2 ⟨rfl, hB⟩; have B2 := Lib.hid (B1.out.trans (hB.mono B1.out.size)); clear hB)
      go_meet
      exact ⟨StackIs.mk' A c (by rw [HK.out]) (by rw [HK.out]; omega) ((HL.out.next B2.out).take _), B2.out⟩
    case false =>
      have HK : Hid (left1 l n = l.length) := Lib.hid (if_neg (by rw [HBO.out]; decide))
      go_wp2
      go_meet
      exact ⟨StackIs.mk' A c (by rw [HK.out]) (by rw [HK.out]; exact hc) ((HL.out.next B1.out).take _), B1.out⟩
  case rest =>
    obtain ⟨⟨A1, c1, rfl, hc1, hl1⟩, hB⟩ := hcut
    have HB1 := Lib.hid hB
    have HL1 := Lib.hid hl1
    obtain ⟨bp, hbp⟩ : ∃ bp, isTop l (left1 l n) [112] = bp := ⟨_, rfl⟩
    obtain ⟨be, hbe⟩ : ∃ be : Bool, inL endsL n = be := ⟨_, rfl⟩
    have HBP := Lib.hid hbp
    have HBE := Lib.hid hbe
    have hkl := left1_le l n
    have heq := eql_top hbp
    clear hB hl1 hbp hbe
    go_upto_region 4 with fail
    go_cut [21] (fun s wx => s = .bool (bp && be) ∧ Below w.heap.size w wx ∧ OsIn wx A1 b o (l.take (left1 l n)))
    case first =>
      cases bp <;> cases be
      all_goals (
        have HBe := HBE.out
        go_wp2_with (first | (go_at_call 47; refine (innermost_k l _ _ A1 c1 b o hkl (HL1.out)).mono ?_; rintro e w2 ⟨rfl, hB⟩; have B2 := Lib.hid (HB1.out.trans (hB.mono HB1.out.size)); have L2 := Lib.hid (HL1.out.next hB); clear hB) | (go_at_call 48; refine (endsParagraph_any n _).mono ?_; rintro e w3 ⟨rfl, rfl⟩; rw [HBE.out]))
        go_meet
        exact ⟨rfl, B2.out, L2.out⟩)
    case rest =>
      obtain ⟨rfl, hB, hl3⟩ := hcut
      obtain ⟨bb, hbb⟩ : ∃ bb, (bp && be) = bb := ⟨_, rfl⟩
      have HBB := Lib.hid hbb
      have HB3 := Lib.hid hB
      have HL3 := Lib.hid hl3
      rw [hbb]
      clear hbb hB heq hl3
      go_upto_if 21 with fail
      go_cut [0] (fun s0 wx => StackIs s0 wx b o l (left2 l n) ∧ Below w.heap.size w wx)
      case first =>
        cases bb
        case true =>
          have hbp : bp = true := by have := HBB.out; cases bp <;> simp_all
          obtain ⟨h0, rfl⟩ := isTop_le (by decide) hkl (HBP.out.trans hbp) HL1.out
          have HK : Hid (left2 l n = left1 l n - 1) := Lib.hid (if_pos (by rw [HBP.out, HBE.out]; exact HBB.out))
          go_wp2_with (go_at_call 49; refine (withoutInnermost_any (left1 l n) c1 b o _ h0 hc1 (by unfold maxLen; omega)).mono ?_; rintro e w2 ⟨rfl, rfl⟩)
          go_meet
          exact ⟨StackIs.mk' _ c1 (by rw [HK.out]) (by rw [HK.out]; omega) (by rw [HK.out, ← take_take' (show left1 l n - 1 ≤ left1 l n by omega)]; exact HL3.out.take _), HB3.out⟩
        case false =>
          have HK : Hid (left2 l n = left1 l n) := Lib.hid (if_neg (by rw [HBP.out, HBE.out, HBB.out]; decide))
          go_wp2
          go_meet
          exact ⟨StackIs.mk' A1 c1 (by rw [HK.out]) (by rw [HK.out]; exact hc1) (by rw [HK.out]; exact HL3.out), HB3.out⟩
      case rest =>
        obtain ⟨⟨A2, c2, rfl, hc2, hl2⟩, hB⟩ := hcut
        clear HBP HBE HBB HB1 HL1 HL3 HB3
        have HB1 := Lib.hid hB
        have HL1 := Lib.hid hl2
        obtain ⟨bp, hbp⟩ : ∃ bp, isTop l (left2 l n) [108, 105] = bp := ⟨_, rfl⟩
        obtain ⟨be, hbe⟩ : ∃ be : Bool, (n.toList == [108, 105]) = be := ⟨_, rfl⟩
        have HBP := Lib.hid hbp
        have HBE := Lib.hid hbe
        have hkl2 := left2_le l n
        have heq := eql_top hbp
        clear hB hl2 hbp hbe
        go_upto_region 6 with fail
        go_cut [31] (fun s wx => s = .bool (bp && be) ∧ Below w.heap.size w wx ∧ OsIn wx A2 b o (l.take (left2 l n)))
        case first =>
          cases bp <;> cases be
          all_goals (
            have HBe := HBE.out
            go_wp2_with (go_at_call 47; refine (innermost_k l _ _ A2 c2 b o hkl2 (HL1.out)).mono ?_; rintro e w2 ⟨rfl, hB⟩; have B2 := Lib.hid (HB1.out.trans (hB.mono HB1.out.size)); have L2 := Lib.hid (HL1.out.next hB); clear hB)
            go_meet
            exact ⟨rfl, B2.out, L2.out⟩)
        case rest =>
          obtain ⟨rfl, hB, hl3⟩ := hcut
          obtain ⟨bb, hbb⟩ : ∃ bb, (bp && be) = bb := ⟨_, rfl⟩
          have HBB := Lib.hid hbb
          have HB3 := Lib.hid hB
          have HL3 := Lib.hid hl3
          rw [hbb]
          clear hbb hB heq hl3
          cases bb
          case true =>
            have hbp : bp = true := by have := HBB.out; cases bp <;> simp_all
            obtain ⟨h0, rfl⟩ := isTop_le (by decide) hkl2 (HBP.out.trans hbp) HL1.out
            have HK : Hid (leftOf l n = left2 l n - 1) := Lib.hid (if_pos (by rw [HBP.out, HBE.out]; exact HBB.out))
            go_wp2_with (go_at_call 49; refine (withoutInnermost_any (left2 l n) c2 b o _ h0 hc2 (by unfold maxLen; omega)).mono ?_; rintro e w2 ⟨rfl, rfl⟩)
            go_ret
            exact ⟨_, rfl, StackIs.mk' _ c2 (by rw [HK.out]; rfl) (by rw [HK.out]; omega) (by rw [HK.out, ← take_take' (show left2 l n - 1 ≤ left2 l n by omega)]; exact HL3.out.take _), HB3.out⟩
          case false =>
            have HK : Hid (leftOf l n = left2 l n) := Lib.hid (if_neg (by rw [HBP.out, HBE.out, HBB.out]; decide))
            go_wp2
            go_ret
            exact ⟨_, rfl, StackIs.mk' A2 c2 (by rw [HK.out]; rfl) (by rw [HK.out]; exact hc2) (by rw [HK.out]; exact HL3.out), HB3.out⟩
end Go.Proofs.Ytgkpoimapmdogaa
