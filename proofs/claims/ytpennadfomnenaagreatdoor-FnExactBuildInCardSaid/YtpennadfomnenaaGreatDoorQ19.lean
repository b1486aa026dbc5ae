import Derived.Laws.StructEq
import Derived.Deep.DeepCutAuto
import Derived.Test.YtpennadfomnenaaGreatDoorQ18
import Derived.Test.YtpennadfomnenaaGreatDoorQ13
import Derived.Test.YtpennadfomnenaaGreatDoorQ15
set_option linter.unusedVariables false
namespace Go.Proofs.YtpennadfomnenaaGreatDoor
open Go.ChangeShapes Go.WideShapes Go.ChangeAt Go.RowKit Go.Deep

theorem fieldsOpen : Tryz.prog.underlying 196 = some (.struct (Tryz.prog.fieldsOf 196)) := by kernel_rfl
theorem heldOpen : Tryz.prog.stoodInHeld 196 = false := by kernel_rfl
theorem fieldsL : ∃ f0 f1 : Field, (Tryz.prog.fieldsOf 196).toList = [f0, f1] ∧ (f0.name ≠ "_" ∧ f1.name ≠ "_") ∧ (f0.offset = 0 ∧ f1.offset = 1) ∧ f0.type = 9 ∧ f1.type = 3 := by
  refine ⟨(Tryz.prog.fieldsOf 196)[0]!, (Tryz.prog.fieldsOf 196)[1]!, by kernel_rfl, ⟨?_, ?_⟩, ⟨by kernel_rfl, by kernel_rfl⟩, by kernel_rfl, by kernel_rfl⟩
  all_goals (refine of_decide_eq_true ?_; kernel_rfl)
theorem run_eqlOpen (s s' : ByteArray) (z z' : Int) (w : World) : (binOp .eql 196 (.agg #[.string s, .int .i64 z]) (.agg #[.string s', .int .i64 z'])).run Tryz.prog w = .ok (.bool ((s.toList == s'.toList) && (z == z'))) w := by
  obtain ⟨f0, f1, hf, ⟨n0, n1⟩, ⟨o0, o1⟩, t0, t1⟩ := fieldsL
  rw [run_eql_struct, run_equalIn_agg w 9999 _ _ _ fieldsOpen heldOpen, hf]
  simp only [Op.eqFields, n0, n1, o0, o1, t0, t1, ne_eq, not_false_eq_true, if_true]
  have p0 : ∀ (a b : Value) (w : World), (part 9 #[a, b] 0).run Tryz.prog w = .ok a w := fun a b w => by kernel_rfl
  have p1 : ∀ (a b : Value) (w : World), (part 3 #[a, b] 1).run Tryz.prog w = .ok b w := fun a b w => by kernel_rfl
  simp only [Sem.run_bind, p0, Result.andThen_ok, run_equalIn_string w _ _ _ _ Tryz.underlying9]
  cases s.toList == s'.toList <;> cases h2 : (z == z') <;> simp [Result.andThen_ok, run_equalIn_int w _ _ _ _ _ _ Tryz.underlying3, *]
  all_goals simpa using h2
/-- how many are left when an element of that name begins: behind what breaks out .. -/
def left1 (l : List (ByteArray × Int)) (n : ByteArray) : Nat := if inL outL n = true then cutOf htmlB l else l.length
def isTop (l : List (ByteArray × Int)) (k : Nat) (s : List UInt8) : Bool := (topOf (l.take k)).1.toList == s && (topOf (l.take k)).2 == 0
/-- .. behind the end of a p .. -/
def left2 (l : List (ByteArray × Int)) (n : ByteArray) : Nat := if (isTop l (left1 l n) [112] && inL endsL n) = true then left1 l n - 1 else left1 l n
/-- .. behind the end of an li -/
def leftOf (l : List (ByteArray × Int)) (n : ByteArray) : Nat := if (isTop l (left2 l n) [108, 105] && (n.toList == [108, 105])) = true then left2 l n - 1 else left2 l n
theorem left1_le (l : List (ByteArray × Int)) (n : ByteArray) : left1 l n ≤ l.length := by
  unfold left1; have := cutOf_le htmlB l; split <;> omega
theorem left2_le (l : List (ByteArray × Int)) (n : ByteArray) : left2 l n ≤ l.length := by
  unfold left2; have := left1_le l n; split <;> omega
theorem leftOf_le (l : List (ByteArray × Int)) (n : ByteArray) : leftOf l n ≤ l.length := by
  unfold leftOf; have := left2_le l n; split <;> omega
theorem isTop_pos {l : List (ByteArray × Int)} {k : Nat} {s : List UInt8} (hs : s ≠ []) (h : isTop l k s = true) : 0 < k := by
  rcases Nat.eq_zero_or_pos k with rfl | h0
  · exfalso
    simp only [isTop, List.take_zero, topOf_nil, Bool.and_eq_true, beq_iff_eq] at h
    exact hs (by rw [← h.1]; exact is_nil (s := ⟨#[]⟩) (by decide))
  · exact h0
/-- a stack in slot: k of l -/
def StackIs (v : Value) (w : World) (b o : Nat) (l : List (ByteArray × Int)) (k : Nat) : Prop := ∃ A c, v = .slice A k c ∧ k ≤ c ∧ OsIn w A b o (l.take k)
theorem StackIs.mk' {v : Value} {w : World} {b o : Nat} {l : List (ByteArray × Int)} {k : Nat} (A : Option Addr) (c : Nat) (h : v = .slice A k c) (hc : k ≤ c) (hl : OsIn w A b o (l.take k)) : StackIs v w b o l k := ⟨A, c, h, hc, hl⟩
theorem slice_stack (A : Option Addr) (b o n c k : Nat) (hk : k ≤ c) (hA : A = some ⟨b, o, none⟩ ∨ (A = none ∧ c = 0)) (w : World) : (Instr.slice 216 (.slice A n c) none (some (.int .i64 (k : Int))) none).run Tryz.prog w = .ok (.slice A k c) w := by
  have he : Tryz.prog.elem 216 = 196 := by kernel_rfl
  have ht : Tryz.prog.underlying 216 = some (.slice (Tryz.prog.elem 216)) := by kernel_rfl
  have hs : (sizeOf 196).run Tryz.prog w = .ok 2 w := by kernel_rfl
  rw [run_slice_h w _ _ _ _ ht .i64 (k : Int) (by omega) (by omega), he, hs]
  show Result.ok (sliced A 0 (k : Int).toNat c 2) w = _
  unfold sliced
  rw [Int.toNat_natCast]
  by_cases e : c = 0
  · subst e
    obtain rfl : k = 0 := by omega
    rfl
  · rw [if_neg e]
    rcases hA with rfl | ⟨rfl, h⟩
    · simp [Addr.add]
    · omega
theorem innermost_k (l : List (ByteArray × Int)) (k : Nat) (w : World) (A : Option Addr) (c b o : Nat) (hk : k ≤ l.length) (hl : OsIn w A b o (l.take k)) :
    Calls Tryz.prog 258 #[.slice A k c] w fun e w' => e = .returned (.agg #[.string (topOf (l.take k)).1, .int .i64 (topOf (l.take k)).2]) ∧ Below w.heap.size w w' := by
  have := innermost_any (l.take k) w A c b o hl
  rwa [List.length_take, Nat.min_eq_left hk] at this
theorem eql_top {l : List (ByteArray × Int)} {k : Nat} {s : List UInt8} {bp : Bool} (h : isTop l k s = bp) (w : World) :
    (binOp .eql 196 (.agg #[.string (topOf (l.take k)).1, .int .i64 (topOf (l.take k)).2]) (.agg #[.string ⟨s.toArray⟩, .int .i64 0])).run Tryz.prog w = .ok (.bool bp) w := by
  rw [run_eqlOpen, ← h, isTop, ByteArray.toList_eq ⟨s.toArray⟩]
theorem isTop_le {l : List (ByteArray × Int)} {k : Nat} {s : List UInt8} {w : World} {A : Option Addr} {b o : Nat} (hs : s ≠ []) (hk : k ≤ l.length) (h : isTop l k s = true) (hl : OsIn w A b o (l.take k)) : 0 < k ∧ A = some ⟨b, o, none⟩ := by
  have h0 := isTop_pos hs h
  exact ⟨h0, (hl.1.2 (by rw [List.length_take]; omega)).1⟩
theorem take_take' {l : List (ByteArray × Int)} {k j : Nat} (h : j ≤ k) : (l.take k).take j = l.take j := by rw [List.take_take, Nat.min_eq_left h]
set_option maxHeartbeats 1000000 in
theorem leftOpen_any (l : List (ByteArray × Int)) (n : ByteArray) (w : World) (A : Option Addr) (c b o : Nat) (hn : n.size ≤ maxLen) (hc : l.length ≤ c) (hA : A = some ⟨b, o, none⟩ ∨ (A = none ∧ c = 0)) (hl : OsIn w A b o l) :
    Calls Tryz.prog 227 #[.slice A l.length c, .string n] w fun e w' => ∃ v, e = .returned v ∧ StackIs v w' b o l (leftOf l n) ∧ Below w.heap.size w w' := by
  have hml := hl.1.1
  unfold maxLen at hml
  have HL := Lib.hid hl
  have HN := Lib.hid hn
  have hcl := cutOf_le htmlB l
  obtain ⟨bo, hbo⟩ : ∃ bo, inL outL n = bo := ⟨_, rfl⟩
  have HBO := Lib.hid hbo
  clear hl hn hbo
  go_enter Tryz.func227, Tryz.ntmps227
  go_upto_if 7 with (go_at_call 255; refine (implBreaksOut_any n _ HN.out).mono ?_; rintro e w1 ⟨rfl, hB⟩; rw [HBO.out]; have B1 := Lib.hid hB; clear hB)
  go_cut [0] (fun s0 wx => StackIs s0 wx b o l (left1 l n) ∧ Below w.heap.size w wx)
  case first =>
    cases bo
    case true =>
      have HK : Hid (left1 l n = cutOf htmlB l) := Lib.hid (if_pos HBO.out)
      have hsl := slice_stack A b o l.length c (cutOf htmlB l) (by omega) hA
      have hz : ((cutOf htmlB l : Nat) : Int) - 1 + 1 = ((cutOf htmlB l : Nat) : Int) := by omega
      go_wp2_with (go_at_call 256; refine (placeHtml_any l _ A c b o (HL.out.next B1.out)).mono ?_; rintro e w2 ⟨rfl, hB⟩; have B2 := Lib.hid (B1.out.trans (hB.mono B1.out.size)); clear hB)
      go_meet
      exact ⟨StackIs.mk' A c (by rw [HK.out]) (by rw [HK.out]; omega) ((HL.out.next B2.out).take _), B2.out⟩
    case false =>
      have HK : Hid (left1 l n = l.length) := Lib.hid (if_neg (by rw [HBO.out]; decide))
      go_wp2
      go_meet
      exact ⟨StackIs.mk' A c (by rw [HK.out]) (by rw [HK.out]; exact hc) ((HL.out.next B1.out).take _), B1.out⟩
  case rest =>
    obtain ⟨⟨A1, c1, rfl, hc1, hl1⟩, hB⟩ := hcut
    have HB1 := Lib.hid hB
    have HL1 := Lib.hid hl1
    obtain ⟨bp, hbp⟩ : ∃ bp, isTop l (left1 l n) [112] = bp := ⟨_, rfl⟩
    obtain ⟨be, hbe⟩ : ∃ be : Bool, inL endsL n = be := ⟨_, rfl⟩
    have HBP := Lib.hid hbp
    have HBE := Lib.hid hbe
    have hkl := left1_le l n
    have heq := eql_top hbp
    clear hB hl1 hbp hbe
    go_upto_region 4 with fail
    go_cut [21] (fun s wx => s = .bool (bp && be) ∧ Below w.heap.size w wx ∧ OsIn wx A1 b o (l.take (left1 l n)))
    case first =>
      cases bp <;> cases be
      all_goals (
        have HBe := HBE.out
        go_wp2_with (first | (go_at_call 258; refine (innermost_k l _ _ A1 c1 b o hkl (HL1.out)).mono ?_; rintro e w2 ⟨rfl, hB⟩; have B2 := Lib.hid (HB1.out.trans (hB.mono HB1.out.size)); have L2 := Lib.hid (HL1.out.next hB); clear hB) | (go_at_call 259; refine (endsParagraph_any n _).mono ?_; rintro e w3 ⟨rfl, rfl⟩; rw [HBE.out]))
        go_meet
        exact ⟨rfl, B2.out, L2.out⟩)
    case rest =>
      obtain ⟨rfl, hB, hl3⟩ := hcut
      obtain ⟨bb, hbb⟩ : ∃ bb, (bp && be) = bb := ⟨_, rfl⟩
      have HBB := Lib.hid hbb
      have HB3 := Lib.hid hB
      have HL3 := Lib.hid hl3
      rw [hbb]
      clear hbb hB heq hl3
      go_upto_if 21 with fail
      go_cut [0] (fun s0 wx => StackIs s0 wx b o l (left2 l n) ∧ Below w.heap.size w wx)
      case first =>
        cases bb
        case true =>
          have hbp : bp = true := by have := HBB.out; cases bp <;> simp_all
          obtain ⟨h0, rfl⟩ := isTop_le (by decide) hkl (HBP.out.trans hbp) HL1.out
          have HK : Hid (left2 l n = left1 l n - 1) := Lib.hid (if_pos (by rw [HBP.out, HBE.out]; exact HBB.out))
          go_wp2_with (go_at_call 260; refine (withoutInnermost_any (left1 l n) c1 b o _ h0 hc1 (by unfold maxLen; omega)).mono ?_; rintro e w2 ⟨rfl, rfl⟩)
          go_meet
          exact ⟨StackIs.mk' _ c1 (by rw [HK.out]) (by rw [HK.out]; omega) (by rw [HK.out, ← take_take' (show left1 l n - 1 ≤ left1 l n by omega)]; exact HL3.out.take _), HB3.out⟩
        case false =>
          have HK : Hid (left2 l n = left1 l n) := Lib.hid (if_neg (by rw [HBP.out, HBE.out, HBB.out]; decide))
          go_wp2
          go_meet
          exact ⟨StackIs.mk' A1 c1 (by rw [HK.out]) (by rw [HK.out]; exact hc1) (by rw [HK.out]; exact HL3.out), HB3.out⟩
      case rest =>
        obtain ⟨⟨A2, c2, rfl, hc2, hl2⟩, hB⟩ := hcut
        clear HBP HBE HBB HB1 HL1 HL3 HB3
        have HB1 := Lib.hid hB
        have HL1 := Lib.hid hl2
        obtain ⟨bp, hbp⟩ : ∃ bp, isTop l (left2 l n) [108, 105] = bp := ⟨_, rfl⟩
        obtain ⟨be, hbe⟩ : ∃ be : Bool, (n.toList == [108, 105]) = be := ⟨_, rfl⟩
        have HBP := Lib.hid hbp
        have HBE := Lib.hid hbe
        have hkl2 := left2_le l n
        have heq := eql_top hbp
        clear hB hl2 hbp hbe
        go_upto_region 6 with fail
        go_cut [31] (fun s wx => s = .bool (bp && be) ∧ Below w.heap.size w wx ∧ OsIn wx A2 b o (l.take (left2 l n)))
        case first =>
          cases bp <;> cases be
          all_goals (
            have HBe := HBE.out
            go_wp2_with (go_at_call 258; refine (innermost_k l _ _ A2 c2 b o hkl2 (HL1.out)).mono ?_; rintro e w2 ⟨rfl, hB⟩; have B2 := Lib.hid (HB1.out.trans (hB.mono HB1.out.size)); have L2 := Lib.hid (HL1.out.next hB); clear hB)
            go_meet
            exact ⟨rfl, B2.out, L2.out⟩)
        case rest =>
          obtain ⟨rfl, hB, hl3⟩ := hcut
          obtain ⟨bb, hbb⟩ : ∃ bb, (bp && be) = bb := ⟨_, rfl⟩
          have HBB := Lib.hid hbb
          have HB3 := Lib.hid hB
          have HL3 := Lib.hid hl3
          rw [hbb]
          clear hbb hB heq hl3
          cases bb
          case true =>
            have hbp : bp = true := by have := HBB.out; cases bp <;> simp_all
            obtain ⟨h0, rfl⟩ := isTop_le (by decide) hkl2 (HBP.out.trans hbp) HL1.out
            have HK : Hid (leftOf l n = left2 l n - 1) := Lib.hid (if_pos (by rw [HBP.out, HBE.out]; exact HBB.out))
            go_wp2_with (go_at_call 260; refine (withoutInnermost_any (left2 l n) c2 b o _ h0 hc2 (by unfold maxLen; omega)).mono ?_; rintro e w2 ⟨rfl, rfl⟩)
            go_ret
            exact ⟨_, rfl, StackIs.mk' _ c2 (by rw [HK.out]; rfl) (by rw [HK.out]; omega) (by rw [HK.out, ← take_take' (show left2 l n - 1 ≤ left2 l n by omega)]; exact HL3.out.take _), HB3.out⟩
          case false =>
            have HK : Hid (leftOf l n = left2 l n) := Lib.hid (if_neg (by rw [HBP.out, HBE.out, HBB.out]; decide))
            go_wp2
            go_ret
            exact ⟨_, rfl, StackIs.mk' A2 c2 (by rw [HK.out]; rfl) (by rw [HK.out]; exact hc2) (by rw [HK.out]; exact HL3.out), HB3.out⟩
end Go.Proofs.YtpennadfomnenaaGreatDoor
namespace Go.Proofs.YtpennadfomnenaaGreatDoor
open Go.ChangeShapes Go.WideShapes Go.ChangeAt Go.RowKit Go.Deep

/-- an element that is open: its space, name and attributes, and what stands ahead of it in its row -/
structure Fr where
  sp : Int
  n : ByteArray
  al : List (ByteArray × ByteArray)
  P : Fo
/-- what is built so far: the innermost row, the elements that are open (the innermost first), how many nodes there are -/
structure Zi where
  F : Fo
  up : List Fr
  c : Nat
inductive Rs where
  | bad (c : Int)
  | ok (z : Zi)
def Zi.pop : Zi → Zi
  | ⟨F, [], c⟩ => ⟨F, [], c⟩
  | ⟨F, x :: up, c⟩ => ⟨x.P.app (.one 1 x.sp x.n ⟨#[]⟩ x.al F), up, c⟩
def Zi.pops : Nat → Zi → Zi
  | 0, z => z
  | k + 1, z => Zi.pops k z.pop
def opensOf (up : List Fr) : List (ByteArray × Int) := (up.map fun x => (x.n, x.sp)).reverse
/-- until k are open -/
def Zi.to (z : Zi) (k : Nat) : Zi := z.pops (z.up.length - k)
def Zi.done (z : Zi) : Fo := (z.to 0).F
def rawIn (l : List (ByteArray × Int)) : ByteArray := if ((topOf l).2 == 0 && inL rawL (topOf l).1) = true then (topOf l).1 else ⟨#[]⟩
def Zi.raw (z : Zi) : ByteArray := rawIn (opensOf z.up)
def Zi.add (z : Zi) (k sp : Int) (n t : ByteArray) (al : List (ByteArray × ByteArray)) : Rs :=
  if 10 ≤ z.up.length then .bad 11 else if 60 ≤ z.c then .bad 6 else if 120 < t.size then .bad 8 else .ok ⟨z.F.app (.one k sp n t al .nil), z.up, z.c + 1⟩
def Zi.words (z : Zi) (t : ByteArray) : Rs :=
  match z.F.last with
  | some (k', t') => if k' = 2 then (if 120 < t'.size + t.size then .bad 8 else .ok ⟨z.F.addText t, z.up, z.c⟩) else z.add 2 0 ⟨#[]⟩ t []
  | none => z.add 2 0 ⟨#[]⟩ t []
def staysB (sp : Int) (n : ByteArray) (s : Bool) : Bool := if sp = 0 then !inL voidL n else !s
def Zi.begin (z : Zi) (T : Tk) : Rs :=
  let y := z.to (leftOf (opensOf z.up) T.n)
  let sp := spcOf (opensOf y.up) T.n
  if 10 ≤ y.up.length then .bad 11 else if 60 ≤ y.c then .bad 6 else
    if staysB sp T.n T.s = true then .ok ⟨.nil, ⟨sp, T.n, T.al, y.F⟩ :: y.up, y.c + 1⟩ else .ok ⟨y.F.app (.one 1 sp T.n ⟨#[]⟩ T.al .nil), y.up, y.c + 1⟩
def Zi.close (z : Zi) (n : ByteArray) : Zi := if 0 < cutOf (nameIs n) (opensOf z.up) then z.to (cutOf (nameIs n) (opensOf z.up) - 1) else z
def Zi.take (z : Zi) (T : Tk) : Rs :=
  if T.k = 1 then z.words T.t else if T.k = 4 then z.add 3 0 ⟨#[]⟩ T.t [] else if T.k = 2 then z.begin T else if T.k = 3 then .ok (z.close T.n) else .ok z
noncomputable def runZ (s : ByteArray) : Nat → Nat → Zi → Rs
  | 0, _, z => .ok z
  | f + 1, a, z => if a < s.size then (match z.take (nextOf s a z.raw) with | .bad c => .bad c | .ok y => runZ s f (a + (nextOf s a z.raw).l) y) else .ok z
def Rs.fin : Rs → Fo × Int
  | .bad c => (.nil, c)
  | .ok z => (z.done, 0)
noncomputable def builtOf (s : ByteArray) : Fo × Int := (runZ s s.size 0 ⟨.nil, [], 0⟩).fin
theorem opensOf_len (up : List Fr) : (opensOf up).length = up.length := by simp [opensOf]
theorem opensOf_cons (x : Fr) (up : List Fr) : opensOf (x :: up) = opensOf up ++ [(x.n, x.sp)] := by simp [opensOf]
theorem opensOf_drop (up : List Fr) (k : Nat) (hk : k ≤ up.length) : opensOf (up.drop (up.length - k)) = (opensOf up).take k := by
  unfold opensOf
  rw [List.take_reverse, List.map_drop]
  simp [List.length_map]
theorem Zi.pop_up (z : Zi) : z.pop.up = z.up.tail := by
  obtain ⟨F, up, c⟩ := z
  cases up <;> rfl
theorem Zi.pop_c (z : Zi) : z.pop.c = z.c := by
  obtain ⟨F, up, c⟩ := z
  cases up <;> rfl
theorem Zi.pops_up : ∀ (k : Nat) (z : Zi), (z.pops k).up = z.up.drop k
  | 0, z => rfl
  | k + 1, z => by rw [Zi.pops, Zi.pops_up k, Zi.pop_up]; simp
theorem Zi.pops_c : ∀ (k : Nat) (z : Zi), (z.pops k).c = z.c
  | 0, z => rfl
  | k + 1, z => by rw [Zi.pops, Zi.pops_c k, Zi.pop_c]
theorem Zi.to_up (z : Zi) (k : Nat) (hk : k ≤ z.up.length) : opensOf (z.to k).up = (opensOf z.up).take k := by
  rw [Zi.to, Zi.pops_up, opensOf_drop _ _ hk]
theorem Zi.to_len (z : Zi) (k : Nat) (hk : k ≤ z.up.length) : (z.to k).up.length = k := by
  rw [Zi.to, Zi.pops_up, List.length_drop]; omega
theorem Zi.pops_add : ∀ (j k : Nat) (z : Zi), z.pops (j + k) = (z.pops j).pops k
  | 0, k, z => by simp [Zi.pops]
  | j + 1, k, z => by rw [show j + 1 + k = (j + k) + 1 by omega, Zi.pops, Zi.pops_add j k, Zi.pops]
theorem Zi.to_to (z : Zi) (j k : Nat) (hj : j ≤ k) (hk : k ≤ z.up.length) : (z.to k).to j = z.to j := by
  rw [Zi.to, Zi.to_len z k hk, Zi.to, Zi.to, ← Zi.pops_add]
  congr 1; omega
theorem Zi.done_to (z : Zi) (k : Nat) (hk : k ≤ z.up.length) : (z.to k).done = z.done := by
  rw [Zi.done, Zi.to_to z 0 k (Nat.zero_le _) hk]; rfl
theorem runZ_end (s : ByteArray) (f a : Nat) (z : Zi) (h : s.size ≤ a) : runZ s f a z = .ok z := by
  cases f with
  | zero => rfl
  | succ f => rw [runZ, if_neg (by omega)]
theorem runZ_bad {s : ByteArray} {f a : Nat} {z : Zi} {c : Int} (h : a < s.size) (ht : z.take (nextOf s a z.raw) = .bad c) : runZ s (f + 1) a z = .bad c := by
  rw [runZ, if_pos h, ht]
theorem runZ_ok {s : ByteArray} {f a : Nat} {z y : Zi} (h : a < s.size) (ht : z.take (nextOf s a z.raw) = .ok y) : runZ s (f + 1) a z = runZ s f (a + (nextOf s a z.raw).l) y := by
  rw [runZ, if_pos h, ht]
end Go.Proofs.YtpennadfomnenaaGreatDoor
namespace Go.Proofs.YtpennadfomnenaaGreatDoor
open Go.ChangeShapes Go.WideShapes Go.ChangeAt Go.RowKit Go.Deep

theorem rawEnd_at {s raw : ByteArray} {a : Nat} (ha : a < s.size) (h : ¬ a < rawEnd s raw a) : rawHit s raw a = true := by
  by_cases hh : rawHit s raw a = true
  · exact hh
  · have h1 : rawHit s raw a = false := by simpa using hh
    have h2 := rawEnd_miss ha h1
    have h3 := (rawEnd_le s raw (a + 1) (by omega)).1
    omega
theorem run_exact {p : Int → Bool} : ∀ (l : List UInt8) (n : Nat) (hn : n < l.length), (∀ i (h : i < n), p (l[i].toNat : Int) = true) → p (l[n].toNat : Int) = false → run p l = n
  | [], n, hn, _, _ => absurd hn (Nat.not_lt_zero _)
  | c :: r, 0, _, _, h0 => by
    have h0' : p (c.toNat : Int) = false := by simpa using h0
    simp [run, h0']
  | c :: r, n + 1, hn, h, h0 => by
    have hc : p (c.toNat : Int) = true := by simpa using h 0 (by omega)
    have := run_exact r n (by simpa using hn) (fun i hi => by simpa using h (i + 1) (by omega)) (by simpa using h0)
    simp only [run] at this
    simp [run, hc, this]
theorem raw_cases {raw : ByteArray} (h : inL rawL raw = true) : ∃ l ∈ rawL, raw = ⟨l.toArray⟩ := by
  simp only [inL, List.any_eq_true, beq_iff_eq] at h
  obtain ⟨l, hl, e⟩ := h
  exact ⟨l, hl, ba_of_toList e⟩
where ba_of_toList {l : List UInt8} {s : ByteArray} (e : l = s.toList) : s = ⟨l.toArray⟩ := by
        rw [e, ByteArray.toList_eq]
theorem low_letter (c : UInt8) (h : small ((lowU c).toNat : Int) = true) : letB (c.toNat : Int) = true := by
  rw [lowU_nat] at h
  unfold lowB at h
  unfold letB
  split at h
  · rename_i hg; rw [hg]; simp
  · rw [h]; simp
theorem letter_inName (c : Int) (h : letB c = true) : inName c = true := by
  simp only [letB, small, great, Bool.or_eq_true, Bool.and_eq_true, decide_eq_true_eq] at h
  simp only [inName, blankB, Bool.and_eq_true, Bool.not_eq_true', Bool.or_eq_false_iff, beq_eq_false_iff_ne, bne_iff_ne, ne_eq]
  omega
theorem endB_inName (c : Int) (h : endB c = true) : inName c = false := by
  simp only [endB, Bool.or_eq_true, beq_iff_eq] at h
  unfold inName
  rcases h with (h | h) | h
  · simp [h]
  · simp [h]
  · simp [h]
theorem raw_small : ∀ l ∈ rawL, (∀ c ∈ l, small (c.toNat : Int) = true) ∧ 0 < l.length := by decide
theorem raw_named {raw : ByteArray} (h : inL rawL raw = true) : namedB small tagB raw = true := by
  obtain ⟨l, hl, rfl⟩ := raw_cases h
  simp only [rawL, List.mem_cons, List.not_mem_nil, or_false] at hl
  rcases hl with rfl | rfl | rfl | rfl <;> exact (namedB_true (by unfold Named AllTo; decide)).symm
/-- within a raw element there are words, or its own end, or nothing to the end of the text -/
theorem raw_rule {s raw : ByteArray} {a : Nat} (hr : inL rawL raw = true) (ha : a < s.size) :
    (nextOf s a raw).k = 1 ∨ ((nextOf s a raw).k = 3 ∧ (nextOf s a raw).n = raw) ∨ ((nextOf s a raw).k = 5 ∧ s.size ≤ a + (nextOf s a raw).l) := by
  obtain ⟨l, hl, hrl⟩ := raw_cases hr
  have hz : raw.size = l.length := by rw [hrl]; simp [ByteArray.size]
  have ht : raw.toList = l := by rw [ByteArray.toList_eq, hrl]
  obtain ⟨hsm, hpos⟩ := raw_small l hl
  unfold nextOf
  split
  · exact Or.inl rfl
  · rename_i hn
    have hh := rawEnd_at ha (fun h => hn ⟨by omega, h⟩)
    simp only [rawHit, Bool.and_eq_true, decide_eq_true_eq, beq_iff_eq] at hh
    obtain ⟨⟨⟨⟨h1, h2⟩, h3⟩, h4⟩, h5⟩ := hh
    have hlow : (s.extract (a + 2) (a + 2 + raw.size)).data.toList.map lowU = l := by
      rw [← ht, ← h4, ByteArray.toList_eq]; simp [lowX]
    have hsl : s.data.toList.length = s.size := Array.length_toList
    have hext : (s.extract (a + 2) (a + 2 + raw.size)).data.toList = (s.data.toList.drop (a + 2)).take raw.size := by
      rw [ByteArray.data_extract, Array.toList_extract, List.extract]
      simp
    rw [hext] at hlow
    have hb : ∀ i (h : i < raw.size), letB (((s.data.toList.drop (a + 2))[i]'(by rw [List.length_drop]; omega)).toNat : Int) = true := by
      intro i hi
      apply low_letter
      apply hsm
      have hm : lowU ((s.data.toList.drop (a + 2))[i]'(by rw [List.length_drop]; omega)) ∈ ((s.data.toList.drop (a + 2)).take raw.size).map lowU := by
        refine List.mem_map.2 ⟨_, ?_, rfl⟩
        rw [List.mem_take_iff_getElem]
        exact ⟨i, by rw [List.length_drop]; omega, rfl⟩
      rw [hlow] at hm
      exact hm
    have hrun : runAt inName s (a + 2) = raw.size := by
      refine run_exact _ _ (by rw [List.length_drop]; omega) (fun i hi => letter_inName _ (hb i hi)) (endB_inName _ ?_)
      rw [byteAt_in h1] at h5
      rw [List.getElem_drop]
      exact h5
    have hname : nameOf s (a + 2) = raw := by
      rw [hrl, nameOf, hrun, hext, hlow]
    have hlet : letB (byteAt s (a + 2)) = true := by
      rw [byteAt_in (by omega)]
      have := hb 0 (by omega)
      rw [List.getElem_drop] at this
      exact this
    have hm : markTk s a = closeTk s a := by
      unfold markTk
      rw [if_neg (by rw [h2]; omega), h3, if_neg (by decide), if_pos ⟨rfl, hlet⟩]
    rw [hm, closeTk, hname, raw_named hr]
    split
    · exact Or.inr (Or.inl ⟨rfl, rfl⟩)
    · refine Or.inr (Or.inr ⟨rfl, ?_⟩)
      show s.size ≤ a + (s.size - a)
      omega
theorem cutOf_top {l : List (ByteArray × Int)} (h0 : 0 < l.length) (n : ByteArray) (hn : (topOf l).1 = n) : cutOf (nameIs n) l = l.length := by
  rw [topOf_last h0] at hn
  unfold cutOf
  obtain ⟨k, hk⟩ : ∃ k, l.length = k + 1 := ⟨l.length - 1, by omega⟩
  rw [hk]
  refine cutTo_yes (by omega) ?_
  simp only [nameIs, beq_iff_eq]
  rw [← hn]
  simp only [hk, Nat.add_sub_cancel]
end Go.Proofs.YtpennadfomnenaaGreatDoor
