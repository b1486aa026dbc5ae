import Derived.Test.YtgkpoimapmdogaaOp3
namespace Go.Proofs.Ytgkpoimapmdogaa
open Go.ChangeShapes Go.WideShapes Go.ChangeAt Go.RowKit Go.Deep

/-- the innermost one; the zero value of none -/
def topOf (l : List (ByteArray × Int)) : ByteArray × Int := l.getLast?.getD (⟨#[]⟩, 0)
theorem topOf_take {l : List (ByteArray × Int)} {k : Nat} (h0 : 0 < k) (hk : k ≤ l.length) : topOf (l.take k) = l[k - 1] := by
  unfold topOf
  rw [List.getLast?_eq_getElem?]
  simp only [List.length_take, Nat.min_eq_left hk]
  rw [List.getElem?_take_of_lt (by omega), List.getElem?_eq_getElem (by omega)]; rfl
theorem topOf_last {l : List (ByteArray × Int)} (h0 : 0 < l.length) : topOf l = l[l.length - 1] := by
  have := topOf_take (l := l) h0 (Nat.le_refl _)
  rwa [List.take_length] at this
theorem topOf_nil : topOf [] = (⟨#[]⟩, 0) := rfl

theorem innermost_any (l : List (ByteArray × Int)) (w : World) (A : Option Addr) (c b o : Nat) (hl : OsIn w A b o l) :
    Calls Try.prog 47 #[.slice A l.length c] w fun e w' => e = .returned (.agg #[.string (topOf l).1, .int .i64 (topOf l).2]) ∧ Below w.heap.size w w' := by
  have hml := hl.1.1
  unfold maxLen at hml
  by_cases h0 : 0 < l.length
  · obtain ⟨rfl, hlt, t1, t2, t3⟩ := hl.get (l.length - 1) (by omega)
    have HT := Lib.hid (topOf_last h0)
    have h0' : ((l.length : Int) == 0) = false := beq_eq_false_iff_ne.2 (by omega)
    have hq : ((l.length : Int) - 1).toNat = l.length - 1 := by omega
    clear hl
    rw [HT.out]
    go_enter Try.func47, Try.ntmps47
    go_wp2
    (try simp only [Exit.inBlock, Exit.then])
    refine bodyPost_ret (v := .agg #[.string l[l.length - 1].1, .int .i64 l[l.length - 1].2]) (by simp [results, Try.results47, go_sem]) rfl ⟨rfl, ?_⟩
    go_grown
  · obtain rfl : l = [] := List.length_eq_zero_iff.1 (by omega)
    go_enter Try.func47, Try.ntmps47
    go_wp2
    (try simp only [Exit.inBlock, Exit.then])
    refine bodyPost_ret (v := .agg #[.string ⟨#[]⟩, .int .i64 0]) (by simp [results, Try.results47, go_sem]) rfl ⟨rfl, ?_⟩
    go_grown

theorem withoutInnermost_any (n c b o : Nat) (w : World) (hn : 0 < n) (hc : n ≤ c) (hm : n ≤ maxLen) :
    Calls Try.prog 49 #[.slice (some ⟨b, o, none⟩) n c] w fun e w' => e = .returned (.slice (some ⟨b, o, none⟩) (n - 1 : Nat) c) ∧ w = w' := by
  unfold maxLen at hm
  have hq : ((n : Int) - 1).toNat = n - 1 := by omega
  go_enter Try.func49, Try.ntmps49
  go_wp2
  go_ret
  exact ⟨by simp only [hq]; rfl, rfl⟩

def endsL : List (List UInt8) := [[112], [100, 105, 118], [117, 108], [116, 97, 98, 108, 101], [104, 49]]
theorem endsParagraph_any (s : ByteArray) (w : World) :
    Calls Try.prog 48 #[.string s] w fun e w' => e = .returned (.bool (inL endsL s)) ∧ w = w' := by
  go_enter Try.func48, Try.ntmps48
  go_wp2
  all_goals (go_ret; exact ⟨ret_bool (by first | (simp only [inL, endsL, List.any_cons, List.any_nil, beq_flip _ s.toList, *]; rfl) | (exfalso; simp_all; done)), rfl⟩)
/-- the space of an element of that name within them -/
def spcOf (l : List (ByteArray × Int)) (n : ByteArray) : Int := if spaceI n = 0 then (topOf l).2 else spaceI n
theorem run_field1 (x : Value) (y' : Int) (w : World) : (Instr.field 31 (.agg #[x, .int .i64 y']) 1).run Try.prog w = .ok (.int .i64 y') w := by kernel_rfl
theorem spaceWithin_any (l : List (ByteArray × Int)) (n : ByteArray) (w : World) (A : Option Addr) (c b o : Nat) (hl : OsIn w A b o l) :
    Calls Try.prog 26 #[.slice A l.length c, .string n] w fun e w' => e = .returned (.int .i64 (spcOf l n)) ∧ Below w.heap.size w w' := by
  have HL := Lib.hid hl
  clear hl
  by_cases h : spaceI n = 0
  · have hfd := run_field1 (.string (topOf l).1) (topOf l).2
    have HS := Lib.hid h
    have HE : Hid (spcOf l n = (topOf l).2) := Lib.hid (if_pos h)
    clear h
    go_enter Try.func26, Try.ntmps26
    go_wp2_with (first | (go_at_call 50; refine (implSpaceOf_any _ _).mono ?_; rintro e w' ⟨rfl, rfl⟩; rw [HS.out]) | (go_at_call 47; refine (innermost_any l _ A c b o HL.out).mono ?_; rintro e w' ⟨rfl, hB⟩; have HB := Lib.hid hB; clear hB))
    go_ret
    exact ⟨ret_int HE.out.symm, HB.out⟩
  · have HE : Hid (spcOf l n = spaceI n) := Lib.hid (if_neg h)
    have h' : (spaceI n == 0) = false := beq_eq_false_iff_ne.2 h
    have h'' : (spaceI n != 0) = true := by simpa using h
    go_enter Try.func26, Try.ntmps26
    go_wp2_with (first | (go_at_call 50; refine (implSpaceOf_any _ _).mono ?_; rintro e w' ⟨rfl, rfl⟩))
    go_ret
    exact ⟨ret_int HE.out.symm, Below.refl _ _⟩
end Go.Proofs.Ytgkpoimapmdogaa
