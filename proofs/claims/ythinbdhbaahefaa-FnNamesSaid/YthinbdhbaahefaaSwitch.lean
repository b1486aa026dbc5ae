
import Derived.Test.YthinbdhbaahefaaHas
namespace Go.Proofs.Ythinbdhbaahefaa
open Go.ChangeShapes Go.WideShapes Go.ChangeAt Go.RowKit

theorem beq_flip (a b : List UInt8) : (a == b) = (b == a) := by rw [Bool.eq_iff_iff, beq_iff_eq, beq_iff_eq]; exact eq_comm

theorem implIsVoid_any (s : ByteArray) (w : World) :
    Calls Try.prog 11 #[.string s] w fun e w' => e = .returned (.bool (inL voidL s)) ∧ w = w' := by
  go_enter Try.func11, Try.ntmps11
  go_wp2
  all_goals (go_ret; exact ⟨ret_bool (by first | (simp only [inL, voidL, List.any_cons, List.any_nil, beq_flip _ s.toList, *]; rfl) | (exfalso; simp_all; done)), rfl⟩)
theorem implIsRaw_any (s : ByteArray) (w : World) :
    Calls Try.prog 13 #[.string s] w fun e w' => e = .returned (.bool (inL rawL s)) ∧ w = w' := by
  go_enter Try.func13, Try.ntmps13
  go_wp2
  all_goals (go_ret; exact ⟨ret_bool (by first | (simp only [inL, rawL, List.any_cons, List.any_nil, beq_flip _ s.toList, *]; rfl) | (exfalso; simp_all; done)), rfl⟩)
def spaceI (s : ByteArray) : Int := if ([115, 118, 103] == s.toList) = true then 1 else if ([109, 97, 116, 104] == s.toList) = true then 2 else 0
theorem implSpaceOf_any (s : ByteArray) (w : World) :
    Calls Try.prog 23 #[.string s] w fun e w' => e = .returned (.int .i64 (spaceI s)) ∧ w = w' := by
  go_enter Try.func23, Try.ntmps23
  go_wp2
  all_goals (go_ret; exact ⟨ret_int (by first | (simp only [spaceI, beq_flip _ s.toList, *]; rfl) | (exfalso; simp_all; done)), rfl⟩)
theorem l01Space_any (s : ByteArray) (w : World) :
    Calls Try.prog 49 #[.string s] w fun e w' => e = .returned (.int .i64 (spaceI s)) ∧ w = w' := by
  go_enter Try.func49, Try.ntmps49
  go_wp2
  all_goals (go_ret; exact ⟨ret_int (by first | (simp only [spaceI, beq_flip _ s.toList, *]; rfl) | (exfalso; simp_all; done)), rfl⟩)
theorem specSpaceOf_any (s : ByteArray) (w : World) :
    Calls Try.prog 24 #[.string s] w fun e w' => e = .returned (.int .i64 (spaceI s)) ∧ w = w' := by
  by_cases h : (s.size : Int) ≤ 65536
  · have h' : ¬ (65536 : Int) < s.size := by omega
    go_enter Try.func24, Try.ntmps24
    go_wp2_with (go_at_call 49; refine (l01Space_any _ _).mono ?_; rintro e w1 ⟨rfl, rfl⟩)
    go_ret
    exact ⟨rfl, rfl⟩
  · have h' : (65536 : Int) < s.size := by omega
    go_enter Try.func24, Try.ntmps24
    go_wp2
    go_ret
    exact ⟨ret_int (by simp only [spaceI, beq_long (s := s) (l := [115, 118, 103]) (by simp; omega), beq_long (s := s) (l := [109, 97, 116, 104]) (by simp; omega)]; rfl), rfl⟩

/-- 'on' and something behind it -/
def handlerB (s : ByteArray) : Bool := decide (s.size ≤ 65536) && decide (2 < s.size) && ((s.extract 0 2).toList == [111, 110])
theorem implIsHandler_any (s : ByteArray) (w : World) (hs : s.size ≤ maxLen) :
    Calls Try.prog 19 #[.string s] w fun e w' => e = .returned (.bool (handlerB s)) ∧ w = w' := by
  unfold maxLen at hs
  by_cases h : s.size ≤ 65536
  · by_cases h2 : 2 < s.size
    · go_enter Try.func19, Try.ntmps19
      go_wp2
      go_ret
      exact ⟨ret_bool (by simp [handlerB, h, h2]), rfl⟩
    · go_enter Try.func19, Try.ntmps19
      go_wp2
      go_ret
      exact ⟨ret_bool (by simp [handlerB, h, h2]), rfl⟩
  · go_enter Try.func19, Try.ntmps19
    go_wp2
    go_ret
    exact ⟨ret_bool (by simp [handlerB, h]), rfl⟩
theorem l01Handler_any (s : ByteArray) (w : World) (hs : s.size ≤ 65536) :
    Calls Try.prog 47 #[.string s] w fun e w' => e = .returned (.bool (handlerB s)) ∧ w = w' := by
  by_cases h2 : 2 < s.size
  · go_enter Try.func47, Try.ntmps47
    go_wp2
    go_ret
    exact ⟨ret_bool (by simp [handlerB, hs, h2]), rfl⟩
  · go_enter Try.func47, Try.ntmps47
    go_wp2
    go_ret
    exact ⟨ret_bool (by simp [handlerB, hs, h2]), rfl⟩
theorem specIsHandler_any (s : ByteArray) (w : World) :
    Calls Try.prog 20 #[.string s] w fun e w' => e = .returned (.bool (handlerB s)) ∧ w = w' := by
  by_cases h : (s.size : Int) ≤ 65536
  · have h' : ¬ (65536 : Int) < s.size := by omega
    go_enter Try.func20, Try.ntmps20
    go_wp2_with (go_at_call 47; refine (l01Handler_any _ _ (by omega)).mono ?_; rintro e w1 ⟨rfl, rfl⟩)
    go_ret
    exact ⟨rfl, rfl⟩
  · have h' : (65536 : Int) < s.size := by omega
    go_enter Try.func20, Try.ntmps20
    go_wp2
    go_ret
    exact ⟨ret_bool (by simp [handlerB]; omega), rfl⟩
end Go.Proofs.Ythinbdhbaahefaa
