
import Derived.Test.YtlghmcnhdmidnaaDoorMarkup
import Derived.Test.YtlghmcnhdmidnaaDoorEsc
import Derived.Lib.SpaceUEq
import Derived.Deep.QuietTactic
import Derived.BigQuiet
import Derived.WalkMore
import Derived.WalkSmall
namespace Go.Proofs.YtlghmcnhdmidnaaDoor
open Go.ChangeShapes Go.WideShapes Go.ChangeAt Go.RowKit Go.Shelf

theorem encode_two {y z : UInt8} : (ByteArray.mk #[y, z]).size = 2 := rfl
theorem encode_form {r : Int} (h : 128 ≤ r) : (∃ y z : UInt8, Utf8.encode r = ⟨#[y, z]⟩ ∧ 128 ≤ (z.toNat : Int)) ∨ (3 ≤ (Utf8.encode r).size ∧ (Utf8.encode r).size ≤ 4) := by
  have hc : 128 ≤ (if Utf8.valid r then r.toNat else Utf8.runeError) := by
    split
    · omega
    · decide
  unfold Utf8.encode
  simp only
  generalize (if Utf8.valid r then r.toNat else Utf8.runeError) = c at hc
  rw [if_neg (by omega)]
  split
  · refine Or.inl ⟨_, _, rfl, ?_⟩
    simp; omega
  · right
    split <;> simp [ByteArray.size]
theorem convRune (r : Int) (w : World) : (convert 21 9 (.int .i32 r)).run Tryd.prog w = .ok (.string (Utf8.encode r)) w := by
  simp [convert, run_underlying Tryd.underlying21, run_underlying Tryd.underlying9, Conv.intToString]
theorem validRune_any (r : Int) (w : World) : Calls Tryd.prog 69 #[.int .i32 r] w fun e w' => e = .returned (.bool (Lib.validRune r)) ∧ w = w' :=
  (utf8_ValidRune r w).mono fun _ _ ⟨h1, h2⟩ => ⟨h1, h2.symm⟩
theorem indexByte_nil (c : Int) (w : World) : Calls Tryd.prog 36 #[.string ⟨#[]⟩, .int .u8 c] w fun e w' => e = .returned (.int .i64 (-1)) ∧ w' = w :=
  (strings_IndexByte ⟨#[]⟩ c w).mono fun _ _ ⟨h1, h2⟩ => ⟨h1, h2⟩
abbrev ltgt : ByteArray := { data := #[60, 62] }

set_option maxHeartbeats 4000000 in
set_option maxRecDepth 1000000 in
/-- a rune that is none of ASCII's is not in it -/
theorem indexRune_high (r : Nat) (h : 128 ≤ r) (hr : r ≠ 65533) (w : World) :
    Calls Tryd.prog 55 #[.string ltgt, .int .i32 (r : Int)] w fun e w' => e = .returned (.int .i64 (-1)) ∧ Below w.heap.size w w' := by
  have h1 : ¬ ((r : Int) < 128) := by omega
  have h1' : decide ((r : Int) < 128) = false := by simpa using h1
  have h2 : ((r : Int) == 65533) = false := by simp; omega
  by_cases hv : Lib.validRune (r : Int) = true
  · have hconv := convRune (r : Int)
    rcases encode_form (r := (r : Int)) (by omega) with ⟨y, z, he, hz⟩ | ⟨he1, he2⟩
    · rw [he] at hconv
      have hx : ∀ w, (Instr.slice 9 (.string ltgt) (some (.int .i64 2)) none none).run Tryd.prog w = .ok (.string ⟨#[]⟩) w := fun w => by
        rw [run_slice_string_from_if w 9 ltgt .i64 _ Tryd.underlying9, if_pos (by decide)]
        rfl
      clear he
      go_enter Tryd.func55, Tryd.ntmps55
      go_wp2_with (go_at_call 69; refine (validRune_any (r : Int) _).mono ?_; rintro e w1 ⟨rfl, rfl⟩)
      go_step3
      go_wp2
      go_loopw [9] (fun i wr => i = .int .i64 1 ∧ wr = w) (fun _ _ => 0)
      case atStart => exact ⟨rfl, rfl⟩
      case round =>
        obtain ⟨rfl, rfl⟩ := hrel
        have hw2 : IntKind.i64.wrap 2 = 2 := by decide
        have hne : (((ltgt[1]'(by decide)).toNat : Int) != (((ByteArray.mk #[y, z])[1]'(Nat.lt_succ_self 1)).toNat : Int)) = true := by
          show ((62 : Int) != (z.toNat : Int)) = true
          simp; omega
        go_wp2
        go_step3
        go_wp2
        go_quiet (fail)
        have hq : Below wr.heap.size wr (wr.drewN nq) := below_drewN (Below.refl _ _) nq
        generalize wr.drewN nq = w2 at hq ⊢
        go_wp2
        go_quiet ((go_at_call 36; exact Calls.quiet_of_same (indexByte_nil _ _)))
        have hq2 : Below wr.heap.size wr (w2.drewN nq) := below_drewN hq nq
        generalize w2.drewN nq = w3 at hq2 ⊢
        go_wp2
        repeat (change Exit.noGoto _ .ret _ _; rw [Exit.noGoto_ret])
        go_ret
        exact ⟨rfl, hq2⟩
    · clear h1
      generalize Utf8.encode (r : Int) = bs at hconv he1 he2
      go_enter Tryd.func55, Tryd.ntmps55
      go_wp2_with (go_at_call 69; refine (validRune_any (r : Int) _).mono ?_; rintro e w1 ⟨rfl, rfl⟩)
      go_step3
      go_wp2
      go_loopw [9] (fun i wr => i = .int .i64 ((bs.size : Int) - 1) ∧ wr = w) (fun _ _ => 0)
      case atStart => exact ⟨rfl, rfl⟩
      case round =>
        obtain ⟨rfl, rfl⟩ := hrel
        go_wp2
        rw [Exit.noGoto_ret]
        go_ret
        exact ⟨rfl, Below.refl _ _⟩
  · have hv' : Lib.validRune (r : Int) = false := by simpa using hv
    clear hv
    go_enter Tryd.func55, Tryd.ntmps55
    go_wp2_with (go_at_call 69; refine (validRune_any (r : Int) _).mono ?_; rintro e w1 ⟨rfl, rfl⟩)
    go_ret
    exact ⟨rfl, Below.refl _ _⟩
end Go.Proofs.YtlghmcnhdmidnaaDoor
