import Derived.Test.YtgkkmoliobhpiaaGreatDoorTk6
import Derived.Test.YtgkkmoliobhpiaaGreatDoorEsc
import Derived.Test.YtgkkmoliobhpiaaGreatDoorUtf
import Derived.Test.YtgkkmoliobhpiaaGreatDoorShelf
import Derived.Lib.SpaceUEq
import Derived.Lib.OthersKept
import Derived.Lib.IndexAny
import Derived.Deep.QuietTactic
import Derived.BigQuiet
import Derived.WalkMore
import Derived.WalkSmall
namespace Go.Proofs.YtgkkmoliobhpiaaGreatDoor
open Go.ChangeShapes Go.WideShapes Go.ChangeAt Go.RowKit Go.Shelf

theorem encode_form {r : Int} (h : 128 ≤ r) : (∃ a z : UInt8, Utf8.encode r = ⟨#[a, z]⟩ ∧ 128 ≤ (z.toNat : Int)) ∨ (∃ a b z : UInt8, Utf8.encode r = ⟨#[a, b, z]⟩ ∧ 128 ≤ (z.toNat : Int)) ∨ (∃ a b c z : UInt8, Utf8.encode r = ⟨#[a, b, c, z]⟩ ∧ 128 ≤ (z.toNat : Int)) := by
  have hc : 128 ≤ (if Utf8.valid r then r.toNat else Utf8.runeError) := by
    split
    · omega
    · decide
  unfold Utf8.encode
  simp only
  generalize (if Utf8.valid r then r.toNat else Utf8.runeError) = c at hc
  rw [if_neg (by omega)]
  split
  · refine Or.inl ⟨_, _, rfl, ?_⟩
    simp; omega
  · split
    · refine Or.inr (Or.inl ⟨_, _, _, rfl, ?_⟩)
      simp; omega
    · refine Or.inr (Or.inr ⟨_, _, _, _, rfl, ?_⟩)
      simp; omega
/-- a text of ASCII alone -/
def Asc (s : ByteArray) : Prop := ∀ b ∈ s.data.toList, b.toNat < 128
theorem Asc.at {s : ByteArray} (h : Asc s) {k : Nat} (hk : k < s.size) : ((s[k]'hk).toNat : Int) < 128 := by
  have := h (s[k]'hk) (by rw [ByteArray.getElem_eq_getElem_data]; exact Array.mem_toList_iff.2 (Array.getElem_mem _))
  omega
theorem Asc.part {s : ByteArray} (h : Asc s) (a b : Nat) : Asc (s.extract a b) := fun c hc => by
  rw [ByteArray.data_extract, Array.toList_extract] at hc
  exact h c (List.mem_of_mem_drop (List.mem_of_mem_take hc))

theorem indexByte_ascii {l : List UInt8} {c : UInt8} (hl : ∀ b ∈ l, b.toNat < 128) (hc : 128 ≤ (c.toNat : Int)) : Lib.indexByte l c = -1 := by
  induction l with
  | nil => rfl
  | cons b l ih =>
    have hb := hl b (by simp)
    have hne : (b == c) = false := by rw [Bool.eq_false_iff]; intro e; rw [eq_of_beq e] at hb; omega
    rw [Lib.indexByte, if_neg (by rw [hne]; decide), ih fun x hx => hl x (by simp [hx])]
    rfl
theorem indexByte_asc (s : ByteArray) (c : Int) (hs : Asc s) (hc : 128 ≤ c) (h2 : c ≤ 255) (w : World) : Calls Tryz.prog 76 #[.string s, .int .u8 c] w fun e w' => e = .returned (.int .i64 (-1)) ∧ w' = w :=
  (strings_IndexByte s c w).mono fun _ _ ⟨h1, h3⟩ => ⟨by rw [h1, indexByte_ascii hs (by simp; omega)], h3⟩
theorem convRune (r : Int) (w : World) : (convert 21 9 (.int .i32 r)).run Tryz.prog w = .ok (.string (Utf8.encode r)) w := by
  simp [convert, run_underlying Tryz.underlying21, run_underlying Tryz.underlying9, Conv.intToString]
theorem validRune_any (r : Int) (w : World) : Calls Tryz.prog 124 #[.int .i32 r] w fun e w' => e = .returned (.bool (Lib.validRune r)) ∧ w = w' :=
  (utf8_ValidRune r w).mono fun _ _ ⟨h1, h2⟩ => ⟨h1, h2.symm⟩
set_option maxHeartbeats 4000000 in
set_option maxRecDepth 1000000 in
/-- a rune that is none of ASCII's is not in it -/
theorem indexRune_high (cs : ByteArray) (ha : Asc cs) (h4 : 4 ≤ cs.size ∧ cs.size ≤ 9) (r : Nat) (h : 128 ≤ r) (hr : r ≠ 65533) (w : World) :
    Calls Tryz.prog 111 #[.string cs, .int .i32 (r : Int)] w fun e w' => e = .returned (.int .i64 (-1)) ∧ Below w.heap.size w w' := by
  have h1 : ¬ ((r : Int) < 128) := by omega
  have h1' : decide ((r : Int) < 128) = false := by simpa using h1
  have h2 : ((r : Int) == 65533) = false := by simp; omega
  by_cases hv : Lib.validRune (r : Int) = true
  · have hconv := convRune (r : Int)
    clear h1
    rcases encode_form (r := (r : Int)) (by omega) with ⟨a, z, he, hz⟩ | ⟨a, b, z, he, hz⟩ | ⟨a, b, c, z, he, hz⟩
    · rw [he] at hconv
      clear he
      have hcs := ha.at (k := 1) (by omega)
      have hz2 : ((z.toNat : Nat) : Int) ≤ 255 := by have := z.toNat_lt; omega
      have hx : ∀ w, (Instr.slice 9 (.string cs) (some (.int .i64 2)) none none).run Tryz.prog w = .ok (.string (cs.extract 2 cs.size)) w := fun w => by
        rw [run_slice_string_from_if w 9 cs .i64 _ Tryz.underlying9, if_pos (by omega)]
        rfl
      have HX := Lib.hid (indexByte_asc (cs.extract 2 cs.size) (z.toNat : Int) (ha.part _ _) hz hz2)
      clear ha
      go_enter Tryz.func111, Tryz.ntmps111
      go_wp2_with (go_at_call 124; refine (validRune_any (r : Int) _).mono ?_; rintro e w1 ⟨rfl, rfl⟩)
      go_step3
      go_wp2
      go_loopw [9] (fun i wr => i = .int .i64 1 ∧ wr = w) (fun _ _ => 0)
      case atStart => exact ⟨rfl, rfl⟩
      case round =>
        obtain ⟨rfl, rfl⟩ := hrel
        have hwn : IntKind.i64.wrap 2 = 2 := by decide
        have hne : (((cs[1]'(by omega)).toNat : Int) != (((ByteArray.mk #[a, z])[1]'(Nat.lt_succ_self 1)).toNat : Int)) = true := by
          show (((cs[1]'(by omega)).toNat : Int) != (z.toNat : Int)) = true
          simp; omega
        go_wp2
        go_step3
        go_wp2
        go_quiet (fail)
        have hq : Below wr.heap.size wr (wr.drewN nq) := below_drewN (Below.refl _ _) nq
        generalize wr.drewN nq = w2 at hq ⊢
        go_wp2
        go_quiet ((go_at_call 76; exact Calls.quiet_of_same (HX.out _)))
        have hq2 : Below wr.heap.size wr (w2.drewN nq) := below_drewN hq nq
        generalize w2.drewN nq = w3 at hq2 ⊢
        go_wp2
        repeat (change Exit.noGoto _ .ret _ _; rw [Exit.noGoto_ret])
        go_ret
        exact ⟨rfl, hq2⟩
    · rw [he] at hconv
      clear he
      have hcs := ha.at (k := 2) (by omega)
      have hz2 : ((z.toNat : Nat) : Int) ≤ 255 := by have := z.toNat_lt; omega
      have hx : ∀ w, (Instr.slice 9 (.string cs) (some (.int .i64 3)) none none).run Tryz.prog w = .ok (.string (cs.extract 3 cs.size)) w := fun w => by
        rw [run_slice_string_from_if w 9 cs .i64 _ Tryz.underlying9, if_pos (by omega)]
        rfl
      have HX := Lib.hid (indexByte_asc (cs.extract 3 cs.size) (z.toNat : Int) (ha.part _ _) hz hz2)
      clear ha
      go_enter Tryz.func111, Tryz.ntmps111
      go_wp2_with (go_at_call 124; refine (validRune_any (r : Int) _).mono ?_; rintro e w1 ⟨rfl, rfl⟩)
      go_step3
      go_wp2
      go_loopw [9] (fun i wr => i = .int .i64 2 ∧ wr = w) (fun _ _ => 0)
      case atStart => exact ⟨rfl, rfl⟩
      case round =>
        obtain ⟨rfl, rfl⟩ := hrel
        have hwn : IntKind.i64.wrap 3 = 3 := by decide
        have hne : (((cs[2]'(by omega)).toNat : Int) != (((ByteArray.mk #[a, b, z])[2]'(Nat.lt_succ_self 2)).toNat : Int)) = true := by
          show (((cs[2]'(by omega)).toNat : Int) != (z.toNat : Int)) = true
          simp; omega
        go_wp2
        go_step3
        go_wp2
        go_quiet (fail)
        have hq : Below wr.heap.size wr (wr.drewN nq) := below_drewN (Below.refl _ _) nq
        generalize wr.drewN nq = w2 at hq ⊢
        go_wp2
        go_quiet ((go_at_call 76; exact Calls.quiet_of_same (HX.out _)))
        have hq2 : Below wr.heap.size wr (w2.drewN nq) := below_drewN hq nq
        generalize w2.drewN nq = w3 at hq2 ⊢
        go_wp2
        repeat (change Exit.noGoto _ .ret _ _; rw [Exit.noGoto_ret])
        go_ret
        exact ⟨rfl, hq2⟩
    · rw [he] at hconv
      clear he
      have hcs := ha.at (k := 3) (by omega)
      have hz2 : ((z.toNat : Nat) : Int) ≤ 255 := by have := z.toNat_lt; omega
      have hx : ∀ w, (Instr.slice 9 (.string cs) (some (.int .i64 4)) none none).run Tryz.prog w = .ok (.string (cs.extract 4 cs.size)) w := fun w => by
        rw [run_slice_string_from_if w 9 cs .i64 _ Tryz.underlying9, if_pos (by omega)]
        rfl
      have HX := Lib.hid (indexByte_asc (cs.extract 4 cs.size) (z.toNat : Int) (ha.part _ _) hz hz2)
      clear ha
      go_enter Tryz.func111, Tryz.ntmps111
      go_wp2_with (go_at_call 124; refine (validRune_any (r : Int) _).mono ?_; rintro e w1 ⟨rfl, rfl⟩)
      go_step3
      go_wp2
      go_loopw [9] (fun i wr => i = .int .i64 3 ∧ wr = w) (fun _ _ => 0)
      case atStart => exact ⟨rfl, rfl⟩
      case round =>
        obtain ⟨rfl, rfl⟩ := hrel
        have hwn : IntKind.i64.wrap 4 = 4 := by decide
        have hne : (((cs[3]'(by omega)).toNat : Int) != (((ByteArray.mk #[a, b, c, z])[3]'(Nat.lt_succ_self 3)).toNat : Int)) = true := by
          show (((cs[3]'(by omega)).toNat : Int) != (z.toNat : Int)) = true
          simp; omega
        go_wp2
        go_step3
        go_wp2
        go_quiet (fail)
        have hq : Below wr.heap.size wr (wr.drewN nq) := below_drewN (Below.refl _ _) nq
        generalize wr.drewN nq = w2 at hq ⊢
        go_wp2
        go_quiet ((go_at_call 76; exact Calls.quiet_of_same (HX.out _)))
        have hq2 : Below wr.heap.size wr (w2.drewN nq) := below_drewN hq nq
        generalize w2.drewN nq = w3 at hq2 ⊢
        go_wp2
        repeat (change Exit.noGoto _ .ret _ _; rw [Exit.noGoto_ret])
        go_ret
        exact ⟨rfl, hq2⟩
  · have hv' : Lib.validRune (r : Int) = false := by simpa using hv
    clear hv
    go_enter Tryz.func111, Tryz.ntmps111
    go_wp2_with (go_at_call 124; refine (validRune_any (r : Int) _).mono ?_; rintro e w1 ⟨rfl, rfl⟩)
    go_ret
    exact ⟨rfl, Below.refl _ _⟩
end Go.Proofs.YtgkkmoliobhpiaaGreatDoor
