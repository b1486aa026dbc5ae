
import Derived.Test.YtocpmkpffhmlaaaProg
import Derived.WalkKit
import Derived.ProofKit
import Derived.Lib.Hide
import Derived.Below
import Derived.Laws.Concat
import Derived.Laws.RangeString
import Derived.WalkSpells
namespace Go.Proofs.Ytocpmkpffhmlaaa
open Go.ChangeShapes Go.WideShapes Go.ChangeAt Go.RowKit

/-- what stands in the place of a byte -/
def escT (c : UInt8) : List UInt8 := if c = 38 then [38, 97, 109, 112, 59] else if c = 60 then [38, 108, 116, 59] else if c = 62 then [38, 103, 116, 59] else [c]
def escV (c : UInt8) : List UInt8 := if c = 34 then [38, 113, 117, 111, 116, 59] else escT c
def escL (f : UInt8 → List UInt8) (l : List UInt8) : List UInt8 := l.flatMap f
theorem escT_len (c : UInt8) : (escT c).length ≤ 6 := by unfold escT; repeat' split
                                                         all_goals simp
theorem escV_len (c : UInt8) : (escV c).length ≤ 6 := by
  unfold escV; split
  · simp
  · exact escT_len c
theorem escL_len {f : UInt8 → List UInt8} (hf : ∀ c, (f c).length ≤ 6) : ∀ l : List UInt8, (escL f l).length ≤ 6 * l.length
  | [] => by simp [escL]
  | c :: r => by
    have h1 := escL_len hf r
    have h2 := hf c
    have e : (escL f (c :: r)).length = (f c).length + (escL f r).length := by simp [escL]
    rw [e]; simp only [List.length_cons]; omega
theorem escL_append (f : UInt8 → List UInt8) (a b : List UInt8) : escL f (a ++ b) = escL f a ++ escL f b := by simp [escL]
theorem escL_snoc (f : UInt8 → List UInt8) (s : ByteArray) (k : Nat) (h : k < s.size) : escL f (s.data.toList.take (k + 1)) = escL f (s.data.toList.take k) ++ f s[k] := by
  rw [List.take_succ_eq_append_getElem (by simpa using h), escL_append]
  congr 1
  simp [escL]; rfl
/-- what is escaped of the first k bytes -/
def escS (f : UInt8 → List UInt8) (s : ByteArray) (k : Nat) : ByteArray := ⟨(escL f (s.data.toList.take k)).toArray⟩
theorem escS_size {f : UInt8 → List UInt8} (hf : ∀ c, (f c).length ≤ 6) (s : ByteArray) (k : Nat) : (escS f s k).size ≤ 6 * k := by
  show (escL f (s.data.toList.take k)).toArray.size ≤ _
  have h1 := escL_len hf (s.data.toList.take k)
  have h2 : (s.data.toList.take k).length ≤ k := List.length_take_le _ _
  rw [List.size_toArray]; omega
theorem escS_snoc (f : UInt8 → List UInt8) (s : ByteArray) (k : Nat) (h : k < s.size) (l : List UInt8) (hl : f s[k] = l) : escS f s k ++ ⟨l.toArray⟩ = escS f s (k + 1) := by
  unfold escS
  rw [ByteArray.mk_append_mk, escL_snoc f s k h, hl]
theorem escS_zero (f : UInt8 → List UInt8) (s : ByteArray) : escS f s 0 = ⟨#[]⟩ := by simp [escS, escL]
theorem extract_one (s : ByteArray) (k : Nat) (h : k < s.size) : s.extract k (k + 1) = ⟨[s[k]].toArray⟩ := by
  have e : (s.extract k (k + 1)).data = #[s[k]] := by
    rw [ByteArray.data_extract]
    apply Array.ext
    · simp; omega
    · intro i h1 h2
      simp at h2
      subst h2
      simp; rfl
  cases hs : s.extract k (k + 1)
  rw [hs] at e
  simp at e
  rw [e]
theorem byte_of_int {c : UInt8} {n : Nat} (hn : n < 256) (h : ((c.toNat : Int) == (n : Int)) = true) : c = UInt8.ofNat n := by
  have h' : (c.toNat : Int) = n := by simpa using h
  apply UInt8.toNat_inj.1
  simp; omega
theorem byte_ne_int {c : UInt8} {n : Nat} (hn : n < 256) (h : ((c.toNat : Int) == (n : Int)) = false) : ¬ c = UInt8.ofNat n := by
  rintro rfl
  have : (UInt8.ofNat n).toNat = n := by simp; omega
  rw [this] at h
  simp at h

theorem escT_same {c : UInt8} (h1 : ((c.toNat : Int) == 38) = false) (h2 : ((c.toNat : Int) == 60) = false) (h3 : ((c.toNat : Int) == 62) = false) : escT c = [c] := by
  have e1 : ¬ c = 38 := byte_ne_int (n := 38) (by omega) h1
  have e2 : ¬ c = 60 := byte_ne_int (n := 60) (by omega) h2
  have e3 : ¬ c = 62 := byte_ne_int (n := 62) (by omega) h3
  rw [escT, if_neg e1, if_neg e2, if_neg e3]
/-- 'a + b' of texts -/
theorem run_add {f : UInt8 → List UInt8} (hf : ∀ c, (f c).length ≤ 6) (s : ByteArray) (hs : s.size ≤ 65536) (k : Nat) (h : k < s.size) (l : List UInt8) (hl : f s[k] = l) (w : World) : (Op.stringOp .add (escS f s k) ⟨l.toArray⟩).run Try.prog w = .ok (.string (escS f s (k + 1))) w := by
  have h1 := escS_size hf s k
  have h2 := hf s[k]
  rw [hl] at h2
  rw [run_string_add_sum w _ _ (by show _ + l.toArray.size ≤ _; rw [List.size_toArray]; omega), escS_snoc f s k h l hl]
/-- 't[i:j]' of a text -/
theorem cut_at (s : ByteArray) (i j : Nat) (hij : i ≤ j) (hj : j ≤ s.size) (x y : Int) (hx : x = i) (hy : y = j) (w : World) :
    (Instr.slice 9 (.string s) (some (.int .i64 x)) (some (.int .i64 y)) none).run Try.prog w = .ok (.string (s.extract i j)) w := by
  subst hx hy
  rw [run_slice_string_if w 9 s .i64 .i64 _ _ Try.underlying9, if_pos (by omega), if_pos (by omega)]
  simp

set_option maxHeartbeats 1000000 in
theorem l02Text_any (s : ByteArray) (w : World) (hs : s.size ≤ 65536) :
    Calls Try.prog 18 #[.string s] w fun e w' => e = .returned (.string (escS escT s s.size)) ∧ w = w' := by
  go_enter Try.func18, Try.ntmps18
  go_wp2
  go_loop [3, 4] (fun r i => ∃ k : Nat, k ≤ s.size ∧ i = .int .i64 k ∧ r = .string (escS escT s k)) (fun _ i => s.size - (intOf i).toNat)
  case atStart => exact ⟨0, Nat.zero_le _, rfl, by rw [escS_zero]⟩
  case round =>
    obtain ⟨k, hk, rfl, rfl⟩ := hrel
    by_cases hlt : k < s.size
    · have hz := escS_size escT_len s k
      by_cases h1 : ((s[k].toNat : Int) == 38) = true
      · have ha : ∀ w, (Op.stringOp .add (escS escT s k) ⟨#[38, 97, 109, 112, 59]⟩).run Try.prog w = .ok (.string (escS escT s (k + 1))) w := run_add escT_len s hs k hlt [38, 97, 109, 112, 59] (by rw [byte_of_int (n := 38) (by omega) h1]; rfl)
        go_wp2
        go_round
        case rel => exact ⟨k + 1, by omega, by go_num, rfl⟩
        case measure => simp [intOf]; omega
      · have h1' : ((s[k].toNat : Int) == 38) = false := by simpa using h1
        clear h1
        by_cases h2 : ((s[k].toNat : Int) == 60) = true
        · have ha : ∀ w, (Op.stringOp .add (escS escT s k) ⟨#[38, 108, 116, 59]⟩).run Try.prog w = .ok (.string (escS escT s (k + 1))) w := run_add escT_len s hs k hlt [38, 108, 116, 59] (by rw [byte_of_int (n := 60) (by omega) h2]; rfl)
          go_wp2
          go_round
          case rel => exact ⟨k + 1, by omega, by go_num, rfl⟩
          case measure => simp [intOf]; omega
        · have h2' : ((s[k].toNat : Int) == 60) = false := by simpa using h2
          clear h2
          by_cases h3 : ((s[k].toNat : Int) == 62) = true
          · have ha : ∀ w, (Op.stringOp .add (escS escT s k) ⟨#[38, 103, 116, 59]⟩).run Try.prog w = .ok (.string (escS escT s (k + 1))) w := run_add escT_len s hs k hlt [38, 103, 116, 59] (by rw [byte_of_int (n := 62) (by omega) h3]; rfl)
            go_wp2
            go_round
            case rel => exact ⟨k + 1, by omega, by go_num, rfl⟩
            case measure => simp [intOf]; omega
          · have h3' : ((s[k].toNat : Int) == 62) = false := by simpa using h3
            clear h3
            have hx := cut_at s k (k + 1) (by omega) (by omega) k (k + 1) rfl (by omega)
            have ha : ∀ w, (Op.stringOp .add (escS escT s k) (s.extract k (k + 1))).run Try.prog w = .ok (.string (escS escT s (k + 1))) w := by
              rw [extract_one s k hlt]
              exact run_add escT_len s hs k hlt [s[k]] (escT_same h1' h2' h3')
            go_wp2
            go_round
            case rel => exact ⟨k + 1, by omega, by go_num, rfl⟩
            case measure => simp [intOf]; omega
    · obtain rfl : k = s.size := by omega
      go_wp2
      go_ret
      exact ⟨rfl, rfl⟩
theorem escS_all (f : UInt8 → List UInt8) (s : ByteArray) : escS f s s.size = ⟨(escL f s.data.toList).toArray⟩ := by
  rw [escS, List.take_of_length_le (by simp)]
theorem l02Text_cut (s : ByteArray) (k : Nat) (h : k < s.size) (w : World) :
    Calls Try.prog 18 #[.string (s.extract k (k + 1))] w fun e w' => e = .returned (.string ⟨(escT s[k]).toArray⟩) ∧ w = w' := by
  rw [extract_one s k h]
  refine (l02Text_any ⟨[s[k]].toArray⟩ w (by show 1 ≤ _; omega)).mono fun e w' ⟨he, hw⟩ => ⟨he.trans ?_, hw⟩
  rw [escS_all]
  simp [escL]
theorem escV_quot {c : UInt8} (h : ((c.toNat : Int) == 34) = true) : escV c = [38, 113, 117, 111, 116, 59] := by
  rw [byte_of_int (n := 34) (by omega) h]; rfl
theorem escV_other {c : UInt8} (h : ((c.toNat : Int) == 34) = false) : escV c = escT c := by
  have e1 : ¬ c = 34 := byte_ne_int (n := 34) (by omega) h
  rw [escV, if_neg e1]

set_option maxHeartbeats 1000000 in
theorem l02Value_any (s : ByteArray) (w : World) (hs : s.size ≤ 65536) :
    Calls Try.prog 29 #[.string s] w fun e w' => e = .returned (.string (escS escV s s.size)) ∧ w = w' := by
  go_enter Try.func29, Try.ntmps29
  go_wp2
  go_loop [3, 4] (fun r i => ∃ k : Nat, k ≤ s.size ∧ i = .int .i64 k ∧ r = .string (escS escV s k)) (fun _ i => s.size - (intOf i).toNat)
  case atStart => exact ⟨0, Nat.zero_le _, rfl, by rw [escS_zero]⟩
  case round =>
    obtain ⟨k, hk, rfl, rfl⟩ := hrel
    by_cases hlt : k < s.size
    · by_cases h1 : ((s[k].toNat : Int) == 34) = true
      · have ha : ∀ w, (Op.stringOp .add (escS escV s k) ⟨#[38, 113, 117, 111, 116, 59]⟩).run Try.prog w = .ok (.string (escS escV s (k + 1))) w := run_add escV_len s hs k hlt [38, 113, 117, 111, 116, 59] (escV_quot h1)
        go_wp2
        go_round
        case rel => exact ⟨k + 1, by omega, by go_num, rfl⟩
        case measure => simp [intOf]; omega
      · have h1' : ((s[k].toNat : Int) == 34) = false := by simpa using h1
        clear h1
        have hx := cut_at s k (k + 1) (by omega) (by omega) k (k + 1) rfl (by omega)
        have ha := run_add escV_len s hs k hlt (escT s[k]) (escV_other h1')
        go_wp2_with (go_at_call 18; refine (l02Text_cut s k hlt _).mono ?_; rintro e w1 ⟨rfl, rfl⟩)
        go_round
        case rel => exact ⟨k + 1, by omega, by go_num, rfl⟩
        case measure => simp [intOf]; omega
    · obtain rfl : k = s.size := by omega
      go_wp2
      go_ret
      exact ⟨rfl, rfl⟩

/-- the whole answer -/
def escAns (f : UInt8 → List UInt8) (s : ByteArray) : ByteArray := if s.size ≤ 65536 then escS f s s.size else ⟨#[]⟩
theorem ret_string {a b : ByteArray} (h : a = b) : Ending.returned (.string a) = .returned (.string b) := by rw [h]
end Go.Proofs.Ytocpmkpffhmlaaa
