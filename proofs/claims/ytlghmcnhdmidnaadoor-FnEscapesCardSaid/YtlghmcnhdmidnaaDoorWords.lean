import Derived.Test.YtlghmcnhdmidnaaDoorDraw
namespace Go.Proofs.YtlghmcnhdmidnaaDoor
open Go.ChangeShapes Go.WideShapes Go.ChangeAt Go.RowKit

def wordL : List ByteArray := [⟨#[97]⟩, ⟨#[98, 32, 99]⟩, ⟨#[38]⟩, ⟨#[60]⟩, ⟨#[62]⟩, ⟨#[34]⟩, ⟨#[38, 97, 109, 112, 59]⟩, ⟨#[38, 108, 116, 59]⟩, ⟨#[38, 113, 117, 111, 116, 59]⟩, ⟨#[38, 35, 54, 53, 59]⟩, ⟨#[38, 35, 48, 59]⟩, ⟨#[38, 35, 49, 50, 55, 59]⟩, ⟨#[38, 35, 49, 50, 54, 55, 59]⟩, ⟨#[38, 35, 120, 59]⟩, ⟨#[38, 35, 59]⟩, ⟨#[38, 97]⟩, ⟨#[45]⟩, ⟨#[45, 45]⟩, ⟨#[120]⟩, ⟨#[60, 47, 115, 116, 121, 108, 101, 62]⟩, ⟨#[60, 115, 99, 114, 105, 112, 116, 62]⟩, ⟨#[38, 35, 54, 48, 59]⟩]
theorem word_size {s : ByteArray} (h : s ∈ wordL) : s.size ≤ 8 := by
  have : ∀ s ∈ wordL, s.size ≤ 8 := by decide
  exact this s h
set_option maxHeartbeats 4000000 in
theorem words_any (B S : Nat) (w : World) (h : Src B S 0 w) :
    Calls Tryd.prog 17 #[.pointer (some ⟨S, 0, none⟩)] w fun e w' => ∃ s : ByteArray, s.size ≤ 32 ∧ e = .returned (.string s) ∧ Moved S w w' := by
  go_enter Tryd.func17, Tryd.ntmps17
  go_wp2_with (go_at_call 32; refine (next_any B S 0 4 _ h (by omega) (by omega) (by omega)).mono ?_)
  rintro e w1 ⟨z, rfl, hz0, hz4, hs, ht⟩
  have hm := ht.moved
  clear ht h
  go_wp2
  go_loopw [3, 4] (fun t i wr => ∃ (s : ByteArray) (j : Nat), t = .string s ∧ i = .int .i64 j ∧ j ≤ 3 ∧ s.size + 8 * j ≤ 24 ∧ Src B S (3 + 3 * (3 - j)) wr ∧ Moved S w wr) (fun _ i _ => (intOf i).toNat)
  case atStart =>
    obtain ⟨j, rfl⟩ := Int.eq_ofNat_of_zero_le hz0
    exact ⟨⟨#[]⟩, j, rfl, rfl, by omega, by show 0 + 8 * j ≤ 24; omega, hs.mono (by omega), hm⟩
  case round =>
    obtain ⟨s, j, rfl, rfl, hj, hsz, hs2, hm2⟩ := hrel
    by_cases h0 : 0 < (j : Int)
    · go_wp2_with (go_at_call 33; refine (pickNew_any B S _ wordL wr hs2 (by omega) hs2.lt (by decide) (by decide)).mono ?_)
      rintro e w2 ⟨x, hx, rfl, h1, h2⟩
      have hx8 := word_size hx
      clear hx
      have hadd : ∀ w, (Op.stringOp .add s x).run Tryd.prog w = .ok (.string (s ++ x)) w := fun w => run_string_add_sum w _ _ (by omega)
      have hsz3 : (s ++ x).size = s.size + x.size := ByteArray.size_append
      have hwr : IntKind.i64.wrap ((j : Int) - 1) = ((j - 1 : Nat) : Int) := by rw [IntKind.wrap_i64]; omega
      go_wp2
      go_roundw
      case rel => exact ⟨s ++ x, j - 1, rfl, by go_num, by omega, by omega, h1.mono (by omega), hm2.trans h2⟩
      case measure => simp [intOf]; omega
    · obtain rfl : j = 0 := by omega
      clear h0
      have hs32 : s.size ≤ 32 := by omega
      go_wp2
      go_ret
      exact ⟨s, hs32, rfl, hm2⟩
theorem WordsDrawn_any (B n cap : Nat) (o : Option Addr) (w : World) (hc : CodeAt B w o n) (hB : B ≤ w.heap.size) :
    Calls Tryd.prog 4 #[.slice o n cap] w fun e w' => ∃ s : ByteArray, s.size ≤ 32 ∧ e = .returned (.string s) ∧ Below w.heap.size w w' := by
  go_enter Tryd.func4, Tryd.ntmps4
  go_wp2_with (go_at_call 16; refine (l00Source_any B n cap o _ hc hB).mono ?_)
  rintro e w1 ⟨rfl, hs, hb⟩
  go_wp2_with (go_at_call 17; refine (words_any B w.heap.size _ hs).mono ?_)
  rintro e w2 ⟨s, h8, rfl, h2⟩
  have hb2 : Below w.heap.size w w2 := hb.trans h2.below
  go_wp2
  go_ret
  exact ⟨s, h8, rfl, hb2⟩
end Go.Proofs.YtlghmcnhdmidnaaDoor
