
import Derived.Test.YtbcbmgeoaejlmaaSRow
namespace Go.Proofs.Ytbcbmgeoaejlmaa
open Go.ChangeShapes Go.WideShapes Go.ChangeAt Go.RowKit Go.Deep

theorem heldStringS_any (l : List ByteArray) (m : Nat) (w : World) (A : Option Addr) (c : Nat) (bs : List Nat) (h1 : 1 ≤ m) (h2 : m + l.length ≤ 1073741824) (hr : StrRow w A (markL l m) bs) :
    Calls Try.prog 49 #[.slice A l.length c, .int .i64 (m : Int)] w fun e w' => e = .returned (.int .i64 ((m + l.length : Nat) : Int)) ∧ Below w.heap.size w w' := by
  rcases hr with ⟨h0, rfl⟩ | ⟨g, rfl, rfl, hc⟩
  · have h0 : l = [] := by have := markL_len l m; rw [h0] at this; exact List.length_eq_zero_iff.1 this.symm
    subst h0
    simp only [List.length_nil]
    go_enter Try.func49, Try.ntmps49
    go_wp2
    refine wp_loop_rounds 1 ?_
    rw [rounds_succ]
    go_wp2
    go_ret
    exact ⟨rfl, Below.refl _ _⟩
  · have HC : Hid (∀ k, k < l.length → CellW w g k (.string (markT (m + k)))) := Lib.hid fun k hk => by have := hc k (by rw [markL_len]; exact hk); rw [markL_get] at this; exact this
    clear hc
    go_enter Try.func49, Try.ntmps49
    go_wp2
    go_loopw [1, 5] (fun x i wr => ∃ k : Nat, k ≤ l.length ∧ x = .int .i64 ((m + k : Nat) : Int) ∧ i = .int .i64 k ∧ Hid (Below w.heap.size w wr)) (fun x i wr => l.length - (intOf i).toNat)
    case atStart => exact ⟨0, by omega, rfl, rfl, Lib.hid (Below.refl _ _)⟩
    case round =>
      obtain ⟨k, hk, rfl, rfl, HB⟩ := hrel
      by_cases hlt : k < l.length
      · have hg : g < wr.heap.size := Nat.lt_of_lt_of_le (HC.out k hlt).lt HB.out.size
        have HK := Lib.hid ((HC.out k hlt).same (HB.out.block g (HC.out k hlt).lt))
        have ck := HK.out.1
        go_wp2
        go_region_with (go_at_call 90; go_loud (refine (markText_any (m + k) (by omega) (by omega) _).mono ?_; rintro e w' ⟨rfl, hB'⟩; have ck' := (HK.out.same (hB'.block g hg)).1; have HB' := Lib.hid hB'; clear hB'))
        all_goals (
          go_wp2
          go_roundw
          case rel => exact ⟨k + 1, by omega, by go_num, by go_num, Lib.hid (HB.out.drew.trans (HB'.out.mono HB.out.size))⟩
          case measure => simp [intOf]; omega)
      · obtain rfl : k = l.length := by omega
        go_wp2
        go_ret
        exact ⟨rfl, HB.out⟩
end Go.Proofs.Ytbcbmgeoaejlmaa
