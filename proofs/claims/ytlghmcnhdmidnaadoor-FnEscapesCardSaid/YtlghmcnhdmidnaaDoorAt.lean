
import Derived.Test.YtlghmcnhdmidnaaDoorDraw
namespace Go.Proofs.YtlghmcnhdmidnaaDoor
open Go.ChangeShapes Go.WideShapes Go.ChangeAt Go.RowKit

/-- a number from 0 to n - 1 -/
def Within (n : Int) (w : World) (e : Ending) (w' : World) : Prop := ∃ (z : Int) (q : Nat), e = .returned (.int .i64 z) ∧ 0 ≤ z ∧ z < n ∧ w' = w.drewN q
set_option maxHeartbeats 4000000 in
theorem at_any (B m cap i : Nat) (o : Option Addr) (n : Int) (w : World) (hc : CodeAt B w o m) (hi : i ≤ 1000000000) (hn : 2 ≤ n) (hn2 : n ≤ 1000) :
    Calls Tryd.prog 7 #[.slice o m cap, .int .i64 (i : Int), .int .i64 n] w (Within n w) := by
  have hm := hc.1
  have e7 : IntKind.i64.wrap ((i : Int) * 7) = (i : Int) * 7 := IntWalk.i64_in _ (by omega)
  by_cases h0 : m = 0
  · have h0' : ((m : Int) == 0) = true := by simp [h0]
    go_enter Tryd.func7, Tryd.ntmps7
    go_wp2
    go_ret
    exact ⟨_, 0, rfl, Int.emod_nonneg _ (by omega), Int.emod_lt_of_pos _ (by omega), rfl⟩
  · have h0' : ((m : Int) == 0) = false := beq_eq_false_iff_ne.2 (by omega)
    have hmp : 0 < (m : Int) := by omega
    obtain ⟨j, hj⟩ : ∃ j, j = i % m := ⟨_, rfl⟩
    obtain ⟨l, hl⟩ : ∃ l, l = (i + 1) % m := ⟨_, rfl⟩
    obtain ⟨q, hq⟩ : ∃ q, q = i / m := ⟨_, rfl⟩
    have hjm : j < m := by rw [hj]; exact Nat.mod_lt _ (by omega)
    have hlm : l < m := by rw [hl]; exact Nat.mod_lt _ (by omega)
    have hqi : q ≤ i := by rw [hq]; exact Nat.div_le_self _ _
    have t1 : (i : Int).tmod (m : Int) = (j : Int) := by rw [hj]; rfl
    have t2 : ((i : Int) + 1).tmod (m : Int) = (l : Int) := by rw [hl]; rfl
    have t3 : (i : Int).tdiv (m : Int) = (q : Int) := by rw [hq]; rfl
    have e9 : IntKind.i64.wrap (q : Int) = (q : Int) := IntWalk.i64_in _ (by omega)
    clear hj hl hq
    obtain ⟨a, z, rfl, _, hz, hz0, hz1⟩ := hc.2 j hjm
    obtain ⟨a', y, ha', _, hy, hy0, hy1⟩ := hc.2 l hlm
    obtain rfl := Option.some.inj ha'
    have hj2 : (j : Int) < (m : Int) := by omega
    have hl2 : (l : Int) < (m : Int) := by omega
    have e1 : IntKind.i64.wrap ((i : Int) + 1) = (i : Int) + 1 := IntWalk.i64_in _ (by omega)
    have e2 : IntKind.i64.wrap z = z := IntWalk.i64_in _ (by omega)
    have e3 : IntKind.i64.wrap y = y := IntWalk.i64_in _ (by omega)
    have e4 : IntKind.i64.wrap (z * 31) = z * 31 := IntWalk.i64_in _ (by omega)
    have e5 : IntKind.i64.wrap (z * 31 + y) = z * 31 + y := IntWalk.i64_in _ (by omega)
    have e6 : IntKind.i64.wrap (z * 31 + y + (q : Int)) = z * 31 + y + (q : Int) := IntWalk.i64_in _ (by omega)
    have hs : 0 ≤ z * 31 + y + (q : Int) := by omega
    go_enter Tryd.func7, Tryd.ntmps7
    go_wp2
    go_quiet (fail)
    go_wp2
    go_ret
    exact ⟨_, nq, rfl, Int.emod_nonneg _ (by omega), Int.emod_lt_of_pos _ (by omega), rfl⟩
theorem at_int (B m cap : Nat) (i : Int) (o : Option Addr) (n : Int) (w : World) (hc : CodeAt B w o m) (hi0 : 0 ≤ i) (hi : i ≤ 1000000000) (hn : 2 ≤ n) (hn2 : n ≤ 1000) :
    Calls Tryd.prog 7 #[.slice o m cap, .int .i64 i, .int .i64 n] w (Within n w) := by
  obtain ⟨j, rfl⟩ := Int.eq_ofNat_of_zero_le hi0
  exact at_any B m cap j o n w hc (by omega) hn hn2
end Go.Proofs.YtlghmcnhdmidnaaDoor
