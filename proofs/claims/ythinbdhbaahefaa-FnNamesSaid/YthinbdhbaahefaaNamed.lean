import Derived.Test.YthinbdhbaahefaaDrawn
import Derived.Test.YthinbdhbaahefaaAt
import Derived.Test.YthinbdhbaahefaaTag
import Derived.Test.YthinbdhbaahefaaSets
import Derived.Test.YthinbdhbaahefaaLowerImpl
namespace Go.Proofs.Ythinbdhbaahefaa
open Go.ChangeShapes Go.WideShapes Go.ChangeAt Go.RowKit

/-- the drawn attribute's name and value -/
def AttrOf (w : World) (e : Ending) (w' : World) : Prop := ∃ a v, a ∈ attrL ∧ v ∈ valL ∧ e = .returned (.agg #[.string a, .string v]) ∧ Below w.heap.size w w'
set_option maxRecDepth 100000 in
set_option maxHeartbeats 1000000 in
theorem AttrDrawn_any (B n cap : Nat) (o : Option Addr) (w : World) (hc : CodeAt B w o n) (hB : B ≤ w.heap.size) :
    Calls Try.prog 10 #[.slice o n cap] w (AttrOf w) := by
  have hca : CodeAt B (w.alloc (.cells #[.string ⟨#[]⟩, .string ⟨#[]⟩] 25)) o n := by
    refine ⟨hc.1, fun j hj => ?_⟩
    obtain ⟨a, z, h1, h2, h3, h4⟩ := hc.2 j hj
    exact ⟨a, z, h1, h2, (((Below.refl w.heap.size w).alloc (Nat.le_refl _) _).cell (by rw [add_block]; omega)).trans h3, h4⟩
  go_enter Try.func10, Try.ntmps10
  have hB2 : B ≤ (w.alloc (.cells #[.string ⟨#[]⟩, .string ⟨#[]⟩] 25)).heap.size := by simp; omega
  go_wp2_with (go_at_call 39; refine (l00Source_any B n cap o (w.alloc (.cells #[.string ⟨#[]⟩, .string ⟨#[]⟩] 25)) hca hB2).mono ?_)
  rintro e w1 ⟨rfl, hs, hb⟩
  have es : (w.alloc (.cells #[.string ⟨#[]⟩, .string ⟨#[]⟩] 25)).heap.size = w.heap.size + 1 := by simp
  rw [es] at hs hb
  clear es hca hB2
  have hb1 : Below w.heap.size w w1 := ((Below.refl _ w).alloc (Nat.le_refl _) _).trans (hb.mono (by omega))
  have hc0 : w1.cell? ⟨w.heap.size, 0, none⟩ = some (.string ⟨#[]⟩) := (hb.cell (p := ⟨w.heap.size, 0, none⟩) (Nat.lt_succ_self _)).trans (by rw [World.cell?_alloc_new]; rfl)
  have hc1 : w1.cell? ⟨w.heap.size, 1, none⟩ = some (.string ⟨#[]⟩) := (hb.cell (p := ⟨w.heap.size, 1, none⟩) (Nat.lt_succ_self _)).trans (by rw [World.cell?_alloc_new]; rfl)
  have hf0 : w1.frozen? ⟨w.heap.size, 0, none⟩ = false := (hb.frozen (p := ⟨w.heap.size, 0, none⟩) (Nat.lt_succ_self _)).trans (by simp)
  have hf1 : w1.frozen? ⟨w.heap.size, 1, none⟩ = false := (hb.frozen (p := ⟨w.heap.size, 1, none⟩) (Nat.lt_succ_self _)).trans (by simp)
  clear hb
  go_wp2_with (go_at_call 41; refine (attrName_any B (w.heap.size + 1) 0 _ hs (by omega)).mono ?_)
  rintro e w2 ⟨a, ha, rfl, h1, h2⟩
  go_wp2_with (go_at_call 42; refine (value_any B (w.heap.size + 1) 3 _ h1 (by omega)).mono ?_)
  rintro e w3 ⟨v, hv, rfl, h3, h4⟩
  have hm := h2.trans h4
  have hb3 : Below w.heap.size w w3 := hb1.trans (hm.below.mono (by omega))
  have hd0 : w3.cell? ⟨w.heap.size, 0, none⟩ = some (.string ⟨#[]⟩) := (hm.below.cell (p := ⟨w.heap.size, 0, none⟩) (Nat.lt_succ_self _)).trans hc0
  have hd1 : w3.cell? ⟨w.heap.size, 1, none⟩ = some (.string ⟨#[]⟩) := (hm.below.cell (p := ⟨w.heap.size, 1, none⟩) (Nat.lt_succ_self _)).trans hc1
  have he0 : w3.frozen? ⟨w.heap.size, 0, none⟩ = false := (hm.below.frozen (p := ⟨w.heap.size, 0, none⟩) (Nat.lt_succ_self _)).trans hf0
  have he1 : w3.frozen? ⟨w.heap.size, 1, none⟩ = false := (hm.below.frozen (p := ⟨w.heap.size, 1, none⟩) (Nat.lt_succ_self _)).trans hf1
  clear hc0 hc1 hf0 hf1 hb1 h2 h4 h1 h3 hs hm
  go_wp2
  have g0 : (w3.setCell ⟨w.heap.size, 0, none⟩ (.string a)).cell? ⟨w.heap.size, 0, none⟩ = some (.string a) := World.cell?_setCell_same _ _ _ hd0
  have g1 : ((w3.setCell ⟨w.heap.size, 0, none⟩ (.string a)).setCell ⟨w.heap.size, 1, none⟩ (.string v)).cell? ⟨w.heap.size, 1, none⟩ = some (.string v) :=
    World.cell?_setCell_same _ _ _ ((World.cell?_setCell_other _ _ _ _ (by simp)).trans hd1)
  refine bodyPost_ret (v := .agg #[.string a, .string v]) (by simp [g0, g1, Result.andThen, results, Try.results10, go_sem]) rfl ⟨a, v, ha, hv, rfl, ?_⟩
  exact (hb3.setCell (p := ⟨w.heap.size, 0, none⟩) (Nat.le_refl _) _).setCell (p := ⟨w.heap.size, 1, none⟩) (Nat.le_refl _) _
end Go.Proofs.Ythinbdhbaahefaa
