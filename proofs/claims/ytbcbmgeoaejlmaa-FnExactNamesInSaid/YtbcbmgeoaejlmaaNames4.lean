
import Derived.Test.YtbcbmgeoaejlmaaNames3
namespace Go.Proofs.Ytbcbmgeoaejlmaa
open Go.ChangeShapes Go.WideShapes Go.ChangeAt Go.RowKit Go.Deep

noncomputable def outN (F : Fo) : List ByteArray := if faultOf F = 0 then F.names [] else []
theorem outN_ok {F : Fo} (h : faultOf F = 0) : outN F = F.names [] := if_pos h
theorem outN_bad {F : Fo} (h : ¬ faultOf F = 0) : outN F = [] := if_neg h
theorem NRow.mono {w : World} {B B' : Nat} {v : Value} {l : List ByteArray} (h : NRow w B v l) (hB : B' ≤ B) : NRow w B' v l := by
  obtain ⟨h1, h2⟩ := h
  refine ⟨h1, h2.imp id ?_⟩
  rintro ⟨g, cap, cur, e, hb, r⟩
  exact ⟨g, cap, cur, e, Nat.le_trans hB hb, r⟩
/-- what the call hands back -/
def NamesOut (F : Fo) (w : World) (e : Ending) (w' : World) : Prop := ∃ v, e = .returned (.tuple #[v, .int .i64 (faultOf F)]) ∧ NRow w' w.heap.size v (outN F) ∧ Below w.heap.size w w'
theorem names_new (w : World) (hi : Nat) (hh : hi ≤ w.heap.size) : NamesAt w.heap.size hi [] (fun k => k = w.heap.size) (w.alloc (.cells #[.slice Option.none 0 0] 23)) := by
  have hb : (w.alloc (.cells #[.slice Option.none 0 0] 23)).heap[w.heap.size]? = some (.cells #[.slice Option.none 0 0] 23 (0, 0)) := by
    show (w.heap.push _)[w.heap.size]? = _
    simp
  exact ⟨hh, .slice none 0 0, ⟨by rw [Lib.cell_of_heap hb]; rfl, Lib.frozen_of_heap hb 0⟩, World.ownsRow_nil _ _ _ _, fun k => ⟨Or.inl, fun h => h.elim id (fun e => by cases e)⟩⟩

theorem implNamesIn_any (F : Fo) (w : World) (A : Option Addr) (c b o lo hi : Nat) (hd : F.nodes ≤ 1048576) (hh : hi ≤ w.heap.size) (hA : RowAt lo hi A F.len b o) (hF : FoAt w lo hi b o F) :
    Calls Try.prog 46 #[.slice A F.len c] w (NamesOut F w) := by
  have hmf : ∀ (fn : Fn) (first cap : Array Value) (w : World), (Instr.makeFunc fn first cap).run Try.prog w = .ok (.func fn first cap) w := fun _ _ _ _ => rfl
  have HA := Lib.hid hA
  have HF := Lib.hid hF
  clear hA hF
  by_cases hk : faultOf F = 0
  · have HK := Lib.hid hk
    clear hk
    go_enter Try.func46, Try.ntmps46
    go_wp2_with (go_at_call 86; refine (treeFault_any F _ A c b o lo hi hd hh HA.out HF.out).mono ?_; rintro e w1 ⟨rfl, hB⟩; rw [HK.out]; have B1 := Lib.hid hB; clear hB)
    refine (walkAll_any 103 #[.pointer (some ⟨w1.heap.size, 0, none⟩)] lo hi okNames stNames (NamesAt w1.heap.size hi) (visNames w1.heap.size lo hi) (enters_of Try.func103 (by kernel_rfl) rfl) F [] (fun k => k = w1.heap.size) _ A c b o hd (ok_names F [] [] (by simp; omega)) (names_new w1 hi (Nat.le_trans hh B1.out.size)) ?_ HA.out ?_).mono ?_
    · have := B1.out.size; simp; omega
    · exact HF.out.but HA.out ((But.of_below (C := No) B1.out).alloc _) hh (fun _ h => h.elim)
    · rintro e w2 ⟨D, rfl, i1, b1, d1⟩
      rw [trav_names] at i1
      have B2 := Lib.hid (B1.out.trans ((((Below.refl w1.heap.size w1).alloc (Nat.le_refl _) _).trans (b1.below (B := w1.heap.size) (fun k hk => by rw [hk]; exact Nat.le_refl _) (by simp))).mono B1.out.size))
      obtain ⟨_, v, hv, hN, _⟩ := i1
      have v0 := hv.1
      have HN := Lib.hid hN
      clear b1 d1 hv hN
      go_wp2
      go_ret2
      exact ⟨v, by rw [HK.out]; rfl, by rw [outN_ok HK.out]; exact HN.out.mono (by have := B1.out.size; omega), B2.out⟩
  · have HK := Lib.hid (outN_bad hk)
    have hk' : (faultOf F != 0) = true := by simpa using hk
    clear hk
    go_enter Try.func46, Try.ntmps46
    go_wp2_with (go_at_call 86; refine (treeFault_any F _ A c b o lo hi hd hh HA.out HF.out).mono ?_; rintro e w1 ⟨rfl, hB⟩; have B1 := Lib.hid hB; clear hB)
    go_ret2
    exact ⟨_, rfl, by rw [HK.out]; exact World.ownsRow_nil _ _ _ _, B1.out⟩
end Go.Proofs.Ytbcbmgeoaejlmaa
