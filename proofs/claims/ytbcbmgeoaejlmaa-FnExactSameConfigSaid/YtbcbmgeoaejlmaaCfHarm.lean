
import Derived.Test.YtbcbmgeoaejlmaaSets
import Derived.Test.YtbcbmgeoaejlmaaHas
import Derived.Test.YtbcbmgeoaejlmaaFo
import Derived.Test.YtbcbmgeoaejlmaaSwitch
import Derived.Test.YtbcbmgeoaejlmaaBadImpl
namespace Go.Proofs.Ytbcbmgeoaejlmaa
open Go.ChangeShapes Go.WideShapes Go.ChangeAt Go.RowKit Go.Deep

theorem lay2h {w : World} {g : Nat} {v0 v1 : Value} (h : Lay w g #[v0, v1]) : w.cell? ⟨g, 0, none⟩ = some v0 ∧ w.cell? ⟨g, 1, none⟩ = some v1 := ⟨h.1 0, h.1 1⟩
def harmB (n v : ByteArray) : Bool := handlerB n || (inL linkL n && badB v)
/-- an attribute's box, made at w -/
def AttrBox (w W : World) (n v : ByteArray) : Prop := Lay W w.heap.size #[.string n, .string v] ∧ Below w.heap.size w W ∧ w.heap.size < W.heap.size
theorem AttrBox.next {w W W' : World} {n v : ByteArray} (h : AttrBox w W n v) (hB : Below W.heap.size W W') : AttrBox w W' n v :=
  ⟨h.1.below hB h.2.2, h.2.1.trans (hB.mono h.2.1.size), Nat.lt_of_lt_of_le h.2.2 hB.size⟩
theorem AttrBox.new (w : World) (n v : ByteArray) (t : TypeId) : AttrBox w (w.alloc (.cells #[.string n, .string v] t)) n v := ⟨Lay.new _ _ _, (Below.refl _ _).alloc (Nat.le_refl _) _, by simp⟩

set_option maxHeartbeats 2000000 in
theorem isHarmful_any (n v : ByteArray) (w : World) (h1 : n.size ≤ maxLen) (h2 : v.size ≤ maxLen) :
    Calls Try.prog 130 #[.agg #[.string n, .string v]] w fun e w' => e = .returned (.bool (harmB n v)) ∧ Below w.heap.size w w' := by
  have HX := Lib.hid (AttrBox.new w n v 36)
  have HN := Lib.hid (And.intro h1 h2)
  obtain ⟨r0, r1⟩ := lay2h HX.out.1
  clear h1 h2
  cases hq : handlerB n with
  | true =>
    have HQ := Lib.hid hq
    have HM : Hid (harmB n v = true) := Lib.hid (by rw [harmB, hq]; rfl)
    clear hq
    go_enter Try.func130, Try.ntmps130
    go_wp2_with fail
    refine (implIsHandler_any n _ HN.out.1).mono ?_
    rintro e w1 ⟨rfl, rfl⟩
    rw [HQ.out]
    go_wp2
    go_ret
    exact ⟨by rw [HM.out]; try rfl, HX.out.2.1⟩
  | false =>
    have HQ := Lib.hid hq
    cases hz : inL linkL n with
    | false =>
      have HZ := Lib.hid hz
      have HM : Hid (harmB n v = false) := Lib.hid (by rw [harmB, hq, hz]; rfl)
      clear hq hz
      go_enter Try.func130, Try.ntmps130
      go_wp2_with fail
      refine (implIsHandler_any n _ HN.out.1).mono ?_
      rintro e w1 ⟨rfl, rfl⟩
      rw [HQ.out]
      go_wp2_with fail
      refine (implIsLink_any n _ HN.out.1).mono ?_
      rintro e w2 ⟨rfl, hB⟩
      rw [HZ.out]
      have HX := Lib.hid (HX.out.next hB)
      clear hB r0 r1
      go_wp2
      go_ret
      exact ⟨by rw [HM.out]; try rfl, HX.out.2.1⟩
    | true =>
      have HZ := Lib.hid hz
      have HM : Hid (harmB n v = badB v) := Lib.hid (by rw [harmB, hq, hz]; simp)
      clear hq hz
      go_enter Try.func130, Try.ntmps130
      go_wp2_with fail
      refine (implIsHandler_any n _ HN.out.1).mono ?_
      rintro e w1 ⟨rfl, rfl⟩
      rw [HQ.out]
      go_wp2_with fail
      refine (implIsLink_any n _ HN.out.1).mono ?_
      rintro e w2 ⟨rfl, hB⟩
      rw [HZ.out]
      have HX := Lib.hid (HX.out.next hB)
      clear hB r0 r1
      obtain ⟨r0, r1⟩ := lay2h HX.out.1
      go_wp2_with fail
      refine (implBadLink_any v _ HN.out.2).mono ?_
      rintro e w3 ⟨rfl, hD⟩
      have HX := Lib.hid (HX.out.next (hD.below _))
      clear hD r0 r1
      go_wp2
      go_ret
      exact ⟨by rw [HM.out]; try rfl, HX.out.2.1⟩
end Go.Proofs.Ytbcbmgeoaejlmaa
