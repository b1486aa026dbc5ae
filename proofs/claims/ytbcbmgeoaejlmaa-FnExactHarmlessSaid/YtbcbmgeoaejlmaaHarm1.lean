
import Derived.Test.YtbcbmgeoaejlmaaCfHarm
import Derived.Test.YtbcbmgeoaejlmaaAtF
import Derived.Test.YtbcbmgeoaejlmaaAll
namespace Go.Proofs.Ytbcbmgeoaejlmaa
open Go.ChangeShapes Go.WideShapes Go.ChangeAt Go.RowKit Go.Deep

/-- a node that is harm by itself -/
def harmNd (x : Nd) : Bool := inL bannedL x.n || x.al.any fun a => harmB a.1 a.2

theorem harmful_fn (w : World) : AtFn Try.prog 130 #[] #[] (fun a => harmB a.1 a.2) w :=
  fun x W _ h1 h2 => isHarmful_any x.1 x.2 W h1 h2

theorem isHarm_any (x : Nd) (b o lo hi : Nat) (w : World) (h : NdAt w lo hi b o x) (hb : b < hi) (hh : hi ≤ w.heap.size) :
    Calls Try.prog 88 #[.pointer (some ⟨b, o, none⟩)] w fun e w' => e = .returned (.bool (harmNd x)) ∧ Below w.heap.size w w' := by
  have hmf : ∀ (fn : Fn) (first cap : Array Value) (w : World), (Instr.makeFunc fn first cap).run Try.prog w = .ok (.func fn first cap) w := fun _ _ _ _ => rfl
  obtain ⟨⟨_, _, h2, _, h4, _⟩, A, c, b', o', h6, h7, h8⟩ := h
  have HR := Lib.hid h7
  have HS := Lib.hid h8
  have HN := Lib.hid h4
  clear h7 h8 h4
  cases hq : inL bannedL x.n with
  | true =>
    have HQ := Lib.hid hq
    have HM : Hid (harmNd x = true) := Lib.hid (by rw [harmNd, hq]; rfl)
    clear hq
    go_enter Try.func88, Try.ntmps88
    go_wp2_with fail
    refine (implIsBanned_any x.n _ HN.out).mono ?_
    rintro e w1 ⟨rfl, hB⟩
    rw [HQ.out]
    have HB := Lib.hid hB
    clear hB
    go_wp2
    go_ret
    exact ⟨by rw [HM.out]; try rfl, HB.out⟩
  | false =>
    have HQ := Lib.hid hq
    have HM : Hid (harmNd x = x.al.any fun a => harmB a.1 a.2) := Lib.hid (by rw [harmNd, hq]; rfl)
    clear hq
    go_enter Try.func88, Try.ntmps88
    go_wp2_with fail
    refine (implIsBanned_any x.n _ HN.out).mono ?_
    rintro e w1 ⟨rfl, hB⟩
    rw [HQ.out]
    have h6' := (hB.cell (p := ⟨b, o + 4, none⟩) (by show b < _; omega)).trans h6
    have HB := Lib.hid hB
    clear hB h6 h2
    go_wp2_with fail
    refine (atContainsFunc_any 130 #[] #[] (fun a => harmB a.1 a.2) (enters_of Try.func130 (by kernel_rfl) rfl) x.al _ A c b' o' lo hi HR.out.2 (Nat.le_trans hh HB.out.size) (HS.out.but HR.out.2 (But.of_below (C := No) HB.out) hh (fun _ h => h.elim)) (harmful_fn _)).mono ?_
    rintro e w2 ⟨rfl, hB⟩
    have HB := Lib.hid (HB.out.trans (hB.mono HB.out.size))
    clear hB
    go_wp2
    go_ret
    exact ⟨by rw [HM.out]; try rfl, HB.out⟩
end Go.Proofs.Ytbcbmgeoaejlmaa
