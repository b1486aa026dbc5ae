
import Derived.Test.YtgkpoimapmdogaaDraw
namespace Go.Proofs.Ytgkpoimapmdogaa
open Go.ChangeShapes Go.WideShapes Go.ChangeAt Go.RowKit

def tagL : List ByteArray := [⟨#[112]⟩, ⟨#[100, 105, 118]⟩, ⟨#[98]⟩, ⟨#[105]⟩, ⟨#[97]⟩, ⟨#[117, 108]⟩, ⟨#[108, 105]⟩, ⟨#[105, 109, 103]⟩, ⟨#[98, 114]⟩, ⟨#[115, 118, 103]⟩, ⟨#[109, 97, 116, 104]⟩, ⟨#[115, 116, 121, 108, 101]⟩, ⟨#[116, 105, 116, 108, 101]⟩, ⟨#[115, 99, 114, 105, 112, 116]⟩, ⟨#[105, 102, 114, 97, 109, 101]⟩, ⟨#[117, 115, 101]⟩, ⟨#[116, 101, 109, 112, 108, 97, 116, 101]⟩, ⟨#[116, 97, 98, 108, 101]⟩, ⟨#[104, 49]⟩, ⟨#[120, 45, 121]⟩, ⟨#[111, 98, 106, 101, 99, 116]⟩, ⟨#[120, 109, 112]⟩]
def attrL : List ByteArray := [⟨#[104, 114, 101, 102]⟩, ⟨#[115, 114, 99]⟩, ⟨#[99, 108, 97, 115, 115]⟩, ⟨#[105, 100]⟩, ⟨#[111, 110, 99, 108, 105, 99, 107]⟩, ⟨#[111, 110, 108, 111, 97, 100]⟩, ⟨#[111, 110]⟩, ⟨#[100, 97, 116, 97, 45, 120]⟩, ⟨#[116, 105, 116, 108, 101]⟩, ⟨#[97, 99, 116, 105, 111, 110]⟩, ⟨#[115, 116, 121, 108, 101]⟩, ⟨#[120, 108, 105, 110, 107, 45, 104, 114, 101, 102]⟩]
def valL : List ByteArray := [⟨#[]⟩, ⟨#[120]⟩, ⟨#[47, 97, 63, 98, 61, 49, 38, 99]⟩, ⟨#[106, 97, 118, 97, 115, 99, 114, 105, 112, 116, 58, 97, 108, 101, 114, 116, 40, 49, 41]⟩, ⟨#[32, 74, 97, 118, 97, 83, 99, 114, 105, 112, 116, 58, 120]⟩, ⟨#[106, 97, 118, 97, 9, 115, 99, 114, 105, 112, 116, 58, 120]⟩, ⟨#[34, 113, 34]⟩, ⟨#[60, 98, 62]⟩, ⟨#[38, 97, 109, 112, 59]⟩, ⟨#[104, 116, 116, 112, 115, 58, 120]⟩, ⟨#[106, 97, 118, 97, 32, 115, 99, 114, 105, 112, 116, 58]⟩, ⟨#[97, 32, 98]⟩]
theorem tag_any (B S k : Nat) (w : World) (h : Src B S k w) (hk : k ≤ 900000) :
    Calls Try.prog 21 #[.pointer (some ⟨S, 0, none⟩)] w (Picked tagL B S (k + 3) w) := by
  go_enter Try.func21, Try.ntmps21
  go_wp2_with (go_at_call 37; refine (pickNew_any B S k tagL w h hk h.lt (by decide) (by decide)).mono ?_)
  rintro e w1 ⟨s, hs, rfl, h1, h2⟩
  go_wp2
  go_ret
  exact ⟨s, hs, rfl, h1, h2⟩
/-- one of some texts; what there was is as it was -/
def Chosen (ps : List ByteArray) (w : World) (e : Ending) (w' : World) : Prop := ∃ s, s ∈ ps ∧ e = .returned (.string s) ∧ Below w.heap.size w w'
theorem TagDrawn_any (B n cap : Nat) (o : Option Addr) (w : World) (hc : CodeAt B w o n) (hB : B ≤ w.heap.size) :
    Calls Try.prog 8 #[.slice o n cap] w (Chosen tagL w) := by
  go_enter Try.func8, Try.ntmps8
  go_wp2_with (go_at_call 18; refine (l00Source_any B n cap o _ hc hB).mono ?_)
  rintro e w1 ⟨rfl, hs, hb⟩
  go_wp2_with (go_at_call 21; refine (tag_any B w.heap.size 0 _ hs (by omega)).mono ?_)
  rintro e w2 ⟨s, hs, rfl, h1, h2⟩
  have hb2 : Below w.heap.size w w2 := hb.trans h2.below
  go_wp2
  go_ret
  exact ⟨s, hs, rfl, hb2⟩
end Go.Proofs.Ytgkpoimapmdogaa
