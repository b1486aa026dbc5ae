import Derived.Test.YtgkkmoliobhpiaaGreatDoorBad
import Derived.WalkSmall
namespace Go.Proofs.YtgkkmoliobhpiaaGreatDoor
open Go.ChangeShapes Go.WideShapes Go.ChangeAt Go.RowKit

theorem lowerByte_q (c : Int) (h0 : 0 ≤ c) (h1 : c ≤ 255) (w : World) :
    Calls Tryz.prog 90 #[.int .u8 c] w fun e w' => e = .returned (.int .u8 (lowB c)) ∧ w' = w :=
  (lowerByte_any c h0 h1 w).mono fun _ _ ⟨a, b⟩ => ⟨a, b.symm⟩
def Drawn (w wr : World) : Prop := ∃ q, wr = w.drewN q
theorem Drawn.refl (w : World) : Drawn w w := ⟨0, rfl⟩
theorem Drawn.more {w wr : World} (h : Drawn w wr) (n : Nat) : Drawn w (wr.drewN n) := by obtain ⟨q, rfl⟩ := h; exact ⟨q + n, by rw [World.drewN_drewN]⟩
theorem byte_lo (b : UInt8) : (0 : Int) ≤ (b.toNat : Int) := by omega
theorem byte_hi (b : UInt8) : (b.toNat : Int) ≤ 255 := by have := b.toNat_lt; omega
def badB (s : ByteArray) : Bool := decide (s.size ≤ 65536) && badL s.data.toList 0

theorem Drawn.below {w wr : World} (h : Drawn w wr) (B : Nat) : Below B w wr := by obtain ⟨q, rfl⟩ := h; exact below_drewN (Below.refl _ _) q
end Go.Proofs.YtgkkmoliobhpiaaGreatDoor
