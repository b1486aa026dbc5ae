
import Derived.Test.YtbcbmgeoaejlmaaVisit
namespace Go.Proofs.Ytbcbmgeoaejlmaa
open Go.ChangeShapes Go.WideShapes Go.ChangeAt Go.RowKit Go.Deep

theorem visOK (cb lo hi : Nat) : Vis Try.prog 93 #[.pointer (some ⟨cb, 0, none⟩)] lo hi always stOK (CountAt cb hi) where
  own := fun _ _ _ h k hk => by rw [(h.1 k).1 hk]; exact ⟨h.2.1, h.2.2.1⟩
  keep := fun _ _ _ _ h hB => h.keep hB.but
  call := fun s C w q ch hne hl _ hI hS hh => by
    cases ch with
    | nil => exact absurd rfl hne
    | cons x r => exact visitOK_any cb lo hi s C w q x r hl hI hS hh

theorem count_new (w : World) (hi : Nat) (c : Int) (t : TypeId) (hh : hi ≤ w.heap.size) : CountAt w.heap.size hi c (fun k => k = w.heap.size) (w.alloc (.cells #[.int .i64 c] t)) :=
  ⟨fun _ => Iff.rfl, hh, by simp, new_cell rfl, by simp⟩

theorem implTreeOK_any (F : Fo) (w : World) (A : Option Addr) (c b o lo hi : Nat) (hd : F.nodes ≤ 1048576) (hh : hi ≤ w.heap.size) (hA : RowAt lo hi A F.len b o) (hF : FoAt w lo hi b o F) :
    Calls Try.prog 40 #[.slice A F.len c] w fun e w' => e = .returned (.bool (goodB F)) ∧ Below w.heap.size w w' := by
  have hmf : ∀ (fn : Fn) (first cap : Array Value) (w : World), (Instr.makeFunc fn first cap).run Try.prog w = .ok (.func fn first cap) w := fun _ _ _ _ => rfl
  have HA := Lib.hid hA
  have HF := Lib.hid hF
  clear hA hF
  go_enter Try.func40, Try.ntmps40
  go_wp2_with (go_at_call 92; refine (walk_any 93 #[.pointer (some ⟨w.heap.size, 0, none⟩)] lo hi always stOK (CountAt w.heap.size hi) (visOK w.heap.size lo hi) (enters_of Try.func93 (by kernel_rfl) rfl) F 0 (fun k => k = w.heap.size) _ A c b o hd (travP_always _ _ _ _) ?i1 ?i2 HA.out ?i3).mono ?i4)
  case i1 => exact count_new w hi 0 _ hh
  case i2 => simp; omega
  case i3 => exact HF.out.but HA.out ((But.refl No w).alloc _) hh (fun _ h => h.elim)
  case i4 =>
    rintro e w' ⟨D, rfl, i1, b1, d1⟩
    rw [trav_good]
    have K := Lib.hid b1
    clear i1 b1 d1
    go_wp2
    go_ret
    exact ⟨rfl, ((Below.refl _ _).alloc (Nat.le_refl _) _).trans (K.out.below (B := w.heap.size) (fun k hk => by rw [hk]; exact Nat.le_refl _) (by simp))⟩
end Go.Proofs.Ytbcbmgeoaejlmaa
