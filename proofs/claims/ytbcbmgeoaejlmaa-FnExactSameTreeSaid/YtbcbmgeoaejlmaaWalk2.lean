
import Derived.Test.YtbcbmgeoaejlmaaWalk
import Derived.Handy
namespace Go.Proofs.Ytbcbmgeoaejlmaa
open Go.ChangeShapes Go.WideShapes Go.ChangeAt Go.RowKit Go.Deep
variable {σ : Type}

theorem boxes_new (w : World) (C : Nat → Prop) (hi g : Nat) (cap : Array Value) (hh : hi ≤ w.heap.size) (hC : ∀ k, C k → k < w.heap.size) (t1 t2 : TypeId) :
    Boxes ((w.alloc (.cells #[.func (.func g) #[] cap] t1)).alloc (.cells #[.func (.func 153) #[] #[.pointer (some ⟨w.heap.size, 0, none⟩), .pointer (some ⟨w.heap.size + 1, 0, none⟩)]] t2)) C hi w.heap.size (w.heap.size + 1) g cap := by
  refine ⟨⟨hh, by simp; omega, fun c => absurd (hC _ c) (Nat.lt_irrefl _), ?_⟩, by omega, by simp, fun c => by have := hC _ c; omega, ?_⟩
  · have : (w.alloc (.cells #[.func (.func g) #[] cap] t1)).heap.size = w.heap.size + 1 := by simp
    rw [World.cell?_alloc_lt _ _ _ (by show w.heap.size < _; rw [this]; omega)]
    exact new_cell rfl
  · have : (w.alloc (.cells #[.func (.func g) #[] cap] t1)).heap.size = w.heap.size + 1 := by simp
    have h := new_cell (w := w.alloc (.cells #[.func (.func g) #[] cap] t1)) (cs := #[.func (.func 153) #[] #[.pointer (some ⟨w.heap.size, 0, none⟩), .pointer (some ⟨w.heap.size + 1, 0, none⟩)]]) (t := t2) (j := 0) rfl
    rwa [this] at h

set_option maxHeartbeats 400000 in
theorem walk2_any (g : Nat) (cap : Array Value) (lo hi : Nat) (ok : σ → List NP → Prop) (st : σ → List NP → σ × Bool) (Inv : σ → (Nat → Prop) → World → Prop) (V : Vis2 Try.prog g cap lo hi ok st Inv) (eg : ∀ args w, (callFunc g args).run Try.prog w = .ok (.enter g args) w) (F : Fo)
    (s : σ) (C : Nat → Prop) (w : World) (A : Option Addr) (c b o : Nat) (hd : F.nodes ≤ 1048576) (hp : travP2 ok st F [] 0 s) (hI : Inv s C w) (hh : hi ≤ w.heap.size) (hA : RowAt lo hi A F.len b o) (hF : FoAt w lo hi b o F) :
    Calls Try.prog 92 #[.slice A F.len c, .func (.func g) #[] cap] w (Gone2 st Inv s C [] F 0 w) := by
  have hmf : ∀ (fn : Fn) (first cap : Array Value) (w : World), (Instr.makeFunc fn first cap).run Try.prog w = .ok (.func fn first cap) w := fun _ _ _ _ => rfl
  have HA := Lib.hid hA
  have HF := Lib.hid hF
  have HI := Lib.hid hI
  have HV := Lib.hid V
  have HP := Lib.hid hp
  clear hA hF hI V hp
  go_enter Try.func92, Try.ntmps92
  go_wp2_with (go_at_call 153; refine (walk1_any g cap lo hi ok st Inv HV.out eg F [] s C _ A none c b o _ _ (by simpa using hd) HP.out ?i1 ?i2 HA.out ?i3 rfl ?i4).mono ?i5)
  case i1 => exact HV.out.keep _ _ _ _ HI.out (((Kin.refl _).alloc _ _ (by decide)).alloc _ _ (by decide))
  case i2 => simp; omega
  case i3 => exact HF.out.but HA.out (((But.refl C w).alloc _).alloc _) hh (fun k hk => (HV.out.own _ _ _ HI.out k hk).1)
  case i4 => exact boxes_new w C hi g cap hh (fun k hk => (HV.out.own _ _ _ HI.out k hk).2) _ _
  case i5 =>
    rintro e w' ⟨D, rfl, i1, b1, d1⟩
    have K := Lib.hid (And.intro i1 (And.intro b1 d1))
    clear i1 b1 d1
    go_wp2
    go_ret
    exact ⟨D, rfl, K.out.1, (((But.refl C w).alloc _).alloc _).trans K.out.2.1 (fun _ h => Or.inl h), fun k hk => (K.out.2.2 k hk).imp id fun h => by simp at h; omega⟩
theorem walk_any (g : Nat) (cap : Array Value) (lo hi : Nat) (ok : σ → List Nd → Prop) (st : σ → List Nd → σ × Bool) (Inv : σ → (Nat → Prop) → World → Prop) (V : Vis Try.prog g cap lo hi ok st Inv) (eg : ∀ args w, (callFunc g args).run Try.prog w = .ok (.enter g args) w) (F : Fo)
    (s : σ) (C : Nat → Prop) (w : World) (A : Option Addr) (c b o : Nat) (hd : F.nodes ≤ 1048576) (hp : travP ok st F [] s) (hI : Inv s C w) (hh : hi ≤ w.heap.size) (hA : RowAt lo hi A F.len b o) (hF : FoAt w lo hi b o F) :
    Calls Try.prog 92 #[.slice A F.len c, .func (.func g) #[] cap] w (Gone st Inv s C [] F w) := by
  refine (walk2_any g cap lo hi (bare ok) (bare st) Inv V.two eg F s C w A c b o hd ((travP2_bare ok st F [] 0 s).2 hp) hI hh hA hF).mono ?_
  rintro e w' ⟨D, h1, h2, h3, h4⟩
  rw [trav2_bare] at h1 h2
  exact ⟨D, h1, h2, h3, h4⟩
end Go.Proofs.Ytbcbmgeoaejlmaa
