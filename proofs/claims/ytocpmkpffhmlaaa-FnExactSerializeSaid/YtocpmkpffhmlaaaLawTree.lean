
import Derived.Test.YtocpmkpffhmlaaaOK
namespace Go.Proofs.Ytocpmkpffhmlaaa
open Go.ChangeShapes Go.WideShapes Go.ChangeAt Go.RowKit Go.Deep

/-- a tree that a call has made: its row in block g, all of it from g up to h -/
def MadeAt (w : World) (g h : Nat) (F : Fo) : Prop := h ≤ w.heap.size ∧ g < h ∧ FoAt w g h g 0 F
theorem MadeAt.row {w : World} {g h : Nat} {F : Fo} (hm : MadeAt w g h F) (hl : F.len ≤ maxLen) : RowAt g h (some ⟨g, 0, none⟩) F.len g 0 := ⟨hl, fun _ => ⟨rfl, Nat.le_refl _, hm.2.1⟩⟩
theorem MadeAt.below {w w' : World} {g h B : Nat} {F : Fo} (hm : MadeAt w g h F) (hB : Below B w w') (hh : h ≤ B) : MadeAt w' g h F :=
  ⟨Nat.le_trans hm.1 hB.size, hm.2.1, hm.2.2.carry (Nat.le_refl _) (Nat.le_refl _) (fun b o _ h2 => hB.cell (p := ⟨b, o, none⟩) (by show b < B; omega)) (fun j _ => hB.cell (p := ⟨g, 0 + j, none⟩) (by have := hm.2.1; show g < B; omega))⟩
theorem MadeAt.next {w w' : World} {g h : Nat} {F : Fo} (hm : MadeAt w g h F) (hB : Below w.heap.size w w') : MadeAt w' g h F := hm.below hB hm.1

/-- the tree that came in -/
def CameIn (w : World) (A : Option Addr) (b o hi : Nat) (F : Fo) : Prop := RowAt 0 hi A F.len b o ∧ hi ≤ w.heap.size ∧ FoAt w 0 hi b o F
theorem CameIn.next {w w' : World} {A : Option Addr} {b o hi : Nat} {F : Fo} (h : CameIn w A b o hi F) (hB : Below w.heap.size w w') : CameIn w' A b o hi F :=
  ⟨h.1, Nat.le_trans h.2.1 hB.size, FoAt.below h.1 h.2.2 hB h.2.1⟩

theorem copy_any (F : Fo) (w : World) (A : Option Addr) (c b o hi : Nat) (hs : F.len + F.size ≤ 1048576) (h : CameIn w A b o hi F) :
    Calls Try.prog 6 #[.slice A F.len c] w fun e w' => e = .returned (.slice (some ⟨w.heap.size, 0, none⟩) F.len F.len) ∧ Below w.heap.size w w' ∧ MadeAt w' w.heap.size w'.heap.size F :=
  (toNodeS_any F w A c b o hi (Fo.small_of F (by omega)) (by omega) h.1 h.2.1 h.2.2).mono fun e w' ⟨h1, h2, h3, h4⟩ => ⟨h1, h2, Nat.le_refl _, h3, h4.mono (by omega) (Nat.le_refl _)⟩
theorem alike_any (F : Fo) (w : World) (g h g' h' c c' : Nat) (hl : F.len ≤ maxLen) (h1 : MadeAt w g h F) (h2 : MadeAt w g' h' F) :
    Calls Try.prog 8 #[.slice (some ⟨g, 0, none⟩) F.len c, .slice (some ⟨g', 0, none⟩) F.len c'] w fun e w' => e = .returned (.bool true) ∧ Below w.heap.size w w' :=
  eqNodeS_same F w _ _ c c' g g' 0 0 g h g' h' (h1.row hl) (h2.row hl) h1.1 h2.1 h1.2.2 h2.2.2

end Go.Proofs.Ytocpmkpffhmlaaa
