
import Derived.Test.YtbcbmgeoaejlmaaOK
namespace Go.Proofs.Ytbcbmgeoaejlmaa
open Go.ChangeShapes Go.WideShapes Go.ChangeAt Go.RowKit Go.Deep

/-- a tree that a call has made: its row in block g, all of it from g up to h -/
def MadeAt (w : World) (g h : Nat) (F : Fo) : Prop := h ≤ w.heap.size ∧ g < h ∧ FoAt w g h g 0 F
theorem MadeAt.row {w : World} {g h : Nat} {F : Fo} (hm : MadeAt w g h F) (hl : F.len ≤ maxLen) : RowAt g h (some ⟨g, 0, none⟩) F.len g 0 := ⟨hl, fun _ => ⟨rfl, Nat.le_refl _, hm.2.1⟩⟩
theorem MadeAt.below {w w' : World} {g h B : Nat} {F : Fo} (hm : MadeAt w g h F) (hB : Below B w w') (hh : h ≤ B) : MadeAt w' g h F :=
  ⟨Nat.le_trans hm.1 hB.size, hm.2.1, hm.2.2.carry (Nat.le_refl _) (Nat.le_refl _) (fun b o _ h2 => hB.cell (p := ⟨b, o, none⟩) (by show b < B; omega)) (fun j _ => hB.cell (p := ⟨g, 0 + j, none⟩) (by have := hm.2.1; show g < B; omega))⟩
theorem MadeAt.next {w w' : World} {g h : Nat} {F : Fo} (hm : MadeAt w g h F) (hB : Below w.heap.size w w') : MadeAt w' g h F := hm.below hB hm.1

/-- the tree that came in -/
def CameIn (w : World) (A : Option Addr) (b o hi : Nat) (F : Fo) : Prop := RowAt 0 hi A F.len b o ∧ hi ≤ w.heap.size ∧ FoAt w 0 hi b o F
theorem CameIn.next {w w' : World} {A : Option Addr} {b o hi : Nat} {F : Fo} (h : CameIn w A b o hi F) (hB : Below w.heap.size w w') : CameIn w' A b o hi F :=
  ⟨h.1, Nat.le_trans h.2.1 hB.size, FoAt.below h.1 h.2.2 hB h.2.1⟩

theorem copy_any (F : Fo) (w : World) (A : Option Addr) (c b o hi : Nat) (hs : F.len + F.size ≤ 1048576) (h : CameIn w A b o hi F) :
    Calls Try.prog 30 #[.slice A F.len c] w fun e w' => e = .returned (.slice (some ⟨w.heap.size, 0, none⟩) F.len F.len) ∧ Below w.heap.size w w' ∧ MadeAt w' w.heap.size w'.heap.size F :=
  (toNodeS_any F w A c b o hi (Fo.small_of F (by omega)) (by omega) h.1 h.2.1 h.2.2).mono fun e w' ⟨h1, h2, h3, h4⟩ => ⟨h1, h2, Nat.le_refl _, h3, h4.mono (by omega) (Nat.le_refl _)⟩
theorem alike_any (F : Fo) (w : World) (g h g' h' c c' : Nat) (hl : F.len ≤ maxLen) (h1 : MadeAt w g h F) (h2 : MadeAt w g' h' F) :
    Calls Try.prog 32 #[.slice (some ⟨g, 0, none⟩) F.len c, .slice (some ⟨g', 0, none⟩) F.len c'] w fun e w' => e = .returned (.bool true) ∧ Below w.heap.size w w' :=
  eqNodeS_same F w _ _ c c' g g' 0 0 g h g' h' (h1.row hl) (h2.row hl) h1.1 h2.1 h1.2.2 h2.2.2

set_option maxHeartbeats 1000000 in
theorem treeOK_walk (F : Fo) (w : World) (A : Option Addr) (c b o hi : Nat) (h : CameIn w A b o hi F) :
    Calls Try.prog 8 #[.slice A F.len c] w fun e w' => e = .returned (.bool true) ∧ Below w.heap.size w w' := by
  have hml := h.1.1
  have hsz := szNodeS_any F 1048576 w A c b o hi (by omega) h.1 h.2.1 h.2.2
  have H := Lib.hid h
  have HL := Lib.hid hml
  clear h hml
  by_cases hs : F.len + F.size ≤ 1048576
  · have HS := Lib.hid hs
    have HN := Lib.hid (Nat.le_trans (Fo.nodes_le F) hs)
    have HE := Lib.hid (left_le hs)
    have hnn : 0 ≤ ((1048576 : Nat) : Int) - ((F.len + F.size : Nat) : Int) := by omega
    clear hs
    go_enter Try.func8, Try.ntmps8
    go_wp2_with (go_at_call 28; refine hsz.mono ?_; rintro e w1 ⟨rfl, hB1⟩; rw [HE.out]; have B1 := Lib.hid hB1; clear hB1 hsz)
    refine (copy_any F _ A c b o hi HS.out (H.out.next B1.out)).mono ?_
    rintro e w2 ⟨rfl, hB2, hM2⟩
    have B2 := Lib.hid hB2
    have M2 := Lib.hid hM2
    clear hB2 hM2
    go_wp2_with fail
    refine (specTreeOK_any F _ _ _ _ _ _ _ HN.out M2.out.1 (M2.out.row HL.out) M2.out.2.2).mono ?_
    rintro e w3 ⟨rfl, hB3⟩
    have B3 := Lib.hid (B1.out.trans (B2.out.mono B1.out.size) |>.trans (hB3.mono (Nat.le_trans B1.out.size B2.out.size)))
    clear hB3
    go_wp2_with fail
    refine (copy_any F _ A c b o hi HS.out (H.out.next B3.out)).mono ?_
    rintro e w4 ⟨rfl, hB4, hM4⟩
    have B4 := Lib.hid (B3.out.trans (hB4.mono B3.out.size))
    have M4 := Lib.hid hM4
    clear hB4 hM4
    go_wp2_with fail
    refine (implTreeOK_any F _ _ _ _ _ _ _ HN.out M4.out.1 (M4.out.row HL.out) M4.out.2.2).mono ?_
    rintro e w5 ⟨rfl, hB5⟩
    have B5 := Lib.hid (B4.out.trans (hB5.mono B4.out.size))
    have M5 := Lib.hid (M4.out.next hB5)
    clear hB5
    go_wp2_with fail
    refine (copy_any F _ A c b o hi HS.out (H.out.next B5.out)).mono ?_
    rintro e w6 ⟨rfl, hB6, hM6⟩
    have B6 := Lib.hid (B5.out.trans (hB6.mono B5.out.size))
    have M6 := Lib.hid hM6
    have M5' := Lib.hid (M5.out.next hB6)
    clear hB6 hM6
    go_wp2_with fail
    refine (alike_any F _ _ _ _ _ _ _ HL.out M5'.out M6.out).mono ?_
    rintro e w7 ⟨rfl, hB7⟩
    have B7 := Lib.hid (B6.out.trans (hB7.mono B6.out.size))
    clear hB7
    go_wp2
    go_ret
    exact ⟨rfl, B7.out⟩
  · have HE := Lib.hid (left_gt hs)
    clear hs
    go_enter Try.func8, Try.ntmps8
    go_wp2_with (go_at_call 28; refine hsz.mono ?_; rintro e w1 ⟨rfl, hB1⟩; rw [HE.out]; have B1 := Lib.hid hB1; clear hB1 hsz)
    go_ret
    exact ⟨rfl, B1.out⟩
end Go.Proofs.Ytbcbmgeoaejlmaa
