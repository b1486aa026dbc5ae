
import Derived.Test.YtnhifdffofpphaaRuB
import Derived.Deep.RegionHeld3
namespace Go.Proofs.Ytnhifdffofpphaa
open Go.ChangeShapes Go.WideShapes Go.ChangeAt Go.RowKit Go.Deep

/-- a box behind w, and what it leads to -/
def RuBox (w w' : World) (g : Nat) (V : Array Value) (A : Option Addr) (al : List ByteArray) : Prop := Lay w' g V ∧ NmIn w' A al ∧ Below w.heap.size w w' ∧ g < w'.heap.size
theorem RuBox.next {w w' w'' : World} {g : Nat} {V : Array Value} {A : Option Addr} {al : List ByteArray} (h : RuBox w w' g V A al) (hB : Below w'.heap.size w' w'') : RuBox w w'' g V A al :=
  ⟨h.1.below hB h.2.2.2, h.2.1.next hB, h.2.2.1.trans (hB.mono h.2.2.1.size), Nat.lt_of_lt_of_le h.2.2.2 hB.size⟩
theorem RuBox.new {w : World} {V : Array Value} {A : Option Addr} {al : List ByteArray} (h : NmIn w A al) (t : TypeId) : RuBox w (w.alloc (.cells V t)) w.heap.size V A al :=
  ⟨Lay.new _ _ _, h.next ((Below.refl _ _).alloc (Nat.le_refl _) _), (Below.refl _ _).alloc (Nat.le_refl _) _, by simp⟩

set_option maxHeartbeats 2000000 in
theorem lawRuleOK_walk (sp : Int) (n : ByteArray) (al : List ByteArray) (w : World) (A : Option Addr) (c : Nat) (hn : n.size ≤ maxLen) (h : NmIn w A al) :
    Calls Try.prog 3 #[.agg #[.int .i64 sp, .string n, .slice A al.length c]] w fun e w' => e = .returned (.bool true) ∧ Below w.heap.size w w' := by
  have H0 := Lib.hid (RuBox.new (V := #[.int .i64 sp, .string n, .slice A al.length c]) h 24)
  clear h
  by_cases hs : ruSize (sp, n, al) ≤ 1048576
  · have HE := Lib.hid (left_le hs)
    have hnn : 0 ≤ ((1048576 : Nat) : Int) - ((ruSize (sp, n, al) : Nat) : Int) := by omega
    have hll : al.length ≤ 1048576 := by unfold ruSize at hs; simp only at hs; omega
    clear hs
    go_enter Try.func3, Try.ntmps3
    go_wp2_with fail
    refine (szRule_any sp n al 1048576 _ A c (by omega) hn H0.out.2.1).mono ?_
    rintro e w1 ⟨rfl, hB⟩
    rw [HE.out]
    have J1 := Lib.hid (H0.out.next hB)
    clear hB H0
    obtain ⟨p0, p1, p2⟩ := lay3 J1.out.1
    go_wp2_with fail
    refine (toRule_any sp n al _ A c hll hn J1.out.2.1).mono ?_
    rintro e w2 ⟨g1, rfl, hB, _, hat⟩
    have J2 := Lib.hid (J1.out.next hB)
    have X2 := Lib.hid hat
    clear hB hat J1 p0 p1 p2
    go_wp2_with fail
    refine (specRuleOK_any sp n al _ _ _ hn (Nat.le_refl _) X2.out).mono ?_
    rintro e w3 ⟨rfl, hB⟩
    have J3 := Lib.hid (J2.out.next hB)
    clear hB J2 X2
    obtain ⟨p0, p1, p2⟩ := lay3 J3.out.1
    go_wp2_with fail
    refine (toRule_any sp n al _ A c hll hn J3.out.2.1).mono ?_
    rintro e w4 ⟨g2, rfl, hB, _, hat⟩
    have J4 := Lib.hid ((J3.out.next hB).next ((Below.refl _ _).alloc (Nat.le_refl _) (.cells #[.int .i64 sp, .string n, .slice (some ⟨g2, 0, none⟩) al.length al.length] 27)))
    have X4 := Lib.hid (RuBox.new (V := #[.int .i64 sp, .string n, .slice (some ⟨g2, 0, none⟩) al.length al.length]) hat 27)
    clear hB hat J3 p0 p1 p2
    obtain ⟨p0, p1, p2⟩ := lay3 X4.out.1
    go_wp2_with fail
    refine (implRuleOK_any sp n al _ _ _ hn (Nat.le_refl _) X4.out.2.1).mono ?_
    rintro e w5 ⟨rfl, hB⟩
    have J5 := Lib.hid (J4.out.next hB)
    have X5 := Lib.hid (X4.out.next hB)
    clear hB J4 X4 p0 p1 p2
    go_wp2_with fail
    have JD := Lib.hid (J5.out.next (Below.refl _ _).drew)
    have XD := Lib.hid (X5.out.next (Below.refl _ _).drew)
    have u0 : (fun w' => (w'.cell? ⟨w4.heap.size, 0, none⟩ = some (.int .i64 sp) ∧ w'.cell? ⟨w4.heap.size, 1, none⟩ = some (.string n) ∧ w'.cell? ⟨w4.heap.size, 2, none⟩ = some (.slice (some ⟨g2, 0, none⟩) al.length al.length)) ∧ w'.cell? ⟨w.heap.size, 0, none⟩ = some (.int .i64 sp) ∧ w'.cell? ⟨w.heap.size, 1, none⟩ = some (.string n) ∧ w'.cell? ⟨w.heap.size, 2, none⟩ = some (.slice A al.length c)) w5.drew := ⟨lay3 XD.out.1, lay3 JD.out.1⟩
    go_region_held3 (fun w' => (w'.cell? ⟨w4.heap.size, 0, none⟩ = some (.int .i64 sp) ∧ w'.cell? ⟨w4.heap.size, 1, none⟩ = some (.string n) ∧ w'.cell? ⟨w4.heap.size, 2, none⟩ = some (.slice (some ⟨g2, 0, none⟩) al.length al.length)) ∧ w'.cell? ⟨w.heap.size, 0, none⟩ = some (.int .i64 sp) ∧ w'.cell? ⟨w.heap.size, 1, none⟩ = some (.string n) ∧ w'.cell? ⟨w.heap.size, 2, none⟩ = some (.slice A al.length c)) (first | exact u1 | exact u2 | exact u0 | go_keep) (first | (go_at_call 8; refine (toRule_any sp n al _ A c hll hn JD.out.2.1).mono ?_; rintro e w7 ⟨g3, rfl, hB, _, hat⟩; have Ja := Lib.hid (JD.out.next hB); have Xa := Lib.hid (XD.out.next hB); have Pa := Lib.hid hat; clear hB hat; have u1 : (fun w' => (w'.cell? ⟨w4.heap.size, 0, none⟩ = some (.int .i64 sp) ∧ w'.cell? ⟨w4.heap.size, 1, none⟩ = some (.string n) ∧ w'.cell? ⟨w4.heap.size, 2, none⟩ = some (.slice (some ⟨g2, 0, none⟩) al.length al.length)) ∧ w'.cell? ⟨w.heap.size, 0, none⟩ = some (.int .i64 sp) ∧ w'.cell? ⟨w.heap.size, 1, none⟩ = some (.string n) ∧ w'.cell? ⟨w.heap.size, 2, none⟩ = some (.slice A al.length c)) w7 := ⟨lay3 Xa.out.1, lay3 Ja.out.1⟩) | (go_at_call 10; refine (eqRule_same sp n al _ _ _ _ _ Xa.out.2.1 Pa.out).mono ?_; rintro e w8 ⟨rfl, hB⟩; have J8 := Lib.hid (Ja.out.next hB); have X8 := Lib.hid (Xa.out.next hB); clear hB; have u2 : (fun w' => (w'.cell? ⟨w4.heap.size, 0, none⟩ = some (.int .i64 sp) ∧ w'.cell? ⟨w4.heap.size, 1, none⟩ = some (.string n) ∧ w'.cell? ⟨w4.heap.size, 2, none⟩ = some (.slice (some ⟨g2, 0, none⟩) al.length al.length)) ∧ w'.cell? ⟨w.heap.size, 0, none⟩ = some (.int .i64 sp) ∧ w'.cell? ⟨w.heap.size, 1, none⟩ = some (.string n) ∧ w'.cell? ⟨w.heap.size, 2, none⟩ = some (.slice A al.length c)) w8 := ⟨lay3 X8.out.1, lay3 J8.out.1⟩))
    clear u0 u1 u2 Ja Xa Pa JD XD J5 X5
    go_wp2
    go_ret
    exact ⟨rfl, J8.out.2.2.1⟩
  · have HE := Lib.hid (left_gt hs)
    clear hs
    go_enter Try.func3, Try.ntmps3
    go_wp2_with fail
    refine (szRule_any sp n al 1048576 _ A c (by omega) hn H0.out.2.1).mono ?_
    rintro e w1 ⟨rfl, hB⟩
    rw [HE.out]
    have J1 := Lib.hid (H0.out.next hB)
    clear hB H0
    go_wp2
    go_ret
    exact ⟨rfl, J1.out.2.2.1⟩
end Go.Proofs.Ytnhifdffofpphaa
