import Derived.Test.YtgkkmoliobhpiaaTokSame
import Derived.Deep.RegionHeld3
namespace Go.Proofs.Ytgkkmoliobhpiaa
open Go.ChangeShapes Go.WideShapes Go.ChangeAt Go.RowKit Go.Deep

/-- attributes that stand somewhere in w -/
def AlIn (w : World) (A : Option Addr) (b o : Nat) (al : List (ByteArray × ByteArray)) : Prop := RowAt 0 w.heap.size A al.length b o ∧ AsAt w b o al
theorem AlIn.next {w w' : World} {A : Option Addr} {b o : Nat} {al : List (ByteArray × ByteArray)} (h : AlIn w A b o al) (hB : Below w.heap.size w w') : AlIn w' A b o al :=
  ⟨h.1.mono (Nat.le_refl _) hB.size, al_below h.1 h.2 hB (Nat.le_refl _)⟩
theorem AlIn.new {w : World} {g : Nat} {al : List (ByteArray × ByteArray)} (hl : al.length ≤ maxLen) (hg : g < w.heap.size) (h : AsAt w g 0 al) : AlIn w (some ⟨g, 0, none⟩) g 0 al :=
  ⟨⟨hl, fun _ => ⟨rfl, Nat.zero_le _, hg⟩⟩, h⟩


theorem lay7 {w : World} {g : Nat} {v0 v1 v2 v3 v4 v5 v6 : Value} (h : Lay w g #[v0, v1, v2, v3, v4, v5, v6]) : w.cell? ⟨g, 0, none⟩ = some v0 ∧ w.cell? ⟨g, 1, none⟩ = some v1 ∧ w.cell? ⟨g, 2, none⟩ = some v2 ∧ w.cell? ⟨g, 3, none⟩ = some v3 ∧ w.cell? ⟨g, 4, none⟩ = some v4 ∧ w.cell? ⟨g, 5, none⟩ = some v5 ∧ w.cell? ⟨g, 6, none⟩ = some v6 :=
  ⟨h.1 0, h.1 1, h.1 2, h.1 3, h.1 4, h.1 5, h.1 6⟩
/-- two boxes behind w, and what they lead to -/
def TokIns (w w' : World) (V V' : Array Value) (A : Option Addr) (b o : Nat) (al : List (ByteArray × ByteArray)) (A' : Option Addr) (b' o' : Nat) (al' : List (ByteArray × ByteArray)) : Prop :=
  (Lay w' w.heap.size V ∧ Lay w' (w.heap.size + 1) V') ∧ (AlIn w' A b o al ∧ AlIn w' A' b' o' al') ∧ Below w.heap.size w w' ∧ w.heap.size + 1 < w'.heap.size
theorem TokIns.next {w w' w'' : World} {V V' : Array Value} {A : Option Addr} {b o : Nat} {al : List (ByteArray × ByteArray)} {A' : Option Addr} {b' o' : Nat} {al' : List (ByteArray × ByteArray)} (h : TokIns w w' V V' A b o al A' b' o' al') (hB : Below w'.heap.size w' w'') : TokIns w w'' V V' A b o al A' b' o' al' := by
  obtain ⟨⟨h1, h2⟩, ⟨h3, h4⟩, h5, h6⟩ := h
  exact ⟨⟨h1.below hB (by omega), h2.below hB h6⟩, ⟨h3.next hB, h4.next hB⟩, h5.trans (hB.mono h5.size), Nat.lt_of_lt_of_le h6 hB.size⟩
/-- a box of an impl token in w -/
def TokBox (w : World) (g : Nat) (k a l : Int) (n t : ByteArray) (al : List (ByteArray × ByteArray)) (s : Bool) (q : Nat) : Prop :=
  Lay w g #[.int .i64 k, .int .i64 a, .int .i64 l, .string n, .string t, .slice (some ⟨q, 0, none⟩) al.length al.length, .bool s] ∧ g < w.heap.size ∧ AlIn w (some ⟨q, 0, none⟩) q 0 al
theorem TokBox.next {w w' : World} {g : Nat} {k a l : Int} {n t : ByteArray} {al : List (ByteArray × ByteArray)} {s : Bool} {q : Nat} (h : TokBox w g k a l n t al s q) (hB : Below w.heap.size w w') : TokBox w' g k a l n t al s q :=
  ⟨h.1.below hB h.2.1, Nat.lt_of_lt_of_le h.2.1 hB.size, h.2.2.next hB⟩
theorem TokBox.new {w : World} {k a l : Int} {n t : ByteArray} {al : List (ByteArray × ByteArray)} {s : Bool} {q : Nat} (h : AlIn w (some ⟨q, 0, none⟩) q 0 al) (ty : TypeId) :
    TokBox (w.alloc (.cells #[.int .i64 k, .int .i64 a, .int .i64 l, .string n, .string t, .slice (some ⟨q, 0, none⟩) al.length al.length, .bool s] ty)) w.heap.size k a l n t al s q :=
  ⟨Lay.new _ _ _, by simp, h.next ((Below.refl _ _).alloc (Nat.le_refl _) _)⟩

set_option maxHeartbeats 2000000 in
theorem lawSameToken_walk (k a l : Int) (n t : ByteArray) (al : List (ByteArray × ByteArray)) (s : Bool) (w : World) (A : Option Addr) (c b o : Nat) (hn : n.size ≤ maxLen ∧ t.size ≤ maxLen) (h : AlIn w A b o al)
    (k' a' l' : Int) (n' t' : ByteArray) (al' : List (ByteArray × ByteArray)) (s' : Bool) (A' : Option Addr) (c' b' o' : Nat) (hn' : n'.size ≤ maxLen ∧ t'.size ≤ maxLen) (h' : AlIn w A' b' o' al') :
    Calls Try.prog 3 #[.agg #[.int .i64 k, .int .i64 a, .int .i64 l, .string n, .string t, .slice A al.length c, .bool s], .agg #[.int .i64 k', .int .i64 a', .int .i64 l', .string n', .string t', .slice A' al'.length c', .bool s']] w fun e w' =>
      e = .returned (.bool true) ∧ Below w.heap.size w w' := by
  have hg : Below w.heap.size w ((w.alloc (.cells #[.int .i64 k, .int .i64 a, .int .i64 l, .string n, .string t, .slice A al.length c, .bool s] 24)).alloc (.cells #[.int .i64 k', .int .i64 a', .int .i64 l', .string n', .string t', .slice A' al'.length c', .bool s'] 24)) := by go_grown
  have HML := Lib.hid h.1.1
  have HML' := Lib.hid h'.1.1
  have H0 : Hid (AlIn ((w.alloc (.cells #[.int .i64 k, .int .i64 a, .int .i64 l, .string n, .string t, .slice A al.length c, .bool s] 24)).alloc (.cells #[.int .i64 k', .int .i64 a', .int .i64 l', .string n', .string t', .slice A' al'.length c', .bool s'] 24)) A b o al ∧ AlIn ((w.alloc (.cells #[.int .i64 k, .int .i64 a, .int .i64 l, .string n, .string t, .slice A al.length c, .bool s] 24)).alloc (.cells #[.int .i64 k', .int .i64 a', .int .i64 l', .string n', .string t', .slice A' al'.length c', .bool s'] 24)) A' b' o' al') := Lib.hid ⟨h.next hg, h'.next hg⟩
  clear h h' hg
  by_cases hs : n.size + t.size + (al.length + asSize al) ≤ 1048576
  · have HE := Lib.hid (left_le hs)
    have hnn : 0 ≤ ((1048576 : Nat) : Int) - ((n.size + t.size + (al.length + asSize al) : Nat) : Int) := by omega
    have hre : ((1048576 : Nat) : Int) - ((n.size + t.size + (al.length + asSize al) : Nat) : Int) = ((1048576 - (n.size + t.size + (al.length + asSize al)) : Nat) : Int) := by omega
    have HRE := Lib.hid hre
    clear hre
    by_cases hs' : n'.size + t'.size + (al'.length + asSize al') ≤ 1048576 - (n.size + t.size + (al.length + asSize al))
    · have HE' := Lib.hid (left_le hs')
      have hnn' : 0 ≤ ((1048576 - (n.size + t.size + (al.length + asSize al)) : Nat) : Int) - ((n'.size + t'.size + (al'.length + asSize al') : Nat) : Int) := by omega
      have HLL := Lib.hid (show al.length ≤ 1048576 ∧ al'.length ≤ 1048576 by omega)
      clear hs hs'
      go_enter Try.func3, Try.ntmps3
      go_wp2_with fail
      refine (szToken_any k a l n t al s 1048576 _ A c b o _ (by omega) hn.1 hn.2 H0.out.1.1 H0.out.1.2 (Nat.le_refl _)).mono ?_
      rintro e w1 ⟨rfl, hB⟩
      obtain ⟨L1, L2, B3⟩ := two_lay (by simpa using hB)
      have J1 : Hid (TokIns w w1 #[.int .i64 k, .int .i64 a, .int .i64 l, .string n, .string t, .slice A al.length c, .bool s] #[.int .i64 k', .int .i64 a', .int .i64 l', .string n', .string t', .slice A' al'.length c', .bool s'] A b o al A' b' o' al') := Lib.hid ⟨⟨L1, L2⟩, ⟨H0.out.1.next hB, H0.out.2.next hB⟩, B3, Nat.lt_of_lt_of_le (by simp) hB.size⟩
      clear hB L1 L2 B3 H0
      rw [HE.out, HRE.out]
      obtain ⟨p0, p1, p2, p3, p4, p5, p6⟩ := lay7 J1.out.1.1
      obtain ⟨q0, q1, q2, q3, q4, q5, q6⟩ := lay7 J1.out.1.2
      go_wp2_with fail
      refine (szToken_any k' a' l' n' t' al' s' (1048576 - (n.size + t.size + (al.length + asSize al))) _ A' c' b' o' _ (by omega) hn'.1 hn'.2 J1.out.2.1.2.1 J1.out.2.1.2.2 (Nat.le_refl _)).mono ?_
      rintro e w2 ⟨rfl, hB⟩
      rw [HE'.out]
      have J2 := Lib.hid (J1.out.next hB)
      clear hB
      clear p0 q0 p1 q1 p2 q2 p3 q3 p4 q4 p5 q5 p6 q6
      obtain ⟨p0, p1, p2, p3, p4, p5, p6⟩ := lay7 J2.out.1.1
      obtain ⟨q0, q1, q2, q3, q4, q5, q6⟩ := lay7 J2.out.1.2
      go_wp2_with fail
      have D2 := Lib.hid (J2.out.next (Below.refl _ _).drew)
      have ud : (fun w' => (w'.cell? ⟨w.heap.size, 0, none⟩ = some (.int .i64 k) ∧ w'.cell? ⟨w.heap.size, 1, none⟩ = some (.int .i64 a) ∧ w'.cell? ⟨w.heap.size, 2, none⟩ = some (.int .i64 l) ∧ w'.cell? ⟨w.heap.size, 3, none⟩ = some (.string n) ∧ w'.cell? ⟨w.heap.size, 4, none⟩ = some (.string t) ∧ w'.cell? ⟨w.heap.size, 5, none⟩ = some (.slice A al.length c) ∧ w'.cell? ⟨w.heap.size, 6, none⟩ = some (.bool s)) ∧ w'.cell? ⟨w.heap.size + 1, 0, none⟩ = some (.int .i64 k') ∧ w'.cell? ⟨w.heap.size + 1, 1, none⟩ = some (.int .i64 a') ∧ w'.cell? ⟨w.heap.size + 1, 2, none⟩ = some (.int .i64 l') ∧ w'.cell? ⟨w.heap.size + 1, 3, none⟩ = some (.string n') ∧ w'.cell? ⟨w.heap.size + 1, 4, none⟩ = some (.string t') ∧ w'.cell? ⟨w.heap.size + 1, 5, none⟩ = some (.slice A' al'.length c') ∧ w'.cell? ⟨w.heap.size + 1, 6, none⟩ = some (.bool s')) w2.drew := ⟨lay7 D2.out.1.1, lay7 D2.out.1.2⟩
      go_region_held3 (fun w' => (w'.cell? ⟨w.heap.size, 0, none⟩ = some (.int .i64 k) ∧ w'.cell? ⟨w.heap.size, 1, none⟩ = some (.int .i64 a) ∧ w'.cell? ⟨w.heap.size, 2, none⟩ = some (.int .i64 l) ∧ w'.cell? ⟨w.heap.size, 3, none⟩ = some (.string n) ∧ w'.cell? ⟨w.heap.size, 4, none⟩ = some (.string t) ∧ w'.cell? ⟨w.heap.size, 5, none⟩ = some (.slice A al.length c) ∧ w'.cell? ⟨w.heap.size, 6, none⟩ = some (.bool s)) ∧ w'.cell? ⟨w.heap.size + 1, 0, none⟩ = some (.int .i64 k') ∧ w'.cell? ⟨w.heap.size + 1, 1, none⟩ = some (.int .i64 a') ∧ w'.cell? ⟨w.heap.size + 1, 2, none⟩ = some (.int .i64 l') ∧ w'.cell? ⟨w.heap.size + 1, 3, none⟩ = some (.string n') ∧ w'.cell? ⟨w.heap.size + 1, 4, none⟩ = some (.string t') ∧ w'.cell? ⟨w.heap.size + 1, 5, none⟩ = some (.slice A' al'.length c') ∧ w'.cell? ⟨w.heap.size + 1, 6, none⟩ = some (.bool s')) (first | exact uv1 | exact uv2 | exact uv3 | exact ud | go_keep) (first | (have hP1 := P1; go_at_call 8; refine (toToken_any k' a' l' n' t' al' s' _ A' c' b' o' _ HLL.out.2 hn'.1 hn'.2 K1.out.2.1.2.1 K1.out.2.1.2.2 (Nat.le_refl _)).mono ?_; rintro e v2 ⟨g2, rfl, hB, l1, l1', hat⟩; have K2 := Lib.hid (K1.out.next hB); have P2 := Lib.hid (P1.out.next hB); have Q2 := Lib.hid (AlIn.new HML'.out l1' hat); clear hB l1 l1' hat hP1; have uv2 : (fun w' => (w'.cell? ⟨w.heap.size, 0, none⟩ = some (.int .i64 k) ∧ w'.cell? ⟨w.heap.size, 1, none⟩ = some (.int .i64 a) ∧ w'.cell? ⟨w.heap.size, 2, none⟩ = some (.int .i64 l) ∧ w'.cell? ⟨w.heap.size, 3, none⟩ = some (.string n) ∧ w'.cell? ⟨w.heap.size, 4, none⟩ = some (.string t) ∧ w'.cell? ⟨w.heap.size, 5, none⟩ = some (.slice A al.length c) ∧ w'.cell? ⟨w.heap.size, 6, none⟩ = some (.bool s)) ∧ w'.cell? ⟨w.heap.size + 1, 0, none⟩ = some (.int .i64 k') ∧ w'.cell? ⟨w.heap.size + 1, 1, none⟩ = some (.int .i64 a') ∧ w'.cell? ⟨w.heap.size + 1, 2, none⟩ = some (.int .i64 l') ∧ w'.cell? ⟨w.heap.size + 1, 3, none⟩ = some (.string n') ∧ w'.cell? ⟨w.heap.size + 1, 4, none⟩ = some (.string t') ∧ w'.cell? ⟨w.heap.size + 1, 5, none⟩ = some (.slice A' al'.length c') ∧ w'.cell? ⟨w.heap.size + 1, 6, none⟩ = some (.bool s')) v2 := ⟨lay7 K2.out.1.1, lay7 K2.out.1.2⟩) | (go_at_call 8; refine (toToken_any k a l n t al s _ A c b o _ HLL.out.1 hn.1 hn.2 D2.out.2.1.1.1 D2.out.2.1.1.2 (Nat.le_refl _)).mono ?_; rintro e v1 ⟨g1, rfl, hB, l1, l1', hat⟩; have K1 := Lib.hid (D2.out.next hB); have P1 := Lib.hid (AlIn.new HML.out l1' hat); clear hB l1 l1' hat; have uv1 : (fun w' => (w'.cell? ⟨w.heap.size, 0, none⟩ = some (.int .i64 k) ∧ w'.cell? ⟨w.heap.size, 1, none⟩ = some (.int .i64 a) ∧ w'.cell? ⟨w.heap.size, 2, none⟩ = some (.int .i64 l) ∧ w'.cell? ⟨w.heap.size, 3, none⟩ = some (.string n) ∧ w'.cell? ⟨w.heap.size, 4, none⟩ = some (.string t) ∧ w'.cell? ⟨w.heap.size, 5, none⟩ = some (.slice A al.length c) ∧ w'.cell? ⟨w.heap.size, 6, none⟩ = some (.bool s)) ∧ w'.cell? ⟨w.heap.size + 1, 0, none⟩ = some (.int .i64 k') ∧ w'.cell? ⟨w.heap.size + 1, 1, none⟩ = some (.int .i64 a') ∧ w'.cell? ⟨w.heap.size + 1, 2, none⟩ = some (.int .i64 l') ∧ w'.cell? ⟨w.heap.size + 1, 3, none⟩ = some (.string n') ∧ w'.cell? ⟨w.heap.size + 1, 4, none⟩ = some (.string t') ∧ w'.cell? ⟨w.heap.size + 1, 5, none⟩ = some (.slice A' al'.length c') ∧ w'.cell? ⟨w.heap.size + 1, 6, none⟩ = some (.bool s')) v1 := ⟨lay7 K1.out.1.1, lay7 K1.out.1.2⟩) | (go_at_call 7; refine (specSameToken_any k a l n t al s k' a' l' n' t' al' s' _ _ _ _ _ _ _ _ _ _ _ _ _ P2.out.1 P2.out.2 (Nat.le_refl _) Q2.out.1 Q2.out.2 (Nat.le_refl _)).mono ?_; rintro e v3 ⟨rfl, hB⟩; have J3 := Lib.hid (K2.out.next hB); clear hB; have uv3 : (fun w' => (w'.cell? ⟨w.heap.size, 0, none⟩ = some (.int .i64 k) ∧ w'.cell? ⟨w.heap.size, 1, none⟩ = some (.int .i64 a) ∧ w'.cell? ⟨w.heap.size, 2, none⟩ = some (.int .i64 l) ∧ w'.cell? ⟨w.heap.size, 3, none⟩ = some (.string n) ∧ w'.cell? ⟨w.heap.size, 4, none⟩ = some (.string t) ∧ w'.cell? ⟨w.heap.size, 5, none⟩ = some (.slice A al.length c) ∧ w'.cell? ⟨w.heap.size, 6, none⟩ = some (.bool s)) ∧ w'.cell? ⟨w.heap.size + 1, 0, none⟩ = some (.int .i64 k') ∧ w'.cell? ⟨w.heap.size + 1, 1, none⟩ = some (.int .i64 a') ∧ w'.cell? ⟨w.heap.size + 1, 2, none⟩ = some (.int .i64 l') ∧ w'.cell? ⟨w.heap.size + 1, 3, none⟩ = some (.string n') ∧ w'.cell? ⟨w.heap.size + 1, 4, none⟩ = some (.string t') ∧ w'.cell? ⟨w.heap.size + 1, 5, none⟩ = some (.slice A' al'.length c') ∧ w'.cell? ⟨w.heap.size + 1, 6, none⟩ = some (.bool s')) v3 := ⟨lay7 J3.out.1.1, lay7 J3.out.1.2⟩))
      clear uv1 uv2 uv3 ud P1 P2 Q2 K1 K2 D2 J2 HE HRE HE' hnn hnn'
      clear p0 q0 p1 q1 p2 q2 p3 q3 p4 q4 p5 q5 p6 q6
      obtain ⟨p0, p1, p2, p3, p4, p5, p6⟩ := lay7 J3.out.1.1
      obtain ⟨q0, q1, q2, q3, q4, q5, q6⟩ := lay7 J3.out.1.2
      go_wp2_with fail
      refine (toToken_any k a l n t al s _ A c b o _ HLL.out.1 hn.1 hn.2 J3.out.2.1.1.1 J3.out.2.1.1.2 (Nat.le_refl _)).mono ?_
      rintro e v4 ⟨g1, rfl, hB, l1, l1', hat⟩
      have J4 := Lib.hid ((J3.out.next hB).next ((Below.refl _ _).alloc (Nat.le_refl _) (.cells #[.int .i64 k, .int .i64 a, .int .i64 l, .string n, .string t, .slice (some ⟨g1, 0, none⟩) al.length al.length, .bool s] 29)))
      have X4 := Lib.hid (TokBox.new (k := k) (a := a) (l := l) (n := n) (t := t) (s := s) (AlIn.new HML.out l1' hat) 29)
      clear hB l1 l1' hat J3
      clear p0 q0 p1 q1 p2 q2 p3 q3 p4 q4 p5 q5 p6 q6
      obtain ⟨p0, p1, p2, p3, p4, p5, p6⟩ := lay7 J4.out.1.1
      obtain ⟨q0, q1, q2, q3, q4, q5, q6⟩ := lay7 J4.out.1.2
      go_wp2_with fail
      refine (toToken_any k' a' l' n' t' al' s' _ A' c' b' o' _ HLL.out.2 hn'.1 hn'.2 J4.out.2.1.2.1 J4.out.2.1.2.2 (Nat.le_refl _)).mono ?_
      rintro e v5 ⟨g2, rfl, hB, l1, l1', hat⟩
      have hA := (Below.refl v5.heap.size v5).alloc (Nat.le_refl _) (.cells #[.int .i64 k', .int .i64 a', .int .i64 l', .string n', .string t', .slice (some ⟨g2, 0, none⟩) al'.length al'.length, .bool s'] 29)
      have J5 := Lib.hid ((J4.out.next hB).next hA)
      have X5 := Lib.hid ((X4.out.next hB).next hA)
      have Y5 := Lib.hid (TokBox.new (k := k') (a := a') (l := l') (n := n') (t := t') (s := s') (AlIn.new HML'.out l1' hat) 29)
      clear hB l1 l1' hat J4 X4 hA
      clear p0 q0 p1 q1 p2 q2 p3 q3 p4 q4 p5 q5 p6 q6
      obtain ⟨p0, p1, p2, p3, p4, p5, p6⟩ := lay7 X5.out.1
      obtain ⟨q0, q1, q2, q3, q4, q5, q6⟩ := lay7 Y5.out.1
      go_wp2_with fail
      refine (implSameToken_any k a l n t al s k' a' l' n' t' al' s' _ _ _ _ _ _ _ _ _ _ _ _ _ X5.out.2.2.1 X5.out.2.2.2 (Nat.le_refl _) Y5.out.2.2.1 Y5.out.2.2.2 (Nat.le_refl _)).mono ?_
      rintro e v6 ⟨rfl, hB⟩
      have J6 := Lib.hid (J5.out.next hB)
      have X6 := Lib.hid (X5.out.next hB)
      have Y6 := Lib.hid (Y5.out.next hB)
      clear hB J5 X5 Y5
      clear p0 q0 p1 q1 p2 q2 p3 q3 p4 q4 p5 q5 p6 q6
      go_wp2_with fail
      have JD := Lib.hid (J6.out.next (Below.refl _ _).drew)
      have XD := Lib.hid (X6.out.next (Below.refl _ _).drew)
      have YD := Lib.hid (Y6.out.next (Below.refl _ _).drew)
      have u0 : (fun w' => (w'.cell? ⟨v4.heap.size, 0, none⟩ = some (.int .i64 k) ∧ w'.cell? ⟨v4.heap.size, 1, none⟩ = some (.int .i64 a) ∧ w'.cell? ⟨v4.heap.size, 2, none⟩ = some (.int .i64 l) ∧ w'.cell? ⟨v4.heap.size, 3, none⟩ = some (.string n) ∧ w'.cell? ⟨v4.heap.size, 4, none⟩ = some (.string t) ∧ w'.cell? ⟨v4.heap.size, 5, none⟩ = some (.slice (some ⟨g1, 0, none⟩) al.length al.length) ∧ w'.cell? ⟨v4.heap.size, 6, none⟩ = some (.bool s)) ∧ w'.cell? ⟨w.heap.size, 0, none⟩ = some (.int .i64 k) ∧ w'.cell? ⟨w.heap.size, 1, none⟩ = some (.int .i64 a) ∧ w'.cell? ⟨w.heap.size, 2, none⟩ = some (.int .i64 l) ∧ w'.cell? ⟨w.heap.size, 3, none⟩ = some (.string n) ∧ w'.cell? ⟨w.heap.size, 4, none⟩ = some (.string t) ∧ w'.cell? ⟨w.heap.size, 5, none⟩ = some (.slice A al.length c) ∧ w'.cell? ⟨w.heap.size, 6, none⟩ = some (.bool s)) v6.drew := ⟨lay7 XD.out.1, lay7 JD.out.1.1⟩
      go_region_held3 (fun w' => (w'.cell? ⟨v4.heap.size, 0, none⟩ = some (.int .i64 k) ∧ w'.cell? ⟨v4.heap.size, 1, none⟩ = some (.int .i64 a) ∧ w'.cell? ⟨v4.heap.size, 2, none⟩ = some (.int .i64 l) ∧ w'.cell? ⟨v4.heap.size, 3, none⟩ = some (.string n) ∧ w'.cell? ⟨v4.heap.size, 4, none⟩ = some (.string t) ∧ w'.cell? ⟨v4.heap.size, 5, none⟩ = some (.slice (some ⟨g1, 0, none⟩) al.length al.length) ∧ w'.cell? ⟨v4.heap.size, 6, none⟩ = some (.bool s)) ∧ w'.cell? ⟨w.heap.size, 0, none⟩ = some (.int .i64 k) ∧ w'.cell? ⟨w.heap.size, 1, none⟩ = some (.int .i64 a) ∧ w'.cell? ⟨w.heap.size, 2, none⟩ = some (.int .i64 l) ∧ w'.cell? ⟨w.heap.size, 3, none⟩ = some (.string n) ∧ w'.cell? ⟨w.heap.size, 4, none⟩ = some (.string t) ∧ w'.cell? ⟨w.heap.size, 5, none⟩ = some (.slice A al.length c) ∧ w'.cell? ⟨w.heap.size, 6, none⟩ = some (.bool s)) (first | exact u1 | exact u2 | exact u0 | go_keep) (first | (go_at_call 8; refine (toToken_any k a l n t al s _ A c b o _ HLL.out.1 hn.1 hn.2 JD.out.2.1.1.1 JD.out.2.1.1.2 (Nat.le_refl _)).mono ?_; rintro e v7 ⟨g3, rfl, hB, l1, l1', hat⟩; have Ja := Lib.hid (JD.out.next hB); have Xa := Lib.hid (XD.out.next hB); have Ya := Lib.hid (YD.out.next hB); have Pa := Lib.hid (AlIn.new HML.out l1' hat); clear hB l1 l1' hat; have u1 : (fun w' => (w'.cell? ⟨v4.heap.size, 0, none⟩ = some (.int .i64 k) ∧ w'.cell? ⟨v4.heap.size, 1, none⟩ = some (.int .i64 a) ∧ w'.cell? ⟨v4.heap.size, 2, none⟩ = some (.int .i64 l) ∧ w'.cell? ⟨v4.heap.size, 3, none⟩ = some (.string n) ∧ w'.cell? ⟨v4.heap.size, 4, none⟩ = some (.string t) ∧ w'.cell? ⟨v4.heap.size, 5, none⟩ = some (.slice (some ⟨g1, 0, none⟩) al.length al.length) ∧ w'.cell? ⟨v4.heap.size, 6, none⟩ = some (.bool s)) ∧ w'.cell? ⟨w.heap.size, 0, none⟩ = some (.int .i64 k) ∧ w'.cell? ⟨w.heap.size, 1, none⟩ = some (.int .i64 a) ∧ w'.cell? ⟨w.heap.size, 2, none⟩ = some (.int .i64 l) ∧ w'.cell? ⟨w.heap.size, 3, none⟩ = some (.string n) ∧ w'.cell? ⟨w.heap.size, 4, none⟩ = some (.string t) ∧ w'.cell? ⟨w.heap.size, 5, none⟩ = some (.slice A al.length c) ∧ w'.cell? ⟨w.heap.size, 6, none⟩ = some (.bool s)) v7 := ⟨lay7 Xa.out.1, lay7 Ja.out.1.1⟩) | (go_at_call 10; refine (eqToken_same k a l n t al s _ _ _ _ _ _ _ _ _ _ _ _ _ Xa.out.2.2.1 Xa.out.2.2.2 (Nat.le_refl _) Pa.out.1 Pa.out.2 (Nat.le_refl _)).mono ?_; rintro e v8 ⟨rfl, hB⟩; have J8 := Lib.hid (Ja.out.next hB); have X8 := Lib.hid (Xa.out.next hB); have Y8 := Lib.hid (Ya.out.next hB); clear hB; have u2 : (fun w' => (w'.cell? ⟨v4.heap.size, 0, none⟩ = some (.int .i64 k) ∧ w'.cell? ⟨v4.heap.size, 1, none⟩ = some (.int .i64 a) ∧ w'.cell? ⟨v4.heap.size, 2, none⟩ = some (.int .i64 l) ∧ w'.cell? ⟨v4.heap.size, 3, none⟩ = some (.string n) ∧ w'.cell? ⟨v4.heap.size, 4, none⟩ = some (.string t) ∧ w'.cell? ⟨v4.heap.size, 5, none⟩ = some (.slice (some ⟨g1, 0, none⟩) al.length al.length) ∧ w'.cell? ⟨v4.heap.size, 6, none⟩ = some (.bool s)) ∧ w'.cell? ⟨w.heap.size, 0, none⟩ = some (.int .i64 k) ∧ w'.cell? ⟨w.heap.size, 1, none⟩ = some (.int .i64 a) ∧ w'.cell? ⟨w.heap.size, 2, none⟩ = some (.int .i64 l) ∧ w'.cell? ⟨w.heap.size, 3, none⟩ = some (.string n) ∧ w'.cell? ⟨w.heap.size, 4, none⟩ = some (.string t) ∧ w'.cell? ⟨w.heap.size, 5, none⟩ = some (.slice A al.length c) ∧ w'.cell? ⟨w.heap.size, 6, none⟩ = some (.bool s)) v8 := ⟨lay7 X8.out.1, lay7 J8.out.1.1⟩))
      clear u0 u1 u2 Ja Xa Ya Pa JD XD YD J6 X6 Y6
      go_wp2_with fail
      have JD := Lib.hid (J8.out.next (Below.refl _ _).drew)
      have XD := Lib.hid (X8.out.next (Below.refl _ _).drew)
      have YD := Lib.hid (Y8.out.next (Below.refl _ _).drew)
      have u0 : (fun w' => (w'.cell? ⟨v5.heap.size, 0, none⟩ = some (.int .i64 k') ∧ w'.cell? ⟨v5.heap.size, 1, none⟩ = some (.int .i64 a') ∧ w'.cell? ⟨v5.heap.size, 2, none⟩ = some (.int .i64 l') ∧ w'.cell? ⟨v5.heap.size, 3, none⟩ = some (.string n') ∧ w'.cell? ⟨v5.heap.size, 4, none⟩ = some (.string t') ∧ w'.cell? ⟨v5.heap.size, 5, none⟩ = some (.slice (some ⟨g2, 0, none⟩) al'.length al'.length) ∧ w'.cell? ⟨v5.heap.size, 6, none⟩ = some (.bool s')) ∧ w'.cell? ⟨w.heap.size + 1, 0, none⟩ = some (.int .i64 k') ∧ w'.cell? ⟨w.heap.size + 1, 1, none⟩ = some (.int .i64 a') ∧ w'.cell? ⟨w.heap.size + 1, 2, none⟩ = some (.int .i64 l') ∧ w'.cell? ⟨w.heap.size + 1, 3, none⟩ = some (.string n') ∧ w'.cell? ⟨w.heap.size + 1, 4, none⟩ = some (.string t') ∧ w'.cell? ⟨w.heap.size + 1, 5, none⟩ = some (.slice A' al'.length c') ∧ w'.cell? ⟨w.heap.size + 1, 6, none⟩ = some (.bool s')) v8.drew := ⟨lay7 YD.out.1, lay7 JD.out.1.2⟩
      go_region_held3 (fun w' => (w'.cell? ⟨v5.heap.size, 0, none⟩ = some (.int .i64 k') ∧ w'.cell? ⟨v5.heap.size, 1, none⟩ = some (.int .i64 a') ∧ w'.cell? ⟨v5.heap.size, 2, none⟩ = some (.int .i64 l') ∧ w'.cell? ⟨v5.heap.size, 3, none⟩ = some (.string n') ∧ w'.cell? ⟨v5.heap.size, 4, none⟩ = some (.string t') ∧ w'.cell? ⟨v5.heap.size, 5, none⟩ = some (.slice (some ⟨g2, 0, none⟩) al'.length al'.length) ∧ w'.cell? ⟨v5.heap.size, 6, none⟩ = some (.bool s')) ∧ w'.cell? ⟨w.heap.size + 1, 0, none⟩ = some (.int .i64 k') ∧ w'.cell? ⟨w.heap.size + 1, 1, none⟩ = some (.int .i64 a') ∧ w'.cell? ⟨w.heap.size + 1, 2, none⟩ = some (.int .i64 l') ∧ w'.cell? ⟨w.heap.size + 1, 3, none⟩ = some (.string n') ∧ w'.cell? ⟨w.heap.size + 1, 4, none⟩ = some (.string t') ∧ w'.cell? ⟨w.heap.size + 1, 5, none⟩ = some (.slice A' al'.length c') ∧ w'.cell? ⟨w.heap.size + 1, 6, none⟩ = some (.bool s')) (first | exact u1 | exact u2 | exact u0 | go_keep) (first | (go_at_call 8; refine (toToken_any k' a' l' n' t' al' s' _ A' c' b' o' _ HLL.out.2 hn'.1 hn'.2 JD.out.2.1.2.1 JD.out.2.1.2.2 (Nat.le_refl _)).mono ?_; rintro e v9 ⟨g3, rfl, hB, l1, l1', hat⟩; have Ja := Lib.hid (JD.out.next hB); have Xa := Lib.hid (XD.out.next hB); have Ya := Lib.hid (YD.out.next hB); have Pa := Lib.hid (AlIn.new HML'.out l1' hat); clear hB l1 l1' hat; have u1 : (fun w' => (w'.cell? ⟨v5.heap.size, 0, none⟩ = some (.int .i64 k') ∧ w'.cell? ⟨v5.heap.size, 1, none⟩ = some (.int .i64 a') ∧ w'.cell? ⟨v5.heap.size, 2, none⟩ = some (.int .i64 l') ∧ w'.cell? ⟨v5.heap.size, 3, none⟩ = some (.string n') ∧ w'.cell? ⟨v5.heap.size, 4, none⟩ = some (.string t') ∧ w'.cell? ⟨v5.heap.size, 5, none⟩ = some (.slice (some ⟨g2, 0, none⟩) al'.length al'.length) ∧ w'.cell? ⟨v5.heap.size, 6, none⟩ = some (.bool s')) ∧ w'.cell? ⟨w.heap.size + 1, 0, none⟩ = some (.int .i64 k') ∧ w'.cell? ⟨w.heap.size + 1, 1, none⟩ = some (.int .i64 a') ∧ w'.cell? ⟨w.heap.size + 1, 2, none⟩ = some (.int .i64 l') ∧ w'.cell? ⟨w.heap.size + 1, 3, none⟩ = some (.string n') ∧ w'.cell? ⟨w.heap.size + 1, 4, none⟩ = some (.string t') ∧ w'.cell? ⟨w.heap.size + 1, 5, none⟩ = some (.slice A' al'.length c') ∧ w'.cell? ⟨w.heap.size + 1, 6, none⟩ = some (.bool s')) v9 := ⟨lay7 Ya.out.1, lay7 Ja.out.1.2⟩) | (go_at_call 10; refine (eqToken_same k' a' l' n' t' al' s' _ _ _ _ _ _ _ _ _ _ _ _ _ Ya.out.2.2.1 Ya.out.2.2.2 (Nat.le_refl _) Pa.out.1 Pa.out.2 (Nat.le_refl _)).mono ?_; rintro e v10 ⟨rfl, hB⟩; have J10 := Lib.hid (Ja.out.next hB); have X10 := Lib.hid (Xa.out.next hB); have Y10 := Lib.hid (Ya.out.next hB); clear hB; have u2 : (fun w' => (w'.cell? ⟨v5.heap.size, 0, none⟩ = some (.int .i64 k') ∧ w'.cell? ⟨v5.heap.size, 1, none⟩ = some (.int .i64 a') ∧ w'.cell? ⟨v5.heap.size, 2, none⟩ = some (.int .i64 l') ∧ w'.cell? ⟨v5.heap.size, 3, none⟩ = some (.string n') ∧ w'.cell? ⟨v5.heap.size, 4, none⟩ = some (.string t') ∧ w'.cell? ⟨v5.heap.size, 5, none⟩ = some (.slice (some ⟨g2, 0, none⟩) al'.length al'.length) ∧ w'.cell? ⟨v5.heap.size, 6, none⟩ = some (.bool s')) ∧ w'.cell? ⟨w.heap.size + 1, 0, none⟩ = some (.int .i64 k') ∧ w'.cell? ⟨w.heap.size + 1, 1, none⟩ = some (.int .i64 a') ∧ w'.cell? ⟨w.heap.size + 1, 2, none⟩ = some (.int .i64 l') ∧ w'.cell? ⟨w.heap.size + 1, 3, none⟩ = some (.string n') ∧ w'.cell? ⟨w.heap.size + 1, 4, none⟩ = some (.string t') ∧ w'.cell? ⟨w.heap.size + 1, 5, none⟩ = some (.slice A' al'.length c') ∧ w'.cell? ⟨w.heap.size + 1, 6, none⟩ = some (.bool s')) v10 := ⟨lay7 Y10.out.1, lay7 J10.out.1.2⟩))
      clear u0 u1 u2 Ja Xa Ya Pa JD XD YD J8 X8 Y8
      go_wp2
      go_ret
      exact ⟨rfl, J10.out.2.2.1⟩
    · have HE' := Lib.hid (left_gt hs')
      clear hs hs'
      go_enter Try.func3, Try.ntmps3
      go_wp2_with fail
      refine (szToken_any k a l n t al s 1048576 _ A c b o _ (by omega) hn.1 hn.2 H0.out.1.1 H0.out.1.2 (Nat.le_refl _)).mono ?_
      rintro e w1 ⟨rfl, hB⟩
      obtain ⟨L1, L2, B3⟩ := two_lay (by simpa using hB)
      have J1 : Hid (TokIns w w1 #[.int .i64 k, .int .i64 a, .int .i64 l, .string n, .string t, .slice A al.length c, .bool s] #[.int .i64 k', .int .i64 a', .int .i64 l', .string n', .string t', .slice A' al'.length c', .bool s'] A b o al A' b' o' al') := Lib.hid ⟨⟨L1, L2⟩, ⟨H0.out.1.next hB, H0.out.2.next hB⟩, B3, Nat.lt_of_lt_of_le (by simp) hB.size⟩
      clear hB L1 L2 B3 H0
      rw [HE.out, HRE.out]
      obtain ⟨p0, p1, p2, p3, p4, p5, p6⟩ := lay7 J1.out.1.1
      obtain ⟨q0, q1, q2, q3, q4, q5, q6⟩ := lay7 J1.out.1.2
      go_wp2_with fail
      refine (szToken_any k' a' l' n' t' al' s' (1048576 - (n.size + t.size + (al.length + asSize al))) _ A' c' b' o' _ (by omega) hn'.1 hn'.2 J1.out.2.1.2.1 J1.out.2.1.2.2 (Nat.le_refl _)).mono ?_
      rintro e w2 ⟨rfl, hB⟩
      rw [HE'.out]
      have J2 := Lib.hid (J1.out.next hB)
      clear hB
      go_wp2
      go_ret
      exact ⟨rfl, J2.out.2.2.1⟩
  · have HE := Lib.hid (left_gt hs)
    clear hs
    go_enter Try.func3, Try.ntmps3
    go_wp2_with fail
    refine (szToken_any k a l n t al s 1048576 _ A c b o _ (by omega) hn.1 hn.2 H0.out.1.1 H0.out.1.2 (Nat.le_refl _)).mono ?_
    rintro e w1 ⟨rfl, hB⟩
    obtain ⟨L1, L2, B3⟩ := two_lay (by simpa using hB)
    have J1 : Hid (TokIns w w1 #[.int .i64 k, .int .i64 a, .int .i64 l, .string n, .string t, .slice A al.length c, .bool s] #[.int .i64 k', .int .i64 a', .int .i64 l', .string n', .string t', .slice A' al'.length c', .bool s'] A b o al A' b' o' al') := Lib.hid ⟨⟨L1, L2⟩, ⟨H0.out.1.next hB, H0.out.2.next hB⟩, B3, Nat.lt_of_lt_of_le (by simp) hB.size⟩
    clear hB L1 L2 B3 H0
    rw [HE.out]
    go_wp2
    go_ret
    exact ⟨rfl, J1.out.2.2.1⟩
end Go.Proofs.Ytgkkmoliobhpiaa
