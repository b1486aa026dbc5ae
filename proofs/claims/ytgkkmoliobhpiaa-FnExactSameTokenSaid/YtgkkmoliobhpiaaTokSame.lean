import Derived.Test.YtgkkmoliobhpiaaTok
import Derived.Test.YtgkkmoliobhpiaaSame2
namespace Go.Proofs.Ytgkkmoliobhpiaa
open Go.ChangeShapes Go.WideShapes Go.ChangeAt Go.RowKit Go.Deep

def tokEq (k a l : Int) (n t : ByteArray) (al : List (ByteArray × ByteArray)) (s : Bool) (k' a' l' : Int) (n' t' : ByteArray) (al' : List (ByteArray × ByteArray)) (s' : Bool) : Bool :=
  (k == k') && (a == a') && (l == l') && (n.toList == n'.toList) && (t.toList == t'.toList) && (s == s') && alEq al al'

set_option maxHeartbeats 2000000 in
theorem specSameToken_any (k a l : Int) (n t : ByteArray) (al : List (ByteArray × ByteArray)) (s : Bool) (k' a' l' : Int) (n' t' : ByteArray) (al' : List (ByteArray × ByteArray)) (s' : Bool) (w : World) (A A' : Option Addr) (c c' b o b' o' lo hi lo' hi' : Nat)
    (hA : RowAt lo hi A al.length b o) (hal : AsAt w b o al) (hh : hi ≤ w.heap.size) (hA' : RowAt lo' hi' A' al'.length b' o') (hal' : AsAt w b' o' al') (hh' : hi' ≤ w.heap.size) :
    Calls Try.prog 7 #[.agg #[.int .i64 k, .int .i64 a, .int .i64 l, .string n, .string t, .slice A al.length c, .bool s], .agg #[.int .i64 k', .int .i64 a', .int .i64 l', .string n', .string t', .slice A' al'.length c', .bool s']] w fun e w' =>
      e = .returned (.bool (tokEq k a l n t al s k' a' l' n' t' al' s')) ∧ Below w.heap.size w w' := by
  have HA := Lib.hid (And.intro hA hal)
  have HA' := Lib.hid (And.intro hA' hal')
  clear hA hal hA' hal'
  by_cases h0 : k = k'
  · subst h0
    by_cases h1 : a = a'
    · subst h1
      by_cases h2 : l = l'
      · subst h2
        cases h3 : n.toList == n'.toList with
        | true =>
          cases h4 : t.toList == t'.toList with
          | true =>
            cases h5 : alEq al al' with
            | true =>
              cases h6 : s == s' with
              | true =>
                have HE := Lib.hid (show tokEq k a l n t al s k a l n' t' al' s' = true by simp [tokEq, h3, h4, h5, h6])
                have H5 := Lib.hid h5
                clear h5
                go_enter Try.func7, Try.ntmps7
                go_wp2_with (go_at_call 27; go_loud (refine (l03SameAttrs_any al al' _ A A' c c' b b' o o' lo hi lo' hi' HA.out.1 HA'.out.1 ?p1_1 ?p2_1 ?p3_1 ?p4_1).mono ?p5_1; (case p1_1 => (simp; omega)); (case p2_1 => (simp; omega)); (case p3_1 => exact HA.out.2.but HA.out.1 (((But.refl No w).alloc _).alloc _) hh (fun _ h => h.elim)); (case p4_1 => exact HA'.out.2.but HA'.out.1 (((But.refl No w).alloc _).alloc _) hh' (fun _ h => h.elim)); rintro e w1 ⟨rfl, hB1⟩; rw [H5.out]; simp only [World.size_alloc] at hB1; obtain ⟨L1, L2, B3⟩ := two_lay hB1; have r6 := L1.1 6; have r6' := L2.1 6; have KB := Lib.hid B3; simp at r6 r6'; clear L1 L2 B3 hB1))
                go_ret
                exact ⟨by rw [HE.out]; rfl, KB.out⟩
              | false =>
                have HE := Lib.hid (show tokEq k a l n t al s k a l n' t' al' s' = false by simp [tokEq, h3, h4, h5, h6])
                have H5 := Lib.hid h5
                clear h5
                go_enter Try.func7, Try.ntmps7
                go_wp2_with (go_at_call 27; go_loud (refine (l03SameAttrs_any al al' _ A A' c c' b b' o o' lo hi lo' hi' HA.out.1 HA'.out.1 ?p1_2 ?p2_2 ?p3_2 ?p4_2).mono ?p5_2; (case p1_2 => (simp; omega)); (case p2_2 => (simp; omega)); (case p3_2 => exact HA.out.2.but HA.out.1 (((But.refl No w).alloc _).alloc _) hh (fun _ h => h.elim)); (case p4_2 => exact HA'.out.2.but HA'.out.1 (((But.refl No w).alloc _).alloc _) hh' (fun _ h => h.elim)); rintro e w1 ⟨rfl, hB1⟩; rw [H5.out]; simp only [World.size_alloc] at hB1; obtain ⟨L1, L2, B3⟩ := two_lay hB1; have r6 := L1.1 6; have r6' := L2.1 6; have KB := Lib.hid B3; simp at r6 r6'; clear L1 L2 B3 hB1))
                go_ret
                exact ⟨by rw [HE.out]; rfl, KB.out⟩
            | false =>
              cases h6 : s == s' with
              | true =>
                have HE := Lib.hid (show tokEq k a l n t al s k a l n' t' al' s' = false by simp [tokEq, h5])
                have H5 := Lib.hid h5
                clear h5
                go_enter Try.func7, Try.ntmps7
                go_wp2_with (go_at_call 27; go_loud (refine (l03SameAttrs_any al al' _ A A' c c' b b' o o' lo hi lo' hi' HA.out.1 HA'.out.1 ?p1_3 ?p2_3 ?p3_3 ?p4_3).mono ?p5_3; (case p1_3 => (simp; omega)); (case p2_3 => (simp; omega)); (case p3_3 => exact HA.out.2.but HA.out.1 (((But.refl No w).alloc _).alloc _) hh (fun _ h => h.elim)); (case p4_3 => exact HA'.out.2.but HA'.out.1 (((But.refl No w).alloc _).alloc _) hh' (fun _ h => h.elim)); rintro e w1 ⟨rfl, hB1⟩; rw [H5.out]; simp only [World.size_alloc] at hB1; obtain ⟨L1, L2, B3⟩ := two_lay hB1; have r6 := L1.1 6; have r6' := L2.1 6; have KB := Lib.hid B3; simp at r6 r6'; clear L1 L2 B3 hB1))
                go_ret
                exact ⟨by rw [HE.out]; rfl, KB.out⟩
              | false =>
                have HE := Lib.hid (show tokEq k a l n t al s k a l n' t' al' s' = false by simp [tokEq, h5])
                have H5 := Lib.hid h5
                clear h5
                go_enter Try.func7, Try.ntmps7
                go_wp2_with (go_at_call 27; go_loud (refine (l03SameAttrs_any al al' _ A A' c c' b b' o o' lo hi lo' hi' HA.out.1 HA'.out.1 ?p1_4 ?p2_4 ?p3_4 ?p4_4).mono ?p5_4; (case p1_4 => (simp; omega)); (case p2_4 => (simp; omega)); (case p3_4 => exact HA.out.2.but HA.out.1 (((But.refl No w).alloc _).alloc _) hh (fun _ h => h.elim)); (case p4_4 => exact HA'.out.2.but HA'.out.1 (((But.refl No w).alloc _).alloc _) hh' (fun _ h => h.elim)); rintro e w1 ⟨rfl, hB1⟩; rw [H5.out]; simp only [World.size_alloc] at hB1; obtain ⟨L1, L2, B3⟩ := two_lay hB1; have r6 := L1.1 6; have r6' := L2.1 6; have KB := Lib.hid B3; simp at r6 r6'; clear L1 L2 B3 hB1))
                go_ret
                exact ⟨by rw [HE.out]; rfl, KB.out⟩
          | false =>
            have HE := Lib.hid (show tokEq k a l n t al s k a l n' t' al' s' = false by simp [tokEq, h4])
            go_enter Try.func7, Try.ntmps7
            go_wp2
            go_ret
            exact ⟨by rw [HE.out]; rfl, by go_grown⟩
        | false =>
          have HE := Lib.hid (show tokEq k a l n t al s k a l n' t' al' s' = false by simp [tokEq, h3])
          go_enter Try.func7, Try.ntmps7
          go_wp2
          go_ret
          exact ⟨by rw [HE.out]; rfl, by go_grown⟩
      · have h2' : (l == l') = false := by simpa using h2
        have HE := Lib.hid (show tokEq k a l n t al s k a l' n' t' al' s' = false by simp [tokEq, h2])
        clear h2
        go_enter Try.func7, Try.ntmps7
        go_wp2
        go_ret
        exact ⟨by rw [HE.out]; rfl, by go_grown⟩
    · have h1' : (a == a') = false := by simpa using h1
      have HE := Lib.hid (show tokEq k a l n t al s k a' l' n' t' al' s' = false by simp [tokEq, h1])
      clear h1
      go_enter Try.func7, Try.ntmps7
      go_wp2
      go_ret
      exact ⟨by rw [HE.out]; rfl, by go_grown⟩
  · have h0' : (k == k') = false := by simpa using h0
    have HE := Lib.hid (show tokEq k a l n t al s k' a' l' n' t' al' s' = false by simp [tokEq, h0])
    clear h0
    go_enter Try.func7, Try.ntmps7
    go_wp2
    go_ret
    exact ⟨by rw [HE.out]; rfl, by go_grown⟩
set_option maxHeartbeats 2000000 in
theorem implSameToken_any (k a l : Int) (n t : ByteArray) (al : List (ByteArray × ByteArray)) (s : Bool) (k' a' l' : Int) (n' t' : ByteArray) (al' : List (ByteArray × ByteArray)) (s' : Bool) (w : World) (A A' : Option Addr) (c c' b o b' o' lo hi lo' hi' : Nat)
    (hA : RowAt lo hi A al.length b o) (hal : AsAt w b o al) (hh : hi ≤ w.heap.size) (hA' : RowAt lo' hi' A' al'.length b' o') (hal' : AsAt w b' o' al') (hh' : hi' ≤ w.heap.size) :
    Calls Try.prog 9 #[.agg #[.int .i64 k, .int .i64 a, .int .i64 l, .string n, .string t, .slice A al.length c, .bool s], .agg #[.int .i64 k', .int .i64 a', .int .i64 l', .string n', .string t', .slice A' al'.length c', .bool s']] w fun e w' =>
      e = .returned (.bool (tokEq k a l n t al s k' a' l' n' t' al' s')) ∧ Below w.heap.size w w' := by
  have HA := Lib.hid (And.intro hA hal)
  have HA' := Lib.hid (And.intro hA' hal')
  clear hA hal hA' hal'
  by_cases h0 : k = k'
  · subst h0
    by_cases h1 : a = a'
    · subst h1
      by_cases h2 : l = l'
      · subst h2
        cases h3 : n.toList == n'.toList with
        | true =>
          cases h4 : t.toList == t'.toList with
          | true =>
            cases h5 : alEq al al' with
            | true =>
              cases h6 : s == s' with
              | true =>
                have HE := Lib.hid (show tokEq k a l n t al s k a l n' t' al' s' = true by simp [tokEq, h3, h4, h5, h6])
                have H5 := Lib.hid h5
                clear h5
                go_enter Try.func9, Try.ntmps9
                go_wp2_with (go_at_call 29; go_loud (refine (slicesEqual_any al al' _ A A' c c' b b' o o' lo hi lo' hi' HA.out.1 HA'.out.1 ?p1_5 ?p2_5 ?p3_5 ?p4_5).mono ?p5_5; (case p1_5 => (simp; omega)); (case p2_5 => (simp; omega)); (case p3_5 => exact HA.out.2.but HA.out.1 (((But.refl No w).alloc _).alloc _) hh (fun _ h => h.elim)); (case p4_5 => exact HA'.out.2.but HA'.out.1 (((But.refl No w).alloc _).alloc _) hh' (fun _ h => h.elim)); rintro e w1 ⟨rfl, hB1⟩; rw [H5.out]; simp only [World.size_alloc] at hB1; obtain ⟨L1, L2, B3⟩ := two_lay hB1; have r6 := L1.1 6; have r6' := L2.1 6; have KB := Lib.hid B3; simp at r6 r6'; clear L1 L2 B3 hB1))
                go_ret
                exact ⟨by rw [HE.out]; rfl, KB.out⟩
              | false =>
                have HE := Lib.hid (show tokEq k a l n t al s k a l n' t' al' s' = false by simp [tokEq, h3, h4, h5, h6])
                have H5 := Lib.hid h5
                clear h5
                go_enter Try.func9, Try.ntmps9
                go_wp2
                go_ret
                exact ⟨by rw [HE.out]; rfl, by go_grown⟩
            | false =>
              cases h6 : s == s' with
              | true =>
                have HE := Lib.hid (show tokEq k a l n t al s k a l n' t' al' s' = false by simp [tokEq, h5])
                have H5 := Lib.hid h5
                clear h5
                go_enter Try.func9, Try.ntmps9
                go_wp2_with (go_at_call 29; go_loud (refine (slicesEqual_any al al' _ A A' c c' b b' o o' lo hi lo' hi' HA.out.1 HA'.out.1 ?p1_6 ?p2_6 ?p3_6 ?p4_6).mono ?p5_6; (case p1_6 => (simp; omega)); (case p2_6 => (simp; omega)); (case p3_6 => exact HA.out.2.but HA.out.1 (((But.refl No w).alloc _).alloc _) hh (fun _ h => h.elim)); (case p4_6 => exact HA'.out.2.but HA'.out.1 (((But.refl No w).alloc _).alloc _) hh' (fun _ h => h.elim)); rintro e w1 ⟨rfl, hB1⟩; rw [H5.out]; simp only [World.size_alloc] at hB1; obtain ⟨L1, L2, B3⟩ := two_lay hB1; have r6 := L1.1 6; have r6' := L2.1 6; have KB := Lib.hid B3; simp at r6 r6'; clear L1 L2 B3 hB1))
                go_ret
                exact ⟨by rw [HE.out]; rfl, KB.out⟩
              | false =>
                have HE := Lib.hid (show tokEq k a l n t al s k a l n' t' al' s' = false by simp [tokEq, h5])
                have H5 := Lib.hid h5
                clear h5
                go_enter Try.func9, Try.ntmps9
                go_wp2
                go_ret
                exact ⟨by rw [HE.out]; rfl, by go_grown⟩
          | false =>
            have HE := Lib.hid (show tokEq k a l n t al s k a l n' t' al' s' = false by simp [tokEq, h4])
            go_enter Try.func9, Try.ntmps9
            go_wp2
            go_ret
            exact ⟨by rw [HE.out]; rfl, by go_grown⟩
        | false =>
          have HE := Lib.hid (show tokEq k a l n t al s k a l n' t' al' s' = false by simp [tokEq, h3])
          go_enter Try.func9, Try.ntmps9
          go_wp2
          go_ret
          exact ⟨by rw [HE.out]; rfl, by go_grown⟩
      · have h2' : (l == l') = false := by simpa using h2
        have HE := Lib.hid (show tokEq k a l n t al s k a l' n' t' al' s' = false by simp [tokEq, h2])
        clear h2
        go_enter Try.func9, Try.ntmps9
        go_wp2
        go_ret
        exact ⟨by rw [HE.out]; rfl, by go_grown⟩
    · have h1' : (a == a') = false := by simpa using h1
      have HE := Lib.hid (show tokEq k a l n t al s k a' l' n' t' al' s' = false by simp [tokEq, h1])
      clear h1
      go_enter Try.func9, Try.ntmps9
      go_wp2
      go_ret
      exact ⟨by rw [HE.out]; rfl, by go_grown⟩
  · have h0' : (k == k') = false := by simpa using h0
    have HE := Lib.hid (show tokEq k a l n t al s k' a' l' n' t' al' s' = false by simp [tokEq, h0])
    clear h0
    go_enter Try.func9, Try.ntmps9
    go_wp2
    go_ret
    exact ⟨by rw [HE.out]; rfl, by go_grown⟩
end Go.Proofs.Ytgkkmoliobhpiaa
