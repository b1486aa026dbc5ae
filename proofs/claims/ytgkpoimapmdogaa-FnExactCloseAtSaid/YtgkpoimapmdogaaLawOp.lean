import Derived.Test.YtgkpoimapmdogaaOp7
namespace Go.Proofs.Ytgkpoimapmdogaa
open Go.ChangeShapes Go.WideShapes Go.ChangeAt Go.RowKit Go.Deep

theorem hd_new (g n : Nat) : Hd (some ⟨g, 0, none⟩) g 0 n n := ⟨Nat.le_refl _, Or.inl rfl⟩

theorem lawImplied_val (l : List (ByteArray × Int)) (n : ByteArray) (w : World) (A : Option Addr) (c b o : Nat) (hn : n.size ≤ 1048576) (hl : OsIn w A b o l) (hs : l.length + osSize l ≤ 1048576) (x y : Int) (hv : implV l n = .tuple #[.int .i64 x, .int .i64 y]) :
    Calls Try.prog 4 #[.slice A l.length c, .string n] w fun e w' => e = .returned (.bool true) ∧ Below w.heap.size w w' := by
  have HE := Lib.hid (left_le hs)
  have hnn : 0 ≤ ((1048576 : Nat) : Int) - ((l.length + osSize l : Nat) : Int) := by omega
  have hll : l.length ≤ 1048576 := by omega
  have hnm : n.size ≤ maxLen := by unfold maxLen; omega
  have HL := Lib.hid hl
  have HV := Lib.hid hv
  clear hv
  have HNM := Lib.hid hnm
  clear hl hs hnm
  go_enter Try.func4, Try.ntmps4
  go_wp2_with (go_at_call 15; refine (szOpenS_any l 1048576 _ A c b o (by omega) HL.out).mono ?_; rintro e w1 ⟨rfl, hB⟩; rw [HE.out]; have B1 := Lib.hid hB; clear hB)
  refine (toOpenS_any l _ A c b o hll (HL.out.next B1.out)).mono ?_
  rintro e w2 ⟨rfl, hB, hI⟩
  have B2 := Lib.hid (B1.out.trans (hB.mono B1.out.size))
  have I2 := Lib.hid hI
  clear hB hI
  go_wp2_with fail
  refine (specImplied_any l n _ _ l.length w1.heap.size 0 HNM.out (hd_new _ _) I2.out).mono ?_
  rintro e w3 ⟨rfl, hB⟩
  rw [HV.out]
  have B3 := Lib.hid (B2.out.trans (hB.mono B2.out.size))
  clear hB I2
  go_wp2_with fail
  refine (toOpenS_any l _ A c b o hll (HL.out.next B3.out)).mono ?_
  rintro e w4 ⟨rfl, hB, hI⟩
  have B4 := Lib.hid (B3.out.trans (hB.mono B3.out.size))
  have I4 := Lib.hid hI
  clear hB hI
  go_wp2_with fail
  refine (implImplied_any l n _ _ l.length w3.heap.size 0 HNM.out (hd_new _ _) I4.out).mono ?_
  rintro e w5 ⟨rfl, hB⟩
  rw [HV.out]
  have B5 := Lib.hid (B4.out.trans (hB.mono B4.out.size))
  have I5 := Lib.hid (I4.out.next hB)
  clear hB I4
  go_wp2_with fail
  refine (toOpenS_any l _ A c b o hll (HL.out.next B5.out)).mono ?_
  rintro e w6 ⟨rfl, hB, hI⟩
  have B6 := Lib.hid (B5.out.trans (hB.mono B5.out.size))
  have I6 := Lib.hid hI
  have J6 := Lib.hid (I5.out.next hB)
  clear hB hI I5
  go_wp2_with fail
  refine (eqOpenS_same l _ _ _ _ _ _ _ _ _ J6.out I6.out).mono ?_
  rintro e w7 ⟨rfl, hB⟩
  have B7 := Lib.hid (B6.out.trans (hB.mono B6.out.size))
  clear hB
  go_wp2
  go_ret
  exact ⟨rfl, B7.out⟩

theorem lawImplied_walk (l : List (ByteArray × Int)) (n : ByteArray) (w : World) (A : Option Addr) (c b o : Nat) (hn : n.size ≤ maxLen) (hl : OsIn w A b o l) :
    Calls Try.prog 4 #[.slice A l.length c, .string n] w fun e w' => e = .returned (.bool true) ∧ Below w.heap.size w w' := by
  by_cases h1 : n.size ≤ 1048576
  · by_cases hs : l.length + osSize l ≤ 1048576
    · by_cases hk : askOf l n = 0
      · exact lawImplied_val l n w A c b o h1 hl hs _ _ (by unfold implV; rw [if_pos hk])
      · exact lawImplied_val l n w A c b o h1 hl hs _ _ (by unfold implV; rw [if_neg hk])
    · have HE := Lib.hid (left_gt hs)
      have HL := Lib.hid hl
      clear hl hs
      go_enter Try.func4, Try.ntmps4
      go_wp2_with (go_at_call 15; refine (szOpenS_any l 1048576 _ A c b o (by omega) HL.out).mono ?_; rintro e w1 ⟨rfl, hB⟩; rw [HE.out]; have B1 := Lib.hid hB; clear hB)
      go_ret
      exact ⟨rfl, B1.out⟩
  · unfold maxLen at hn
    clear hl
    go_enter Try.func4, Try.ntmps4
    go_wp2
    go_ret
    exact ⟨rfl, Below.refl _ _⟩

theorem lawPlaceOf_val (l : List (ByteArray × Int)) (n : ByteArray) (w : World) (A : Option Addr) (c b o : Nat) (hn : n.size ≤ 1048576) (hl : OsIn w A b o l) (hs : l.length + osSize l ≤ 1048576) (x y z : Int) (hv : placeV l n = .tuple #[.int .i64 x, .int .i64 y, .int .i64 z]) :
    Calls Try.prog 5 #[.slice A l.length c, .string n] w fun e w' => e = .returned (.bool true) ∧ Below w.heap.size w w' := by
  have HE := Lib.hid (left_le hs)
  have hnn : 0 ≤ ((1048576 : Nat) : Int) - ((l.length + osSize l : Nat) : Int) := by omega
  have hll : l.length ≤ 1048576 := by omega
  have hnm : n.size ≤ maxLen := by unfold maxLen; omega
  have HL := Lib.hid hl
  have HV := Lib.hid hv
  clear hv
  have HNM := Lib.hid hnm
  clear hl hs hnm
  go_enter Try.func5, Try.ntmps5
  go_wp2_with (go_at_call 15; refine (szOpenS_any l 1048576 _ A c b o (by omega) HL.out).mono ?_; rintro e w1 ⟨rfl, hB⟩; rw [HE.out]; have B1 := Lib.hid hB; clear hB)
  refine (toOpenS_any l _ A c b o hll (HL.out.next B1.out)).mono ?_
  rintro e w2 ⟨rfl, hB, hI⟩
  have B2 := Lib.hid (B1.out.trans (hB.mono B1.out.size))
  have I2 := Lib.hid hI
  clear hB hI
  go_wp2_with fail
  refine (specPlaceOf_any l n _ _ l.length w1.heap.size 0 HNM.out (hd_new _ _) I2.out).mono ?_
  rintro e w3 ⟨rfl, hB⟩
  rw [HV.out]
  have B3 := Lib.hid (B2.out.trans (hB.mono B2.out.size))
  clear hB I2
  go_wp2_with fail
  refine (toOpenS_any l _ A c b o hll (HL.out.next B3.out)).mono ?_
  rintro e w4 ⟨rfl, hB, hI⟩
  have B4 := Lib.hid (B3.out.trans (hB.mono B3.out.size))
  have I4 := Lib.hid hI
  clear hB hI
  go_wp2_with fail
  refine (implPlaceOf_any l n _ _ l.length w3.heap.size 0 HNM.out (hd_new _ _) I4.out).mono ?_
  rintro e w5 ⟨rfl, hB⟩
  rw [HV.out]
  have B5 := Lib.hid (B4.out.trans (hB.mono B4.out.size))
  have I5 := Lib.hid (I4.out.next hB)
  clear hB I4
  go_wp2_with fail
  refine (toOpenS_any l _ A c b o hll (HL.out.next B5.out)).mono ?_
  rintro e w6 ⟨rfl, hB, hI⟩
  have B6 := Lib.hid (B5.out.trans (hB.mono B5.out.size))
  have I6 := Lib.hid hI
  have J6 := Lib.hid (I5.out.next hB)
  clear hB hI I5
  go_wp2_with fail
  refine (eqOpenS_same l _ _ _ _ _ _ _ _ _ J6.out I6.out).mono ?_
  rintro e w7 ⟨rfl, hB⟩
  have B7 := Lib.hid (B6.out.trans (hB.mono B6.out.size))
  clear hB
  go_wp2
  go_ret
  exact ⟨rfl, B7.out⟩

theorem lawPlaceOf_walk (l : List (ByteArray × Int)) (n : ByteArray) (w : World) (A : Option Addr) (c b o : Nat) (hn : n.size ≤ maxLen) (hl : OsIn w A b o l) :
    Calls Try.prog 5 #[.slice A l.length c, .string n] w fun e w' => e = .returned (.bool true) ∧ Below w.heap.size w w' := by
  by_cases h1 : n.size ≤ 1048576
  · by_cases hs : l.length + osSize l ≤ 1048576
    · by_cases hk : askOf l n = 0
      · exact lawPlaceOf_val l n w A c b o h1 hl hs _ _ _ (by unfold placeV; rw [if_pos hk])
      · exact lawPlaceOf_val l n w A c b o h1 hl hs _ _ _ (by unfold placeV; rw [if_neg hk])
    · have HE := Lib.hid (left_gt hs)
      have HL := Lib.hid hl
      clear hl hs
      go_enter Try.func5, Try.ntmps5
      go_wp2_with (go_at_call 15; refine (szOpenS_any l 1048576 _ A c b o (by omega) HL.out).mono ?_; rintro e w1 ⟨rfl, hB⟩; rw [HE.out]; have B1 := Lib.hid hB; clear hB)
      go_ret
      exact ⟨rfl, B1.out⟩
  · unfold maxLen at hn
    clear hl
    go_enter Try.func5, Try.ntmps5
    go_wp2
    go_ret
    exact ⟨rfl, Below.refl _ _⟩

theorem lawCloseAt_val (l : List (ByteArray × Int)) (n : ByteArray) (w : World) (A : Option Addr) (c b o : Nat) (hn : n.size ≤ 1048576) (hl : OsIn w A b o l) (hs : l.length + osSize l ≤ 1048576) (x y : Int) (hv : closeV l n = .tuple #[.int .i64 x, .int .i64 y]) :
    Calls Try.prog 6 #[.slice A l.length c, .string n] w fun e w' => e = .returned (.bool true) ∧ Below w.heap.size w w' := by
  have HE := Lib.hid (left_le hs)
  have hnn : 0 ≤ ((1048576 : Nat) : Int) - ((l.length + osSize l : Nat) : Int) := by omega
  have hll : l.length ≤ 1048576 := by omega
  have hnm : n.size ≤ maxLen := by unfold maxLen; omega
  have HL := Lib.hid hl
  have HV := Lib.hid hv
  clear hv
  have HNM := Lib.hid hnm
  clear hl hs hnm
  go_enter Try.func6, Try.ntmps6
  go_wp2_with (go_at_call 15; refine (szOpenS_any l 1048576 _ A c b o (by omega) HL.out).mono ?_; rintro e w1 ⟨rfl, hB⟩; rw [HE.out]; have B1 := Lib.hid hB; clear hB)
  refine (toOpenS_any l _ A c b o hll (HL.out.next B1.out)).mono ?_
  rintro e w2 ⟨rfl, hB, hI⟩
  have B2 := Lib.hid (B1.out.trans (hB.mono B1.out.size))
  have I2 := Lib.hid hI
  clear hB hI
  go_wp2_with fail
  refine (specCloseAt_any l n _ _ l.length w1.heap.size 0 HNM.out (hd_new _ _) I2.out).mono ?_
  rintro e w3 ⟨rfl, hB⟩
  rw [HV.out]
  have B3 := Lib.hid (B2.out.trans (hB.mono B2.out.size))
  clear hB I2
  go_wp2_with fail
  refine (toOpenS_any l _ A c b o hll (HL.out.next B3.out)).mono ?_
  rintro e w4 ⟨rfl, hB, hI⟩
  have B4 := Lib.hid (B3.out.trans (hB.mono B3.out.size))
  have I4 := Lib.hid hI
  clear hB hI
  go_wp2_with fail
  refine (implCloseAt_any l n _ _ l.length w3.heap.size 0 HNM.out (hd_new _ _) I4.out).mono ?_
  rintro e w5 ⟨rfl, hB⟩
  rw [HV.out]
  have B5 := Lib.hid (B4.out.trans (hB.mono B4.out.size))
  have I5 := Lib.hid (I4.out.next hB)
  clear hB I4
  go_wp2_with fail
  refine (toOpenS_any l _ A c b o hll (HL.out.next B5.out)).mono ?_
  rintro e w6 ⟨rfl, hB, hI⟩
  have B6 := Lib.hid (B5.out.trans (hB.mono B5.out.size))
  have I6 := Lib.hid hI
  have J6 := Lib.hid (I5.out.next hB)
  clear hB hI I5
  go_wp2_with fail
  refine (eqOpenS_same l _ _ _ _ _ _ _ _ _ J6.out I6.out).mono ?_
  rintro e w7 ⟨rfl, hB⟩
  have B7 := Lib.hid (B6.out.trans (hB.mono B6.out.size))
  clear hB
  go_wp2
  go_ret
  exact ⟨rfl, B7.out⟩

theorem lawCloseAt_walk (l : List (ByteArray × Int)) (n : ByteArray) (w : World) (A : Option Addr) (c b o : Nat) (hn : n.size ≤ maxLen) (hl : OsIn w A b o l) :
    Calls Try.prog 6 #[.slice A l.length c, .string n] w fun e w' => e = .returned (.bool true) ∧ Below w.heap.size w w' := by
  by_cases h1 : n.size ≤ 1048576
  · by_cases hs : l.length + osSize l ≤ 1048576
    · by_cases hk : askOf l n = 0
      · by_cases hc : cutOf (nameIs n) l = 0
        · exact lawCloseAt_val l n w A c b o h1 hl hs _ _ (by unfold closeV; rw [if_pos hk, if_pos hc])
        · exact lawCloseAt_val l n w A c b o h1 hl hs _ _ (by unfold closeV; rw [if_pos hk, if_neg hc])
      · exact lawCloseAt_val l n w A c b o h1 hl hs _ _ (by unfold closeV; rw [if_neg hk])
    · have HE := Lib.hid (left_gt hs)
      have HL := Lib.hid hl
      clear hl hs
      go_enter Try.func6, Try.ntmps6
      go_wp2_with (go_at_call 15; refine (szOpenS_any l 1048576 _ A c b o (by omega) HL.out).mono ?_; rintro e w1 ⟨rfl, hB⟩; rw [HE.out]; have B1 := Lib.hid hB; clear hB)
      go_ret
      exact ⟨rfl, B1.out⟩
  · unfold maxLen at hn
    clear hl
    go_enter Try.func6, Try.ntmps6
    go_wp2
    go_ret
    exact ⟨rfl, Below.refl _ _⟩

section
variable {H : Type} {enc : TypeId × Value → H} {P : Program} {w : World} {base : Nat} {spare : Nat → Bool} {held : Bool}
/-- opens that came in -/
theorem open_os {t e : TypeId} {f0 f1 : Field} {fuel : Nat} {cs : List Value} {x : DataW H × List MemPlace} (ht : P.underlying t = some (.slice e)) (he : P.underlying e = some (.struct #[f0, f1]))
    (ce : P.cellsOf e = 2) (o0 : f0.offset = 0) (o1 : f1.offset = 1) (c0 : P.cellsOf f0.type = 1) (c1 : P.cellsOf f1.type = 1) (s0 : P.underlying f0.type = some .string) (s1 : P.underlying f1.type = some (.int .i64))
    (h : DataW.trod enc P w base spare held fuel t cs = some x) :
    ∃ (al : List (ByteArray × Int)) (A : Option Addr) (c b o : Nat), cs = [.slice A al.length c] ∧ OsIn w A b o al := by
  rcases open_slice_pairs ht he ce o0 o1 c0 c1 h with ⟨rfl, _⟩ | ⟨a, len, cap, m, n, V0, V1, D0, D1, P0, P1, rfl, _, hl, hm, hmm, _, hx⟩
  · exact ⟨[], none, 0, 0, 0, rfl, ⟨Nat.zero_le _, fun h => absurd h (Nat.lt_irrefl _)⟩, trivial⟩
  have hlm : len ≤ m := by rw [hmm]; split <;> omega
  obtain ⟨b, o, spot⟩ := a
  by_cases hz : len = 0
  · subst hz
    exact ⟨[], _, cap, b, o, rfl, ⟨Nat.zero_le _, fun h => absurd h (Nat.lt_irrefl _)⟩, trivial⟩
  obtain ⟨hc, _⟩ := hx 0 (by omega)
  have hspot : spot = none := by simpa [Addr.add] using World.cell?_spot hc
  subst hspot
  have hlt : b < w.heap.size := by
    have := World.block_lt_of_cell? w _ hc
    rwa [addr_block] at this
  have key : ∀ j, j ≤ len → ∃ al : List (ByteArray × Int), al.length = j ∧ OsAt w b (o + (len - j) * 2) al := by
    intro j
    induction j with
    | zero => intro _; exact ⟨[], rfl, trivial⟩
    | succ j ih =>
      intro hj
      obtain ⟨al, hlen, has⟩ := ih (by omega)
      obtain ⟨h0, h1, h2, h3⟩ := hx (len - (j + 1)) (by omega)
      obtain ⟨s, e0, _, z0⟩ := DataW.trod_string s0 h2
      obtain ⟨s', e1, _, z1⟩ := DataW.trod_int s1 h3
      simp at e0 e1
      rw [e0, add_plain] at h0
      rw [e1, add_plain] at h1
      refine ⟨(s, s') :: al, by simp [hlen], h0, by rw [Nat.add_assoc]; exact h1, z0, ?_⟩
      rw [show o + (len - (j + 1)) * 2 + 2 = o + (len - j) * 2 by omega]
      exact has
  obtain ⟨al, hlen, has⟩ := key len (Nat.le_refl _)
  refine ⟨al, _, cap, b, o, by rw [hlen], ⟨by omega, fun _ => ⟨rfl, Nat.zero_le _, hlt⟩⟩, ?_⟩
  simpa using has
end
end Go.Proofs.Ytgkpoimapmdogaa
