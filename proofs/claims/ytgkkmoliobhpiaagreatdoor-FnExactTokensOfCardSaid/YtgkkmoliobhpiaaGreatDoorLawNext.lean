import Derived.Test.YtgkkmoliobhpiaaGreatDoorRdD
import Derived.Test.YtgkkmoliobhpiaaGreatDoorTokA
namespace Go.Proofs.YtgkkmoliobhpiaaGreatDoor
open Go.ChangeShapes Go.WideShapes Go.ChangeAt Go.RowKit Go.Shelf Go.Deep

theorem scan_six {s : ByteArray} : ∀ (k i : Nat) (al : List (ByteArray × ByteArray)) (f : Bool), al.length ≤ 6 → (scan s k i al f).2.1.length ≤ 6 := by
  intro k
  induction k with
  | zero => intro i al f h; exact h
  | succ k ih =>
    intro i al f h
    rw [scan]
    split
    · exact h
    · split
      · exact ih _ _ _ h
      · exact ih _ _ _ (keepA_six h)
theorem openOf_six (s : ByteArray) (a : Nat) : (openOf s a).al.length ≤ 6 := by
  unfold openOf
  dsimp only
  split
  · exact Nat.zero_le _
  · split
    · exact scan_six _ _ _ _ (Nat.zero_le _)
    · exact Nat.zero_le _
theorem nextOf_six (s : ByteArray) (a : Nat) (raw : ByteArray) : (nextOf s a raw).al.length ≤ 6 := by
  unfold nextOf markTk
  repeat' split
  all_goals first | exact openOf_six _ _ | exact Nat.zero_le _ | (rw [closeTk_al]; exact Nat.zero_le _)
theorem nextTk_six (s : ByteArray) (a : Int) (raw : ByteArray) : (nextTk s a raw).al.length ≤ 6 := by
  unfold nextTk
  split
  · exact nextOf_six _ _ _
  · exact Nat.zero_le _

theorem markToken_1 (k a l : Int) (n t : ByteArray) (al : List (ByteArray × ByteArray)) (f : Bool) (w : World) (A : Option Addr) (c : Nat) (ba : List Nat) (lo hi : Nat) (h2 : 1 + 2 * al.length ≤ 1073741824) (hr : AR w A c al ba lo hi) :
    Calls Tryz.prog 14 #[.agg #[.int .i64 k, .int .i64 a, .int .i64 l, .string n, .string t, .slice A al.length c, .bool f], .int .i64 1] w fun e w' => e = .returned (.int .i64 ((1 + 2 * al.length : Nat) : Int)) ∧ AR w' A c (markAl al 1) ba lo hi ∧ OnlyAt w w' ba :=
  markToken_any k a l n t al f 1 w A c ba lo hi (Nat.le_refl _) h2 hr
theorem heldToken_1 (k a l : Int) (n t : ByteArray) (al : List (ByteArray × ByteArray)) (f : Bool) (w : World) (A : Option Addr) (c : Nat) (ba : List Nat) (lo hi : Nat) (h2 : 1 + 2 * al.length ≤ 1073741824) (hr : AR w A c (markAl al 1) ba lo hi) :
    Calls Tryz.prog 15 #[.agg #[.int .i64 k, .int .i64 a, .int .i64 l, .string n, .string t, .slice A al.length c, .bool f], .int .i64 1] w fun e w' => e = .returned (.int .i64 ((1 + 2 * al.length : Nat) : Int)) ∧ Below w.heap.size w w' :=
  heldToken_any k a l n t al f 1 w A c ba lo hi (Nat.le_refl _) h2 hr
theorem Lay.but {C : Nat → Prop} {w w' : World} {g : Nat} {cs : Array Value} (h : Lay w g cs) (hB : But C w w') (hg : g < w.heap.size) (hC : ¬ C g) : Lay w' g cs :=
  ⟨fun j => (hB.cell (p := ⟨g, j, none⟩) hg hC).trans (h.1 j), fun j => (hB.frozen (p := ⟨g, j, none⟩) hg hC).trans (h.2 j)⟩

set_option maxHeartbeats 2000000 in
set_option maxRecDepth 100000 in
theorem lawNextToken_walk (s raw : ByteArray) (a : Int) (w : World) (hE : Env2 w) :
    Calls Tryz.prog 4 #[.string s, .int .i64 a, .string raw] w fun e w' => e = .returned (.bool true) ∧ Below w.heap.size w w' := by
  have HB0 := Lib.hid (Below.refl w.heap.size w)
  by_cases h1 : s.size ≤ 1048576
  · by_cases h2 : raw.size ≤ 1048576
    · have HSp := Lib.hid (specNext_any s raw a h1 h2)
      have HIm := Lib.hid (fun w hE => implNext_any s raw a h1 h2 w hE)
      have h6 := nextTk_six s a raw
      have h5 := hE.1.2.2
      have HE := Lib.hid hE
      generalize nextTk s a raw = nt at HSp HIm h6
      generalize nextCode s a raw = nc at HSp HIm
      obtain ⟨k, ta, l, n, t, al, f⟩ := nt
      simp only at h6
      have hcc : Hid (1 + 2 * al.length ≤ 1073741824) := Lib.hid (by omega)
      have hnn : (0 : Int) ≤ ((1 + 2 * al.length : Nat) : Int) := by omega
      have hnn2 : ¬ ((1 + 2 * al.length : Nat) : Int) < 0 := by omega
      clear hE
      go_enter Tryz.func4, Tryz.ntmps4
      go_wp2_with fail
      refine (HSp.out _).mono ?_
      rintro e w1 ⟨⟨A0, c0, rfl, hO⟩, hB⟩
      unfold Tk.val
      dsimp only
      obtain ⟨ba0, hr⟩ := hO.ar
      have LN := Lay.new w1 #[.int .i64 k, .int .i64 (ta : Int), .int .i64 (l : Int), .string n, .string t, .slice A0 al.length c0, .bool f] 29
      have BN := (Below.refl w1.heap.size w1).alloc (Nat.le_refl _) (.cells #[.int .i64 k, .int .i64 (ta : Int), .int .i64 (l : Int), .string n, .string t, .slice A0 al.length c0, .bool f] 29)
      have R0 : Hid (AR _ A0 c0 al ba0 w.heap.size w1.heap.size) := Lib.hid (hr.next BN)
      have B1 := Lib.hid (hB.trans (BN.mono hB.size))
      have S1 : Hid (w.heap.size ≤ w1.heap.size) := Lib.hid hB.size
      have L0 := Lib.hid LN
      clear hO hr hB BN LN
      go_wp2_with fail
      generalize w1.alloc (.cells #[.int .i64 k, .int .i64 (ta : Int), .int .i64 (l : Int), .string n, .string t, .slice A0 al.length c0, .bool f] 29) = W1 at R0 B1 L0 ⊢
      generalize w1.heap.size = h0 at R0 L0 S1 ⊢
      refine (HIm.out _ (HE.out.below B1.out)).mono ?_
      rintro e w2 ⟨⟨A1, c1, rfl, hO⟩, hB⟩
      unfold Tk.val
      dsimp only
      obtain ⟨ba1, hr⟩ := hO.ar
      have LN := Lay.new w2 #[.int .i64 k, .int .i64 (ta : Int), .int .i64 (l : Int), .string n, .string t, .slice A1 al.length c1, .bool f] 29
      have BN := (Below.refl w2.heap.size w2).alloc (Nat.le_refl _) (.cells #[.int .i64 k, .int .i64 (ta : Int), .int .i64 (l : Int), .string n, .string t, .slice A1 al.length c1, .bool f] 29)
      have hB2 := hB.trans (BN.mono hB.size)
      have R1 : Hid (AR _ A1 c1 al ba1 W1.heap.size w2.heap.size) := Lib.hid (hr.next BN)
      have R0 := Lib.hid (R0.out.next hB2)
      have L0b := Lib.hid (L0.out.below hB2 (Lay.lt L0.out))
      have B2 := Lib.hid (B1.out.trans (hB2.mono B1.out.size))
      have S2 : Hid (h0 < W1.heap.size ∧ W1.heap.size ≤ w2.heap.size) := Lib.hid ⟨Lay.lt L0.out, hB.size⟩
      have L1 := Lib.hid LN
      clear hO hr hB hB2 BN LN L0
      have p0 := L0b.out.1
      have p1 := L1.out.1
      go_wp2_with fail
      generalize w2.alloc (.cells #[.int .i64 k, .int .i64 (ta : Int), .int .i64 (l : Int), .string n, .string t, .slice A1 al.length c1, .bool f] 29) = W2 at R1 R0 L0b B2 L1 p0 p1 ⊢
      generalize w2.heap.size = h1 at R1 L1 S2 p1 ⊢
      obtain ⟨b1, r1, x1⟩ := R1.out.at
      obtain ⟨b0, r0, x0⟩ := R0.out.at
      refine (eqToken_same k ta l n t al f W2 A1 A0 c1 c0 b1 0 b0 0 _ _ _ _ r1.2 x1 R1.out.2.2.2.2 r0.2 x0 R0.out.2.2.2.2).mono ?_
      rintro e w3 ⟨rfl, hB⟩
      have R1 := Lib.hid (R1.out.next hB)
      have R0 := Lib.hid (R0.out.next hB)
      have L1b := Lib.hid (L1.out.below hB (Lay.lt L1.out))
      have L0 := Lib.hid (L0b.out.below hB (Lay.lt L0b.out))
      have B3 := Lib.hid (B2.out.trans (hB.mono B2.out.size))
      clear hB p0 p1 L1 L0b r1 x1 r0 x0
      have p1 := L1b.out.1
      go_wp2_with fail
      refine (markToken_1 k ta l n t al f w3 A1 c1 ba1 W1.heap.size h1 hcc.out R1.out).mono ?_
      rintro e w4 ⟨rfl, hR, hO⟩
      have hin := R1.out.2.2.2.1
      have R0 := Lib.hid (R0.out.but hO fun k hk => Or.inr (by have := hin k hk; have := S2.out.1; omega))
      have R1 : Hid (AR w4 A1 c1 (markAl al 1) ba1 W1.heap.size h1) := Lib.hid hR
      have L1 := Lib.hid (L1b.out.but hO (Lay.lt L1b.out) fun hk => by have := hin _ hk; omega)
      have L0b := Lib.hid (L0.out.but hO (Lay.lt L0.out) fun hk => by have := hin _ hk; have := S2.out.1; omega)
      have B4 := Lib.hid (B3.out.trans (hO.below (B := w.heap.size) (fun k hk => by have := hin k hk; have := S1.out; have := S2.out.1; omega) B3.out.size))
      clear hR hO hin p1 L1b L0
      have p1 := L1.out.1
      go_wp2_with fail
      refine (heldToken_1 k ta l n t al f w4 A1 c1 ba1 W1.heap.size h1 hcc.out R1.out).mono ?_
      rintro e w5 ⟨rfl, hB⟩
      have R1 := Lib.hid (R1.out.next hB)
      have R0 := Lib.hid (R0.out.next hB)
      have L1b := Lib.hid (L1.out.below hB (Lay.lt L1.out))
      have L0 := Lib.hid (L0b.out.below hB (Lay.lt L0b.out))
      have B5 := Lib.hid (B4.out.trans (hB.mono B4.out.size))
      clear hB p1 L1 L0b
      go_wp2_with fail
      refine (HIm.out _ (HE.out.below B5.out)).mono ?_
      rintro e w6 ⟨⟨A2, c2, rfl, hO⟩, hB⟩
      unfold Tk.val
      dsimp only
      obtain ⟨ba2, hr⟩ := hO.ar
      have LN := Lay.new w6 #[.int .i64 k, .int .i64 (ta : Int), .int .i64 (l : Int), .string n, .string t, .slice A2 al.length c2, .bool f] 29
      have BN := (Below.refl w6.heap.size w6).alloc (Nat.le_refl _) (.cells #[.int .i64 k, .int .i64 (ta : Int), .int .i64 (l : Int), .string n, .string t, .slice A2 al.length c2, .bool f] 29)
      have hB2 := hB.trans (BN.mono hB.size)
      have R2 : Hid (AR _ A2 c2 al ba2 w5.heap.size w6.heap.size) := Lib.hid (hr.next BN)
      have R0 := Lib.hid (R0.out.next hB2)
      have R1 := Lib.hid (R1.out.next hB2)
      have L0b := Lib.hid (L0.out.below hB2 (Lay.lt L0.out))
      have L1 := Lib.hid (L1b.out.below hB2 (Lay.lt L1b.out))
      have B6 := Lib.hid (B5.out.trans (hB2.mono B5.out.size))
      have L2 := Lib.hid LN
      clear hO hr hB hB2 BN LN L0 L1b
      have p0 := L0b.out.1
      have p2 := L2.out.1
      go_wp2_with fail
      generalize w6.alloc (.cells #[.int .i64 k, .int .i64 (ta : Int), .int .i64 (l : Int), .string n, .string t, .slice A2 al.length c2, .bool f] 29) = W6 at R2 R1 R0 L0b L1 B6 L2 p0 p2 ⊢
      generalize w6.heap.size = h2 at R2 L2 p2 ⊢
      obtain ⟨b2, r2, x2⟩ := R2.out.at
      obtain ⟨b0, r0, x0⟩ := R0.out.at
      refine (eqToken_same k ta l n t al f W6 A2 A0 c2 c0 b2 0 b0 0 _ _ _ _ r2.2 x2 R2.out.2.2.2.2 r0.2 x0 R0.out.2.2.2.2).mono ?_
      rintro e w7 ⟨rfl, hB⟩
      have R1 := Lib.hid (R1.out.next hB)
      have L1b := Lib.hid (L1.out.below hB (Lay.lt L1.out))
      have B7 := Lib.hid (B6.out.trans (hB.mono B6.out.size))
      clear hB p0 p2 L1 L0b r2 x2 r0 x0
      have p1 := L1b.out.1
      go_wp2_with fail
      refine (heldToken_1 k ta l n t al f w7 A1 c1 ba1 W1.heap.size h1 hcc.out R1.out).mono ?_
      rintro e w8 ⟨rfl, hB⟩
      have B8 := Lib.hid (B7.out.trans (hB.mono B7.out.size))
      clear hB
      go_wp2_with fail
      go_ret
      exact ⟨rfl, B8.out⟩
    · go_enter Tryz.func4, Tryz.ntmps4
      go_wp2
      go_ret
      exact ⟨rfl, HB0.out⟩
  · go_enter Tryz.func4, Tryz.ntmps4
    go_wp2
    go_ret
    exact ⟨rfl, HB0.out⟩
end Go.Proofs.YtgkkmoliobhpiaaGreatDoor
