import Derived.Test.YtgkpoimapmdogaaOp6
namespace Go.Proofs.Ytgkpoimapmdogaa
open Go.ChangeShapes Go.WideShapes Go.ChangeAt Go.RowKit Go.Deep

def placeK (l : List (ByteArray × Int)) (n : ByteArray) : Int := leftOf l n
def spcK (l : List (ByteArray × Int)) (n : ByteArray) : Int := spcOf (l.take (leftOf l n)) n
noncomputable def placeV (l : List (ByteArray × Int)) (n : ByteArray) : Value := if askOf l n = 0 then .tuple #[.int .i64 (placeK l n), .int .i64 (spcK l n), .int .i64 0] else .tuple #[.int .i64 0, .int .i64 0, .int .i64 (askOf l n)]
noncomputable def implV (l : List (ByteArray × Int)) (n : ByteArray) : Value := if askOf l n = 0 then .tuple #[.int .i64 ((l.length : Int) - placeK l n), .int .i64 0] else .tuple #[.int .i64 0, .int .i64 (askOf l n)]
noncomputable def closeV (l : List (ByteArray × Int)) (n : ByteArray) : Value := if askOf l n = 0 then (if cutOf (nameIs n) l = 0 then .tuple #[.int .i64 0, .int .i64 5] else .tuple #[.int .i64 ((cutOf (nameIs n) l : Nat) - 1), .int .i64 0]) else .tuple #[.int .i64 0, .int .i64 (askOf l n)]
theorem askOf_long {l : List (ByteArray × Int)} {n : ByteArray} (h : 4096 < l.length ∨ 65536 < n.size) : askOf l n = 2 := if_pos h
/-- a stack's own head -/
def Hd (A : Option Addr) (b o n c : Nat) : Prop := n ≤ c ∧ (A = some ⟨b, o, none⟩ ∨ (A = none ∧ c = 0))

theorem l05Space_any (l : List (ByteArray × Int)) (n : ByteArray) (w : World) (A : Option Addr) (c b o : Nat) (hl : OsIn w A b o l) :
    Calls Try.prog 27 #[.slice A l.length c, .string n] w fun e w' => e = .returned (.int .i64 (spcOf l n)) ∧ w = w' := by
  have hml := hl.1.1
  unfold maxLen at hml
  by_cases h : spaceI n = 0
  · have HS := Lib.hid h
    by_cases h0 : 0 < l.length
    · obtain ⟨rfl, hlt, t1, t2, t3⟩ := hl.get (l.length - 1) (by omega)
      have HE : Hid (spcOf l n = l[l.length - 1].2) := Lib.hid (by rw [spcOf, if_pos h, topOf_last h0])
      have h0' : ((l.length : Int) == 0) = false := beq_eq_false_iff_ne.2 (by omega)
      have hq : ((l.length : Int) - 1).toNat = l.length - 1 := by omega
      clear h
      go_enter Try.func27, Try.ntmps27
      go_wp2_with (go_at_call 35; refine (l01Space_any _ _).mono ?_; rintro e w' ⟨rfl, rfl⟩; rw [HS.out])
      go_ret
      exact ⟨ret_int HE.out.symm, rfl⟩
    · obtain rfl : l = [] := List.length_eq_zero_iff.1 (by omega)
      have HE : Hid (spcOf [] n = 0) := Lib.hid (by rw [spcOf, if_pos h]; rfl)
      clear h
      go_enter Try.func27, Try.ntmps27
      go_wp2_with (go_at_call 35; refine (l01Space_any _ _).mono ?_; rintro e w' ⟨rfl, rfl⟩; rw [HS.out])
      go_ret
      exact ⟨ret_int HE.out.symm, rfl⟩
  · have HE : Hid (spcOf l n = spaceI n) := Lib.hid (if_neg h)
    have h' : (spaceI n == 0) = false := beq_eq_false_iff_ne.2 h
    have h'' : (spaceI n != 0) = true := by simpa using h
    go_enter Try.func27, Try.ntmps27
    go_wp2_with (go_at_call 35; refine (l01Space_any _ _).mono ?_; rintro e w' ⟨rfl, rfl⟩)
    go_ret
    exact ⟨ret_int HE.out.symm, rfl⟩
theorem l05Space_k (l : List (ByteArray × Int)) (k : Nat) (n : ByteArray) (w : World) (A : Option Addr) (c b o : Nat) (hk : k ≤ l.length) (hl : OsIn w A b o (l.take k)) :
    Calls Try.prog 27 #[.slice A k c, .string n] w fun e w' => e = .returned (.int .i64 (spcOf (l.take k) n)) ∧ w = w' := by
  have := l05Space_any (l.take k) n w A c b o hl
  rwa [List.length_take, Nat.min_eq_left hk] at this
theorem spaceWithin_k (l : List (ByteArray × Int)) (k : Nat) (n : ByteArray) (w : World) (A : Option Addr) (c b o : Nat) (hk : k ≤ l.length) (hl : OsIn w A b o (l.take k)) :
    Calls Try.prog 26 #[.slice A k c, .string n] w fun e w' => e = .returned (.int .i64 (spcOf (l.take k) n)) ∧ Below w.heap.size w w' := by
  have := spaceWithin_any (l.take k) n w A c b o hl
  rwa [List.length_take, Nat.min_eq_left hk] at this

theorem slice_opens (A : Option Addr) (b o n c k : Nat) (hk : k ≤ c) (hA : A = some ⟨b, o, none⟩ ∨ (A = none ∧ c = 0)) (w : World) : (Instr.slice 23 (.slice A n c) none (some (.int .i64 (k : Int))) none).run Try.prog w = .ok (.slice A k c) w := by
  have he : Try.prog.elem 23 = 31 := by kernel_rfl
  have ht : Try.prog.underlying 23 = some (.slice (Try.prog.elem 23)) := by kernel_rfl
  have hs : (sizeOf 31).run Try.prog w = .ok 2 w := by kernel_rfl
  rw [run_slice_h w _ _ _ _ ht .i64 (k : Int) (by omega) (by omega), he, hs]
  show Result.ok (sliced A 0 (k : Int).toNat c 2) w = _
  unfold sliced
  rw [Int.toNat_natCast]
  by_cases e : c = 0
  · subst e
    obtain rfl : k = 0 := by omega
    rfl
  · rw [if_neg e]
    rcases hA with rfl | ⟨rfl, h⟩
    · simp [Addr.add]
    · omega

theorem l05Close_any (l : List (ByteArray × Int)) (n : ByteArray) (w : World) (A : Option Addr) (c b o : Nat) (hl : OsIn w A b o l) :
    Calls Try.prog 30 #[.slice A l.length c, .string n] w fun e w' => e = .returned (.int .i64 ((cutOf (nameIs n) l : Nat) - 1)) ∧ Below w.heap.size w w' := by
  have hml := hl.1.1
  unfold maxLen at hml
  have HL := Lib.hid hl
  clear hl
  go_enter Try.func30, Try.ntmps30
  go_wp2
  go_loopw [5] (fun i wr => ∃ z : Int, i = .int .i64 z ∧ -1 ≤ z ∧ z < l.length ∧ Hid (cutTo (nameIs n) l (z + 1).toNat = cutOf (nameIs n) l ∧ Below w.heap.size w wr)) (fun i wr => (intOf i + 1).toNat)
  case atStart => exact ⟨_, rfl, by omega, by omega, Lib.hid ⟨by rw [show ((l.length : Int) - 1 + 1).toNat = l.length by omega]; rfl, Below.refl _ _⟩⟩
  case round =>
    obtain ⟨z, rfl, hz1, hz2, HH⟩ := hrel
    by_cases hz : 0 ≤ z
    · obtain ⟨k, rfl⟩ := Int.eq_ofNat_of_zero_le hz
      have hkl : k < l.length := by omega
      obtain ⟨rfl, hlt, t1, t2, t3⟩ := (HL.out.next HH.out.2).get k hkl
      by_cases ho : nameIs n l[k] = true
      · have HC : Hid (k + 1 = cutOf (nameIs n) l) := Lib.hid (by have := HH.out.1; rw [show ((k : Int) + 1).toNat = k + 1 by omega, cutTo_yes hkl ho] at this; exact this)
        have ho' : (l[k].1.toList == n.toList) = true := ho
        clear ho
        go_wp2
        go_ret
        exact ⟨ret_int (by rw [← HC.out]; try omega), HH.out.2⟩
      · have ho' : nameIs n l[k] = false := by simpa using ho
        have HC : Hid (cutTo (nameIs n) l k = cutOf (nameIs n) l) := Lib.hid (by have := HH.out.1; rw [show ((k : Int) + 1).toNat = k + 1 by omega, cutTo_no hkl ho'] at this; exact this)
        have ho2 : (l[k].1.toList == n.toList) = false := ho'
        clear ho ho'
        go_wp2
        go_roundw
        case rel => exact ⟨(k : Int) - 1, rfl, by omega, by omega, Lib.hid ⟨by rw [show ((k : Int) - 1 + 1).toNat = k by omega]; exact HC.out, HH.out.2⟩⟩
        case measure => (simp [intOf] <;> omega)
    · obtain rfl : z = -1 := by omega
      go_wp2
      go_ret
      exact ⟨ret_int (by rw [← HH.out.1]; rfl), HH.out.2⟩

set_option maxHeartbeats 1000000 in
theorem specPlaceOf_any (l : List (ByteArray × Int)) (n : ByteArray) (w : World) (A : Option Addr) (c b o : Nat) (hn : n.size ≤ maxLen) (hd : Hd A b o l.length c) (hl : OsIn w A b o l) :
    Calls Try.prog 12 #[.slice A l.length c, .string n] w fun e w' => e = .returned (placeV l n) ∧ Below w.heap.size w w' := by
  have hml := hl.1.1
  have hn' := hn
  unfold maxLen at hml hn'
  have HL := Lib.hid hl
  have HD := Lib.hid hd
  have hle := leftOf_le l n
  obtain ⟨k0, hk0⟩ : ∃ k0, askOf l n = k0 := ⟨_, rfl⟩
  have HK0 := Lib.hid hk0
  clear hl hd hk0
  by_cases hlong : 4096 < l.length ∨ 65536 < n.size
  · have HA : Hid (askOf l n = 2) := Lib.hid (askOf_long hlong)
    by_cases c1 : 4096 < l.length
    · clear hlong
      go_enter Try.func12, Try.ntmps12
      go_wp2
      go_ret3
      exact ⟨by unfold placeV; rw [HA.out]; rfl, Below.refl _ _⟩
    · have c2 : 65536 < n.size := by omega
      clear hlong
      go_enter Try.func12, Try.ntmps12
      go_wp2
      go_ret3
      exact ⟨by unfold placeV; rw [HA.out]; rfl, Below.refl _ _⟩
  have c1 : l.length ≤ 4096 := by omega
  have c2 : n.size ≤ 65536 := by omega
  clear hlong
  by_cases hk : k0 = 0
  · subst hk
    have hz : (l.length : Int) - ((l.length : Int) - (leftOf l n : Nat)) = ((leftOf l n : Nat) : Int) := by omega
    have hsl := slice_opens A b o l.length c (leftOf l n) (by have := HD.out.1; omega) HD.out.2
    go_enter Try.func12, Try.ntmps12
    go_wp2_with (first | (go_at_call 22; refine (l05Ask_any l n _ A c b o hn HL.out).mono ?_; rintro e w1 ⟨rfl, hB⟩; rw [HK0.out]; have B1 := Lib.hid hB; clear hB) | (go_at_call 23; refine (l05Implied_any l n _ A c b o (HL.out.next B1.out)).mono ?_; rintro e w2 ⟨rfl, hB⟩; have B2 := Lib.hid (B1.out.trans (hB.mono B1.out.size)); clear hB) | (go_at_call 27; refine (l05Space_k l (leftOf l n) n _ A c b o hle ((HL.out.next B2.out).take _)).mono ?_; rintro e w3 ⟨rfl, rfl⟩))
    go_ret3
    exact ⟨by unfold placeV; rw [HK0.out, if_pos rfl]; rfl, B2.out⟩
  · have hk1 : (k0 != 0) = true := by simpa using hk
    have hk2 : (k0 == 0) = false := beq_eq_false_iff_ne.2 hk
    go_enter Try.func12, Try.ntmps12
    go_wp2_with (go_at_call 22; refine (l05Ask_any l n _ A c b o hn HL.out).mono ?_; rintro e w1 ⟨rfl, hB⟩; rw [HK0.out]; have B1 := Lib.hid hB; clear hB)
    go_ret3
    exact ⟨by unfold placeV; rw [HK0.out, if_neg hk]; rfl, B1.out⟩

set_option maxHeartbeats 1000000 in
theorem implPlaceOf_any (l : List (ByteArray × Int)) (n : ByteArray) (w : World) (A : Option Addr) (c b o : Nat) (hn : n.size ≤ maxLen) (hd : Hd A b o l.length c) (hl : OsIn w A b o l) :
    Calls Try.prog 11 #[.slice A l.length c, .string n] w fun e w' => e = .returned (placeV l n) ∧ Below w.heap.size w w' := by
  have hml := hl.1.1
  have hn' := hn
  unfold maxLen at hml hn'
  have HL := Lib.hid hl
  have HD := Lib.hid hd
  have hle := leftOf_le l n
  obtain ⟨k0, hk0⟩ : ∃ k0, askOf l n = k0 := ⟨_, rfl⟩
  have HK0 := Lib.hid hk0
  clear hl hd hk0
  by_cases hk : k0 = 0
  · subst hk
    go_enter Try.func11, Try.ntmps11
    go_wp2_with (first | (go_at_call 24; refine (openFault_any l n _ A c b o hn HL.out).mono ?_; rintro e w1 ⟨rfl, hB⟩; rw [HK0.out]; have B1 := Lib.hid hB; clear hB) | (go_at_call 25; refine (leftOpen_any l n _ A c b o hn HD.out.1 HD.out.2 (HL.out.next B1.out)).mono ?_; rintro e w2 ⟨v, rfl, ⟨A2, c2, rfl, hc2, hl2⟩, hB⟩; have B2 := Lib.hid (B1.out.trans (hB.mono B1.out.size)); have L2 := Lib.hid hl2; clear hB hl2) | (go_at_call 26; refine (spaceWithin_k l (leftOf l n) n _ A2 c2 b o hle L2.out).mono ?_; rintro e w3 ⟨rfl, hB⟩; have B3 := Lib.hid (B2.out.trans (hB.mono B2.out.size)); clear hB))
    go_ret3
    exact ⟨by unfold placeV; rw [HK0.out, if_pos rfl]; rfl, B3.out⟩
  · have hk1 : (k0 != 0) = true := by simpa using hk
    have hk2 : (k0 == 0) = false := beq_eq_false_iff_ne.2 hk
    go_enter Try.func11, Try.ntmps11
    go_wp2_with (go_at_call 24; refine (openFault_any l n _ A c b o hn HL.out).mono ?_; rintro e w1 ⟨rfl, hB⟩; rw [HK0.out]; have B1 := Lib.hid hB; clear hB)
    go_ret3
    exact ⟨by unfold placeV; rw [HK0.out, if_neg hk]; rfl, B1.out⟩

set_option maxHeartbeats 1000000 in
theorem specImplied_any (l : List (ByteArray × Int)) (n : ByteArray) (w : World) (A : Option Addr) (c b o : Nat) (hn : n.size ≤ maxLen) (hd : Hd A b o l.length c) (hl : OsIn w A b o l) :
    Calls Try.prog 10 #[.slice A l.length c, .string n] w fun e w' => e = .returned (implV l n) ∧ Below w.heap.size w w' := by
  have hml := hl.1.1
  have hn' := hn
  unfold maxLen at hml hn'
  have HL := Lib.hid hl
  have HD := Lib.hid hd
  have hle := leftOf_le l n
  obtain ⟨k0, hk0⟩ : ∃ k0, askOf l n = k0 := ⟨_, rfl⟩
  have HK0 := Lib.hid hk0
  clear hl hd hk0
  by_cases hlong : 4096 < l.length ∨ 65536 < n.size
  · have HA : Hid (askOf l n = 2) := Lib.hid (askOf_long hlong)
    by_cases c1 : 4096 < l.length
    · clear hlong
      go_enter Try.func10, Try.ntmps10
      go_wp2
      go_ret2
      exact ⟨by unfold implV; rw [HA.out]; rfl, Below.refl _ _⟩
    · have c2 : 65536 < n.size := by omega
      clear hlong
      go_enter Try.func10, Try.ntmps10
      go_wp2
      go_ret2
      exact ⟨by unfold implV; rw [HA.out]; rfl, Below.refl _ _⟩
  have c1 : l.length ≤ 4096 := by omega
  have c2 : n.size ≤ 65536 := by omega
  clear hlong
  by_cases hk : k0 = 0
  · subst hk
    go_enter Try.func10, Try.ntmps10
    go_wp2_with (first | (go_at_call 22; refine (l05Ask_any l n _ A c b o hn HL.out).mono ?_; rintro e w1 ⟨rfl, hB⟩; rw [HK0.out]; have B1 := Lib.hid hB; clear hB) | (go_at_call 23; refine (l05Implied_any l n _ A c b o (HL.out.next B1.out)).mono ?_; rintro e w2 ⟨rfl, hB⟩; have B2 := Lib.hid (B1.out.trans (hB.mono B1.out.size)); clear hB))
    go_ret2
    exact ⟨by unfold implV; rw [HK0.out, if_pos rfl]; rfl, B2.out⟩
  · have hk1 : (k0 != 0) = true := by simpa using hk
    have hk2 : (k0 == 0) = false := beq_eq_false_iff_ne.2 hk
    go_enter Try.func10, Try.ntmps10
    go_wp2_with (go_at_call 22; refine (l05Ask_any l n _ A c b o hn HL.out).mono ?_; rintro e w1 ⟨rfl, hB⟩; rw [HK0.out]; have B1 := Lib.hid hB; clear hB)
    go_ret2
    exact ⟨by unfold implV; rw [HK0.out, if_neg hk]; rfl, B1.out⟩

set_option maxHeartbeats 1000000 in
theorem implImplied_any (l : List (ByteArray × Int)) (n : ByteArray) (w : World) (A : Option Addr) (c b o : Nat) (hn : n.size ≤ maxLen) (hd : Hd A b o l.length c) (hl : OsIn w A b o l) :
    Calls Try.prog 9 #[.slice A l.length c, .string n] w fun e w' => e = .returned (implV l n) ∧ Below w.heap.size w w' := by
  have hml := hl.1.1
  have hn' := hn
  unfold maxLen at hml hn'
  have HL := Lib.hid hl
  have HD := Lib.hid hd
  have hle := leftOf_le l n
  obtain ⟨k0, hk0⟩ : ∃ k0, askOf l n = k0 := ⟨_, rfl⟩
  have HK0 := Lib.hid hk0
  clear hl hd hk0
  by_cases hk : k0 = 0
  · subst hk
    have HV : Hid (placeV l n = .tuple #[.int .i64 ((leftOf l n : Nat) : Int), .int .i64 (spcK l n), .int .i64 0]) := Lib.hid (by unfold placeV; rw [HK0.out, if_pos rfl]; rfl)
    go_enter Try.func9, Try.ntmps9
    go_wp2_with (go_at_call 11; refine (implPlaceOf_any l n _ A c b o hn HD.out HL.out).mono ?_; rintro e w1 ⟨rfl, hB⟩; rw [HV.out]; have B1 := Lib.hid hB; clear hB)
    go_ret2
    exact ⟨by unfold implV; rw [HK0.out, if_pos rfl]; rfl, B1.out⟩
  · have hk1 : (k0 != 0) = true := by simpa using hk
    have hk2 : (k0 == 0) = false := beq_eq_false_iff_ne.2 hk
    have HV : Hid (placeV l n = .tuple #[.int .i64 0, .int .i64 0, .int .i64 k0]) := Lib.hid (by unfold placeV; rw [HK0.out, if_neg hk])
    go_enter Try.func9, Try.ntmps9
    go_wp2_with (go_at_call 11; refine (implPlaceOf_any l n _ A c b o hn HD.out HL.out).mono ?_; rintro e w1 ⟨rfl, hB⟩; rw [HV.out]; have B1 := Lib.hid hB; clear hB)
    go_ret2
    exact ⟨by unfold implV; rw [HK0.out, if_neg hk]; rfl, B1.out⟩

set_option maxHeartbeats 1000000 in
theorem specCloseAt_any (l : List (ByteArray × Int)) (n : ByteArray) (w : World) (A : Option Addr) (c b o : Nat) (hn : n.size ≤ maxLen) (hd : Hd A b o l.length c) (hl : OsIn w A b o l) :
    Calls Try.prog 14 #[.slice A l.length c, .string n] w fun e w' => e = .returned (closeV l n) ∧ Below w.heap.size w w' := by
  have hml := hl.1.1
  have hn' := hn
  unfold maxLen at hml hn'
  have HL := Lib.hid hl
  have HD := Lib.hid hd
  have hle := leftOf_le l n
  obtain ⟨k0, hk0⟩ : ∃ k0, askOf l n = k0 := ⟨_, rfl⟩
  have HK0 := Lib.hid hk0
  clear hl hd hk0
  by_cases hlong : 4096 < l.length ∨ 65536 < n.size
  · have HA : Hid (askOf l n = 2) := Lib.hid (askOf_long hlong)
    by_cases c1 : 4096 < l.length
    · clear hlong
      go_enter Try.func14, Try.ntmps14
      go_wp2
      go_ret2
      exact ⟨by unfold closeV; rw [HA.out]; rfl, Below.refl _ _⟩
    · have c2 : 65536 < n.size := by omega
      clear hlong
      go_enter Try.func14, Try.ntmps14
      go_wp2
      go_ret2
      exact ⟨by unfold closeV; rw [HA.out]; rfl, Below.refl _ _⟩
  have c1 : l.length ≤ 4096 := by omega
  have c2 : n.size ≤ 65536 := by omega
  clear hlong
  by_cases hk : k0 = 0
  · subst hk
    by_cases hc : cutOf (nameIs n) l = 0
    · have HC : Hid (((cutOf (nameIs n) l : Nat) : Int) - 1 = -1) := Lib.hid (by omega)
      have HC2 := Lib.hid hc
      clear hc
      go_enter Try.func14, Try.ntmps14
      go_wp2_with (first | (go_at_call 22; refine (l05Ask_any l n _ A c b o hn HL.out).mono ?_; rintro e w1 ⟨rfl, hB⟩; rw [HK0.out]; have B1 := Lib.hid hB; clear hB) | (go_at_call 30; refine (l05Close_any l n _ A c b o (HL.out.next B1.out)).mono ?_; rintro e w2 ⟨rfl, hB⟩; rw [HC.out]; have B2 := Lib.hid (B1.out.trans (hB.mono B1.out.size)); clear hB))
      go_ret2
      exact ⟨by unfold closeV; rw [HK0.out, if_pos rfl, if_pos HC2.out]; rfl, B2.out⟩
    · have h0 : 1 ≤ ((cutOf (nameIs n) l : Nat) : Int) := by omega
      have h0' : 0 ≤ ((cutOf (nameIs n) l : Nat) : Int) - 1 := by omega
      have HC2 := Lib.hid hc
      clear hc
      go_enter Try.func14, Try.ntmps14
      go_wp2_with (first | (go_at_call 22; refine (l05Ask_any l n _ A c b o hn HL.out).mono ?_; rintro e w1 ⟨rfl, hB⟩; rw [HK0.out]; have B1 := Lib.hid hB; clear hB) | (go_at_call 30; refine (l05Close_any l n _ A c b o (HL.out.next B1.out)).mono ?_; rintro e w2 ⟨rfl, hB⟩; have B2 := Lib.hid (B1.out.trans (hB.mono B1.out.size)); clear hB))
      go_ret2
      exact ⟨by unfold closeV; rw [HK0.out, if_pos rfl, if_neg HC2.out]; rfl, B2.out⟩
  · have hk1 : (k0 != 0) = true := by simpa using hk
    have hk2 : (k0 == 0) = false := beq_eq_false_iff_ne.2 hk
    go_enter Try.func14, Try.ntmps14
    go_wp2_with (go_at_call 22; refine (l05Ask_any l n _ A c b o hn HL.out).mono ?_; rintro e w1 ⟨rfl, hB⟩; rw [HK0.out]; have B1 := Lib.hid hB; clear hB)
    go_ret2
    exact ⟨by unfold closeV; rw [HK0.out, if_neg hk]; rfl, B1.out⟩

set_option maxHeartbeats 1000000 in
theorem implCloseAt_any (l : List (ByteArray × Int)) (n : ByteArray) (w : World) (A : Option Addr) (c b o : Nat) (hn : n.size ≤ maxLen) (hd : Hd A b o l.length c) (hl : OsIn w A b o l) :
    Calls Try.prog 13 #[.slice A l.length c, .string n] w fun e w' => e = .returned (closeV l n) ∧ Below w.heap.size w w' := by
  have hml := hl.1.1
  have hn' := hn
  unfold maxLen at hml hn'
  have HL := Lib.hid hl
  have HD := Lib.hid hd
  have hle := leftOf_le l n
  obtain ⟨k0, hk0⟩ : ∃ k0, askOf l n = k0 := ⟨_, rfl⟩
  have HK0 := Lib.hid hk0
  clear hl hd hk0
  have hbox : (w.alloc (.cells #[.string n] 9)).cell? ⟨w.heap.size, 0, none⟩ = some (.string n) := new_cell rfl
  have HA := Lib.hid ((Below.refl w.heap.size w).alloc (Nat.le_refl _) (.cells #[.string n] 9))
  have hsz : w.heap.size < (w.alloc (.cells #[.string n] 9)).heap.size := by simp
  have HBX := Lib.hid (And.intro hsz hbox)
  clear hbox hsz
  by_cases hk : k0 = 0
  · subst hk
    by_cases hc : cutOf (nameIs n) l = 0
    · have HC : Hid (((cutOf (nameIs n) l : Nat) : Int) - 1 = -1) := Lib.hid (by omega)
      have HC2 := Lib.hid hc
      clear hc
      go_enter Try.func13, Try.ntmps13
      go_wp2_with (first | (go_at_call 24; refine (openFault_any l n _ A c b o hn (HL.out.next HA.out)).mono ?_; rintro e w1 ⟨rfl, hB⟩; rw [HK0.out]; have B1 := Lib.hid (HA.out.trans (hB.mono HA.out.size)); have X1 := Lib.hid (And.intro (Nat.lt_of_lt_of_le HBX.out.1 hB.size) ((hB.cell (p := ⟨w.heap.size, 0, none⟩) HBX.out.1).trans HBX.out.2)); have X2 := X1.out.2; clear hB) | (go_at_call 28; refine (placeName_any l n w.heap.size _ A c b o (HL.out.next B1.out) X1.out.1 X1.out.2).mono ?_; rintro e w2 ⟨rfl, hB⟩; rw [HC.out]; have B2 := Lib.hid (B1.out.trans (hB.mono B1.out.size)); clear hB))
      go_ret2
      exact ⟨by unfold closeV; rw [HK0.out, if_pos rfl, if_pos HC2.out]; rfl, B2.out⟩
    · have h0 : 1 ≤ ((cutOf (nameIs n) l : Nat) : Int) := by omega
      have h0' : 0 ≤ ((cutOf (nameIs n) l : Nat) : Int) - 1 := by omega
      have HC2 := Lib.hid hc
      clear hc
      go_enter Try.func13, Try.ntmps13
      go_wp2_with (first | (go_at_call 24; refine (openFault_any l n _ A c b o hn (HL.out.next HA.out)).mono ?_; rintro e w1 ⟨rfl, hB⟩; rw [HK0.out]; have B1 := Lib.hid (HA.out.trans (hB.mono HA.out.size)); have X1 := Lib.hid (And.intro (Nat.lt_of_lt_of_le HBX.out.1 hB.size) ((hB.cell (p := ⟨w.heap.size, 0, none⟩) HBX.out.1).trans HBX.out.2)); have X2 := X1.out.2; clear hB) | (go_at_call 28; refine (placeName_any l n w.heap.size _ A c b o (HL.out.next B1.out) X1.out.1 X1.out.2).mono ?_; rintro e w2 ⟨rfl, hB⟩;  have B2 := Lib.hid (B1.out.trans (hB.mono B1.out.size)); clear hB))
      go_ret2
      exact ⟨by unfold closeV; rw [HK0.out, if_pos rfl, if_neg HC2.out]; rfl, B2.out⟩
  · have hk1 : (k0 != 0) = true := by simpa using hk
    have hk2 : (k0 == 0) = false := beq_eq_false_iff_ne.2 hk
    go_enter Try.func13, Try.ntmps13
    go_wp2_with (go_at_call 24; refine (openFault_any l n _ A c b o hn (HL.out.next HA.out)).mono ?_; rintro e w1 ⟨rfl, hB⟩; rw [HK0.out]; have B1 := Lib.hid (HA.out.trans (hB.mono HA.out.size)); have X1 := Lib.hid (And.intro (Nat.lt_of_lt_of_le HBX.out.1 hB.size) ((hB.cell (p := ⟨w.heap.size, 0, none⟩) HBX.out.1).trans HBX.out.2)); have X2 := X1.out.2; clear hB)
    go_ret2
    exact ⟨by unfold closeV; rw [HK0.out, if_neg hk]; rfl, B1.out⟩
end Go.Proofs.Ytgkpoimapmdogaa
