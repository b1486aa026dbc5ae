import Derived.Deep.CutBlock
import Derived.Deep.LoopGhost
import Derived.Test.YtpennadfomnenaaGreatDoorProg
import Derived.WalkKit
import Derived.ProofKit
import Derived.Lib.Hide
import Derived.Below
import Derived.StillTailTactics
import Derived.Deep.QuietTactic
import Derived.BigQuiet
import Derived.WalkSmall
import Derived.IntWalk
import Derived.Maps.AppendAt
import Derived.Deep.DeepCutAuto
import Derived.Test.YtpennadfomnenaaGreatDoorQ19
set_option linter.unusedVariables false
namespace Go.Proofs.YtpennadfomnenaaGreatDoor
open Go.ChangeShapes Go.WideShapes Go.ChangeAt Go.RowKit Go.Deep

theorem isTop_at {l : List (ByteArray × Int)} {k : Nat} (s : List UInt8) (h0 : 0 < k) (hk : k ≤ l.length) : isTop l k s = (l[k - 1].1.toList == s && l[k - 1].2 == 0) := by
  unfold isTop; rw [topOf_take h0 hk]
theorem isTop_zero {l : List (ByteArray × Int)} {s : List UInt8} (hs : s ≠ []) : isTop l 0 s = false := by
  cases h : isTop l 0 s with
  | false => rfl
  | true => exact absurd (isTop_pos hs h) (Nat.lt_irrefl _)
theorem leftOf_out {l : List (ByteArray × Int)} {n : ByteArray} (h : left1 l n = 0 ∨ ∃ (h0 : 0 < left1 l n) , (l[left1 l n - 1]'(by have := left1_le l n; omega)).2 ≠ 0) : leftOf l n = left1 l n := by
  have hle := left1_le l n
  have key : ∀ s : List UInt8, s ≠ [] → isTop l (left1 l n) s = false := fun s hs => by
    rcases h with h | ⟨h0, h⟩
    · rw [h]; exact isTop_zero hs
    · rw [isTop_at s h0 hle]; simp [h]
  have h2 : left2 l n = left1 l n := by unfold left2; rw [key _ (by decide)]; rfl
  unfold leftOf
  rw [h2, key _ (by decide)]; rfl
set_option maxHeartbeats 2000000 in
set_option maxRecDepth 100000 in
theorem l05Implied_any (l : List (ByteArray × Int)) (n : ByteArray) (w : World) (A : Option Addr) (c b o : Nat) (hl : OsIn w A b o l) :
    Calls Tryz.prog 195 #[.slice A l.length c, .string n] w fun e w' => e = .returned (.int .i64 ((l.length : Int) - (leftOf l n : Nat))) ∧ Below w.heap.size w w' := by
  have hml := hl.1.1
  unfold maxLen at hml
  have HL := Lib.hid hl
  obtain ⟨bo, hbo⟩ : ∃ bo, inL outL n = bo := ⟨_, rfl⟩
  have HBO := Lib.hid hbo
  clear hl hbo
  go_enter Tryz.func195, Tryz.ntmps195
  go_upto_block 0 with fail
  go_cut [6] (fun s6 wx => s6 = .int .i64 ((left1 l n : Nat) : Int) ∧ Below w.heap.size w wx)
  case first =>
    cases bo
    case false =>
      have HK : Hid (left1 l n = l.length) := Lib.hid (if_neg (by rw [HBO.out]; decide))
      go_wp2_with fail
      go_loopw [6] (fun s6 wr => s6 = .int .i64 (l.length : Int) ∧ wr = w) (fun s6 wr => 0)
      case atStart => exact ⟨rfl, rfl⟩
      case round =>
        obtain ⟨rfl, rfl⟩ := hrel
        by_cases h0 : 0 < l.length
        · obtain ⟨rfl, hlt, t1, t2, t3⟩ := HL.out.get (l.length - 1) (by omega)
          have hq : ((l.length : Int) - 1).toNat = l.length - 1 := by omega
          generalize l[l.length - 1].2 = z at t2
          by_cases hz : z = 0
          · subst hz
            go_wp2_with (go_at_call 233; refine (l01Out_any n _).mono ?_; rintro e w2 ⟨rfl, hB⟩; rw [HBO.out]; have B2 := Lib.hid hB; clear hB)
            go_meet
            exact ⟨by rw [HK.out], Below.refl _ _⟩
          · have hz1 : (z != 0) = true := by simpa using hz
            go_wp2_with (go_at_call 233; refine (l01Out_any n _).mono ?_; rintro e w2 ⟨rfl, hB⟩; rw [HBO.out]; have B2 := Lib.hid hB; clear hB)
            go_meet
            exact ⟨by rw [HK.out], B2.out⟩
        · go_wp2
          go_meet
          exact ⟨by rw [HK.out], Below.refl _ _⟩
    case true =>
      have HK : Hid (left1 l n = cutOf htmlB l) := Lib.hid (if_pos HBO.out)
      go_wp2_with fail
      go_loopw [6] (fun s6 wr => ∃ k : Nat, s6 = .int .i64 (k : Int) ∧ k ≤ l.length ∧ Hid (cutTo htmlB l k = cutOf htmlB l ∧ Below w.heap.size w wr)) (fun s6 wr => (intOf s6).toNat)
      case atStart => exact ⟨l.length, rfl, Nat.le_refl _, Lib.hid ⟨rfl, Below.refl _ _⟩⟩
      case round =>
        obtain ⟨k, rfl, hk, HH⟩ := hrel
        by_cases h0 : 0 < k
        · obtain ⟨rfl, hlt, t1, t2, t3⟩ := (HL.out.next HH.out.2).get (k - 1) (by omega)
          have hq : ((k : Int) - 1).toNat = k - 1 := by omega
          have HT : Hid (l[k - 1].2 = 0 → k = cutOf htmlB l) := Lib.hid fun h => by
            have h2 := cutTo_yes (p := htmlB) (l := l) (k := k - 1) (by omega) (by simp [htmlB, h])
            rw [show k - 1 + 1 = k by omega] at h2
            exact h2.symm.trans HH.out.1
          have HF : Hid (l[k - 1].2 ≠ 0 → cutTo htmlB l (k - 1) = cutOf htmlB l) := Lib.hid fun h => by
            have h2 := cutTo_no (p := htmlB) (l := l) (k := k - 1) (by omega) (by simpa [htmlB] using h)
            rw [show k - 1 + 1 = k by omega] at h2
            exact h2.symm.trans HH.out.1
          generalize l[k - 1].2 = z at t2 HT HF
          by_cases hz : z = 0
          · subst hz
            have HT' := Lib.hid (HT.out rfl)
            go_wp2_with (go_at_call 233; refine (l01Out_any n _).mono ?_; rintro e w2 ⟨rfl, hB⟩; rw [HBO.out]; have B2 := Lib.hid hB; clear hB)
            go_meet
            exact ⟨by rw [HK.out, ← HT'.out], HH.out.2⟩
          · have hz1 : (z != 0) = true := by simpa using hz
            have HF' := Lib.hid (HF.out hz)
            go_wp2_with (go_at_call 233; refine (l01Out_any n _).mono ?_; rintro e w2 ⟨rfl, hB⟩; rw [HBO.out]; have B2 := Lib.hid hB; clear hB)
            go_roundw
            case rel => exact ⟨k - 1, by rw [show (((k - 1 : Nat) : Nat) : Int) = (k : Int) - 1 by omega], by omega, Lib.hid ⟨HF'.out, HH.out.2.trans (B2.out.mono HH.out.2.size)⟩⟩
            case measure => (simp [intOf] <;> omega)
        · obtain rfl : k = 0 := by omega
          go_wp2
          go_meet
          exact ⟨by rw [HK.out, ← HH.out.1]; rfl, HH.out.2⟩
  case rest =>
    obtain ⟨rfl, hB⟩ := hcut
    have HB1 := Lib.hid hB
    have hkl := left1_le l n
    clear hB
    by_cases h0 : 0 < left1 l n
    · obtain ⟨rfl, hlt, t1, t2, t3⟩ := (HL.out.next HB1.out).get (left1 l n - 1) (by omega)
      have hq : ((left1 l n : Int) - 1).toNat = left1 l n - 1 := by omega
      obtain ⟨z, hz0⟩ : ∃ z, l[left1 l n - 1].2 = z := ⟨_, rfl⟩
      obtain ⟨nm, hnm⟩ : ∃ nm, l[left1 l n - 1].1 = nm := ⟨_, rfl⟩
      by_cases hz : z = 0
      · subst hz
        obtain ⟨bp, hbp⟩ : ∃ bp : Bool, (nm.toList == [112]) = bp := ⟨_, rfl⟩
        obtain ⟨be, hbe⟩ : ∃ be : Bool, inL endsL n = be := ⟨_, rfl⟩
        have HK : Hid (left2 l n = if (bp && be) = true then left1 l n - 1 else left1 l n) := Lib.hid (by unfold left2; rw [isTop_at _ h0 hkl, hz0, hnm, hbp, hbe]; simp)
        have HBP := Lib.hid hbp
        have HBE := Lib.hid hbe
        rw [hz0] at t2
        rw [hnm] at t1
        clear hz0 hnm hbp hbe t3
        go_upto_region 7 with fail
        go_cut [56] (fun s wx => s = .bool (bp && be) ∧ Below w.heap.size w wx)
        case first =>
          cases bp
          case false =>
            have HBp := HBP.out
            go_wp2
            go_meet
            exact ⟨rfl, HB1.out⟩
          case true =>
            have HBp := HBP.out
            go_wp2_with (go_at_call 132; refine (l01Has_any endsL _ 0 _ _ (by decide) (fun k h => cells_of endsL _ _ k h)).mono ?_; rintro e w' ⟨rfl, rfl⟩; rw [HBE.out])
            go_meet
            exact ⟨rfl, HB1.out.alloc HB1.out.size _⟩
        case rest =>
          obtain ⟨rfl, hB⟩ := hcut
          have HB2 := Lib.hid hB
          obtain ⟨bb, hbb⟩ : ∃ bb, (bp && be) = bb := ⟨_, rfl⟩
          have HK2 : Hid (left2 l n = if bb = true then left1 l n - 1 else left1 l n) := Lib.hid (by rw [← hbb]; exact HK.out)
          rw [hbb]
          clear hbb hB HK HBP HBE t1 t2 hq HB1
          go_upto_if 56 with fail
          go_cut [6] (fun s wx => s = .int .i64 ((left2 l n : Nat) : Int) ∧ Below w.heap.size w wx)
          case first =>
            cases bb
            case true =>
              have HK3 : Hid (((left2 l n : Nat) : Int) = (left1 l n : Int) - 1) := Lib.hid (by rw [HK2.out, if_pos rfl]; omega)
              go_wp2
              go_meet
              exact ⟨by rw [HK3.out], HB2.out⟩
            case false =>
              have HK3 : Hid (left2 l n = left1 l n) := Lib.hid (by rw [HK2.out, if_neg (by decide)])
              go_wp2
              go_meet
              exact ⟨by rw [HK3.out], HB2.out⟩
          case rest =>
            obtain ⟨rfl, hB⟩ := hcut
            clear HB2 HK2
            have HB1 := Lib.hid hB
            have hkl2 := left2_le l n
            clear hB
            obtain ⟨be, hbe⟩ : ∃ be : Bool, (n.toList == [108, 105]) = be := ⟨_, rfl⟩
            have HBE := Lib.hid hbe
            clear hbe
            go_upto_region 9 with fail
            go_cut [82] (fun s wx => s = .bool (isTop l (left2 l n) [108, 105] && be) ∧ wx = wc)
            case first =>
              have HBe := HBE.out
              by_cases h0 : 0 < left2 l n
              · obtain ⟨hAA, hlt, t1, t2, t3⟩ := (HL.out.next HB1.out).get (left2 l n - 1) (by omega)
                have hq : ((left2 l n : Int) - 1).toNat = left2 l n - 1 := by omega
                obtain ⟨z, hz0⟩ : ∃ z, l[left2 l n - 1].2 = z := ⟨_, rfl⟩
                obtain ⟨nm, hnm⟩ : ∃ nm, l[left2 l n - 1].1 = nm := ⟨_, rfl⟩
                obtain ⟨bp, hbp⟩ : ∃ bp : Bool, (nm.toList == [108, 105]) = bp := ⟨_, rfl⟩
                have HI : Hid (isTop l (left2 l n) [108, 105] = (bp && z == 0)) := Lib.hid (by rw [isTop_at _ h0 hkl2, hz0, hnm, hbp])
                rw [hz0] at t2
                rw [hnm] at t1
                clear hz0 hnm t3 hAA
                have hzb : ∃ bz : Bool, (z == 0) = bz := ⟨_, rfl⟩
                obtain ⟨bz, hbz⟩ := hzb
                have HI2 : Hid (isTop l (left2 l n) [108, 105] = (bp && bz)) := Lib.hid (by rw [HI.out, hbz])
                cases bz <;> cases bp <;> cases be
                all_goals (
                  go_wp2
                  go_meet
                  exact ⟨by rw [HI2.out]; rfl, rfl⟩)
              · have HI2 : Hid (isTop l (left2 l n) [108, 105] = false) := Lib.hid (by rw [show left2 l n = 0 by omega]; exact isTop_zero (by decide))
                go_wp2
                go_meet
                exact ⟨by rw [HI2.out]; rfl, rfl⟩
            case rest =>
              obtain ⟨rfl, rfl⟩ := hcut
              obtain ⟨bb, hbb⟩ : ∃ bb, (isTop l (left2 l n) [108, 105] && be) = bb := ⟨_, rfl⟩
              have HO : Hid (leftOf l n = if bb = true then left2 l n - 1 else left2 l n) := Lib.hid (by unfold leftOf; rw [HBE.out, hbb])
              have h0 : bb = true → 0 < left2 l n := fun h => isTop_pos (s := [108, 105]) (by decide) (by rw [h] at hbb; cases h3 : isTop l (left2 l n) [108, 105] <;> simp_all)
              rw [hbb]
              clear hbb
              cases bb
              case true =>
                have h1 := h0 rfl
                have HO2 : Hid (((leftOf l n : Nat) : Int) = (left2 l n : Int) - 1) := Lib.hid (by rw [HO.out, if_pos rfl]; omega)
                clear h0
                go_wp2
                go_ret
                exact ⟨ret_int (by rw [HO2.out]), HB1.out⟩
              case false =>
                have HO2 : Hid (leftOf l n = left2 l n) := Lib.hid (by rw [HO.out, if_neg (by decide)])
                clear h0
                go_wp2
                go_ret
                exact ⟨ret_int (by rw [HO2.out]), HB1.out⟩
      · have HO : Hid (leftOf l n = left1 l n) := Lib.hid (leftOf_out (Or.inr ⟨h0, by rw [hz0]; exact hz⟩))
        have hz1 : (z != 0) = true := by simpa using hz
        rw [hz0] at t2
        clear hz0 hnm
        go_wp2
        go_ret
        exact ⟨ret_int (by rw [HO.out]), HB1.out⟩
    · have HO : Hid (leftOf l n = 0) := Lib.hid (by rw [leftOf_out (Or.inl (by omega))]; omega)
      obtain ⟨K, hK⟩ : ∃ K, left1 l n = K := ⟨_, rfl⟩
      obtain rfl : K = 0 := by omega
      rw [hK]
      clear h0 hK hkl
      go_wp2
      go_ret
      exact ⟨ret_int (by rw [HO.out]; rfl), HB1.out⟩
end Go.Proofs.YtpennadfomnenaaGreatDoor
namespace Go.Proofs.YtpennadfomnenaaGreatDoor
open Go.ChangeShapes Go.WideShapes Go.ChangeAt Go.RowKit Go.Deep

theorem l05Space_any (l : List (ByteArray × Int)) (n : ByteArray) (w : World) (A : Option Addr) (c b o : Nat) (hl : OsIn w A b o l) :
    Calls Tryz.prog 196 #[.slice A l.length c, .string n] w fun e w' => e = .returned (.int .i64 (spcOf l n)) ∧ w = w' := by
  have hml := hl.1.1
  unfold maxLen at hml
  by_cases h : spaceI n = 0
  · have HS := Lib.hid h
    by_cases h0 : 0 < l.length
    · obtain ⟨rfl, hlt, t1, t2, t3⟩ := hl.get (l.length - 1) (by omega)
      have HE : Hid (spcOf l n = l[l.length - 1].2) := Lib.hid (by rw [spcOf, if_pos h, topOf_last h0])
      have h0' : ((l.length : Int) == 0) = false := beq_eq_false_iff_ne.2 (by omega)
      have hq : ((l.length : Int) - 1).toNat = l.length - 1 := by omega
      clear h
      go_enter Tryz.func196, Tryz.ntmps196
      go_wp2_with (go_at_call 206; refine (l01Space_any _ _).mono ?_; rintro e w' ⟨rfl, rfl⟩; rw [HS.out])
      go_ret
      exact ⟨ret_int HE.out.symm, rfl⟩
    · obtain rfl : l = [] := List.length_eq_zero_iff.1 (by omega)
      have HE : Hid (spcOf [] n = 0) := Lib.hid (by rw [spcOf, if_pos h]; rfl)
      clear h
      go_enter Tryz.func196, Tryz.ntmps196
      go_wp2_with (go_at_call 206; refine (l01Space_any _ _).mono ?_; rintro e w' ⟨rfl, rfl⟩; rw [HS.out])
      go_ret
      exact ⟨ret_int HE.out.symm, rfl⟩
  · have HE : Hid (spcOf l n = spaceI n) := Lib.hid (if_neg h)
    have h' : (spaceI n == 0) = false := beq_eq_false_iff_ne.2 h
    have h'' : (spaceI n != 0) = true := by simpa using h
    go_enter Tryz.func196, Tryz.ntmps196
    go_wp2_with (go_at_call 206; refine (l01Space_any _ _).mono ?_; rintro e w' ⟨rfl, rfl⟩)
    go_ret
    exact ⟨ret_int HE.out.symm, rfl⟩
theorem l05Close_any (l : List (ByteArray × Int)) (n : ByteArray) (w : World) (A : Option Addr) (c b o : Nat) (hl : OsIn w A b o l) :
    Calls Tryz.prog 142 #[.slice A l.length c, .string n] w fun e w' => e = .returned (.int .i64 ((cutOf (nameIs n) l : Nat) - 1)) ∧ Below w.heap.size w w' := by
  have hml := hl.1.1
  unfold maxLen at hml
  have HL := Lib.hid hl
  clear hl
  go_enter Tryz.func142, Tryz.ntmps142
  go_wp2
  go_loopw [5] (fun i wr => ∃ z : Int, i = .int .i64 z ∧ -1 ≤ z ∧ z < l.length ∧ Hid (cutTo (nameIs n) l (z + 1).toNat = cutOf (nameIs n) l ∧ Below w.heap.size w wr)) (fun i wr => (intOf i + 1).toNat)
  case atStart => exact ⟨_, rfl, by omega, by omega, Lib.hid ⟨by rw [show ((l.length : Int) - 1 + 1).toNat = l.length by omega]; rfl, Below.refl _ _⟩⟩
  case round =>
    obtain ⟨z, rfl, hz1, hz2, HH⟩ := hrel
    by_cases hz : 0 ≤ z
    · obtain ⟨k, rfl⟩ := Int.eq_ofNat_of_zero_le hz
      have hkl : k < l.length := by omega
      obtain ⟨rfl, hlt, t1, t2, t3⟩ := (HL.out.next HH.out.2).get k hkl
      by_cases ho : nameIs n l[k] = true
      · have HC : Hid (k + 1 = cutOf (nameIs n) l) := Lib.hid (by have := HH.out.1; rw [show ((k : Int) + 1).toNat = k + 1 by omega, cutTo_yes hkl ho] at this; exact this)
        have ho' : (l[k].1.toList == n.toList) = true := ho
        clear ho
        go_wp2
        go_ret
        exact ⟨ret_int (by rw [← HC.out]; try omega), HH.out.2⟩
      · have ho' : nameIs n l[k] = false := by simpa using ho
        have HC : Hid (cutTo (nameIs n) l k = cutOf (nameIs n) l) := Lib.hid (by have := HH.out.1; rw [show ((k : Int) + 1).toNat = k + 1 by omega, cutTo_no hkl ho'] at this; exact this)
        have ho2 : (l[k].1.toList == n.toList) = false := ho'
        clear ho ho'
        go_wp2
        go_roundw
        case rel => exact ⟨(k : Int) - 1, rfl, by omega, by omega, Lib.hid ⟨by rw [show ((k : Int) - 1 + 1).toNat = k by omega]; exact HC.out, HH.out.2⟩⟩
        case measure => (simp [intOf] <;> omega)
    · obtain rfl : z = -1 := by omega
      go_wp2
      go_ret
      exact ⟨ret_int (by rw [← HH.out.1]; rfl), HH.out.2⟩
end Go.Proofs.YtpennadfomnenaaGreatDoor
namespace Go.Proofs.YtpennadfomnenaaGreatDoor
open Go.ChangeShapes Go.WideShapes Go.ChangeAt Go.RowKit Go.Deep

def osVals : List (ByteArray × Int) → List Value
  | [] => []
  | x :: r => .string x.1 :: .int .i64 x.2 :: osVals r
theorem osVals_len : ∀ l : List (ByteArray × Int), (osVals l).length = l.length * 2
  | [] => rfl
  | _ :: r => by simp only [osVals, List.length_cons, osVals_len r]; omega
theorem infoOpen : (Tryz.prog.info? 196).map (fun i => (i.zero, i.size, i.bytes)) = some (some (.agg #[.string ⟨#[]⟩, .int .i64 0]), 2, 24) := by kernel_rfl
theorem info_ofO {t : TypeId} {z : Value} {s b : Nat} (h : (Tryz.prog.info? t).map (fun i => (i.zero, i.size, i.bytes)) = some (some z, s, b)) : ∃ i, Tryz.prog.info? t = some i ∧ i.zero = some z ∧ i.size = s ∧ i.bytes = b := by
  obtain ⟨i, hi, hzz⟩ := Option.map_eq_some_iff.1 h
  simp only [Prod.mk.injEq] at hzz
  exact ⟨i, hi, hzz⟩
/-- a row of opens of one's own, from base on -/
def ORow (w : World) (base : Nat) (v : Value) (l : List (ByteArray × Int)) : Prop := w.ownsRow base 196 2 v l.length (osVals l)
end Go.Proofs.YtpennadfomnenaaGreatDoor
