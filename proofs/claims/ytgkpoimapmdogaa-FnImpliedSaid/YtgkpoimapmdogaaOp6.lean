import Derived.Test.YtgkpoimapmdogaaOp5
import Derived.Deep.CutBlock
import Derived.Deep.LoopGhost
namespace Go.Proofs.Ytgkpoimapmdogaa
open Go.ChangeShapes Go.WideShapes Go.ChangeAt Go.RowKit Go.Deep

theorem isTop_at {l : List (ByteArray × Int)} {k : Nat} (s : List UInt8) (h0 : 0 < k) (hk : k ≤ l.length) : isTop l k s = (l[k - 1].1.toList == s && l[k - 1].2 == 0) := by
  unfold isTop; rw [topOf_take h0 hk]
theorem isTop_zero {l : List (ByteArray × Int)} {s : List UInt8} (hs : s ≠ []) : isTop l 0 s = false := by
  cases h : isTop l 0 s with
  | false => rfl
  | true => exact absurd (isTop_pos hs h) (Nat.lt_irrefl _)
theorem leftOf_out {l : List (ByteArray × Int)} {n : ByteArray} (h : left1 l n = 0 ∨ ∃ (h0 : 0 < left1 l n) , (l[left1 l n - 1]'(by have := left1_le l n; omega)).2 ≠ 0) : leftOf l n = left1 l n := by
  have hle := left1_le l n
  have key : ∀ s : List UInt8, s ≠ [] → isTop l (left1 l n) s = false := fun s hs => by
    rcases h with h | ⟨h0, h⟩
    · rw [h]; exact isTop_zero hs
    · rw [isTop_at s h0 hle]; simp [h]
  have h2 : left2 l n = left1 l n := by unfold left2; rw [key _ (by decide)]; rfl
  unfold leftOf
  rw [h2, key _ (by decide)]; rfl

def endsS : List (List UInt8) := [[112], [100, 105, 118], [117, 108], [116, 97, 98, 108, 101], [104, 49]]

set_option maxHeartbeats 2000000 in
set_option maxRecDepth 100000 in
theorem l05Implied_any (l : List (ByteArray × Int)) (n : ByteArray) (w : World) (A : Option Addr) (c b o : Nat) (hl : OsIn w A b o l) :
    Calls Try.prog 23 #[.slice A l.length c, .string n] w fun e w' => e = .returned (.int .i64 ((l.length : Int) - (leftOf l n : Nat))) ∧ Below w.heap.size w w' := by
  have hml := hl.1.1
  unfold maxLen at hml
  have HL := Lib.hid hl
  obtain ⟨bo, hbo⟩ : ∃ bo, inL outL n = bo := ⟨_, rfl⟩
  have HBO := Lib.hid hbo
  clear hl hbo
  go_enter Try.func23, Try.ntmps23
  go_upto_block 0 with fail
  go_cut [6] (fun s6 wx => s6 = .int .i64 ((left1 l n : Nat) : Int) ∧ Below w.heap.size w wx)
  case first =>
    cases bo
    case false =>
      have HK : Hid (left1 l n = l.length) := Lib.hid (if_neg (by rw [HBO.out]; decide))
      go_wp2_with fail
      go_loopw [6] (fun s6 wr => s6 = .int .i64 (l.length : Int) ∧ wr = w) (fun s6 wr => 0)
      case atStart => exact ⟨rfl, rfl⟩
      case round =>
        obtain ⟨rfl, rfl⟩ := hrel
        by_cases h0 : 0 < l.length
        · obtain ⟨rfl, hlt, t1, t2, t3⟩ := HL.out.get (l.length - 1) (by omega)
          have hq : ((l.length : Int) - 1).toNat = l.length - 1 := by omega
          generalize l[l.length - 1].2 = z at t2
          by_cases hz : z = 0
          · subst hz
            go_wp2_with (go_at_call 40; refine (l01Out_any n _).mono ?_; rintro e w2 ⟨rfl, hB⟩; rw [HBO.out]; have B2 := Lib.hid hB; clear hB)
            go_meet
            exact ⟨by rw [HK.out], Below.refl _ _⟩
          · have hz1 : (z != 0) = true := by simpa using hz
            go_wp2_with (go_at_call 40; refine (l01Out_any n _).mono ?_; rintro e w2 ⟨rfl, hB⟩; rw [HBO.out]; have B2 := Lib.hid hB; clear hB)
            go_meet
            exact ⟨by rw [HK.out], B2.out⟩
        · go_wp2
          go_meet
          exact ⟨by rw [HK.out], Below.refl _ _⟩
    case true =>
      have HK : Hid (left1 l n = cutOf htmlB l) := Lib.hid (if_pos HBO.out)
      go_wp2_with fail
      go_loopw [6] (fun s6 wr => ∃ k : Nat, s6 = .int .i64 (k : Int) ∧ k ≤ l.length ∧ Hid (cutTo htmlB l k = cutOf htmlB l ∧ Below w.heap.size w wr)) (fun s6 wr => (intOf s6).toNat)
      case atStart => exact ⟨l.length, rfl, Nat.le_refl _, Lib.hid ⟨rfl, Below.refl _ _⟩⟩
      case round =>
        obtain ⟨k, rfl, hk, HH⟩ := hrel
        by_cases h0 : 0 < k
        · obtain ⟨rfl, hlt, t1, t2, t3⟩ := (HL.out.next HH.out.2).get (k - 1) (by omega)
          have hq : ((k : Int) - 1).toNat = k - 1 := by omega
          have HT : Hid (l[k - 1].2 = 0 → k = cutOf htmlB l) := Lib.hid fun h => by
            have h2 := cutTo_yes (p := htmlB) (l := l) (k := k - 1) (by omega) (by simp [htmlB, h])
            rw [show k - 1 + 1 = k by omega] at h2
            exact h2.symm.trans HH.out.1
          have HF : Hid (l[k - 1].2 ≠ 0 → cutTo htmlB l (k - 1) = cutOf htmlB l) := Lib.hid fun h => by
            have h2 := cutTo_no (p := htmlB) (l := l) (k := k - 1) (by omega) (by simpa [htmlB] using h)
            rw [show k - 1 + 1 = k by omega] at h2
            exact h2.symm.trans HH.out.1
          generalize l[k - 1].2 = z at t2 HT HF
          by_cases hz : z = 0
          · subst hz
            have HT' := Lib.hid (HT.out rfl)
            go_wp2_with (go_at_call 40; refine (l01Out_any n _).mono ?_; rintro e w2 ⟨rfl, hB⟩; rw [HBO.out]; have B2 := Lib.hid hB; clear hB)
            go_meet
            exact ⟨by rw [HK.out, ← HT'.out], HH.out.2⟩
          · have hz1 : (z != 0) = true := by simpa using hz
            have HF' := Lib.hid (HF.out hz)
            go_wp2_with (go_at_call 40; refine (l01Out_any n _).mono ?_; rintro e w2 ⟨rfl, hB⟩; rw [HBO.out]; have B2 := Lib.hid hB; clear hB)
            go_roundw
            case rel => exact ⟨k - 1, by rw [show (((k - 1 : Nat) : Nat) : Int) = (k : Int) - 1 by omega], by omega, Lib.hid ⟨HF'.out, HH.out.2.trans (B2.out.mono HH.out.2.size)⟩⟩
            case measure => (simp [intOf] <;> omega)
        · obtain rfl : k = 0 := by omega
          go_wp2
          go_meet
          exact ⟨by rw [HK.out, ← HH.out.1]; rfl, HH.out.2⟩
  case rest =>
    obtain ⟨rfl, hB⟩ := hcut
    have HB1 := Lib.hid hB
    have hkl := left1_le l n
    clear hB
    by_cases h0 : 0 < left1 l n
    · obtain ⟨rfl, hlt, t1, t2, t3⟩ := (HL.out.next HB1.out).get (left1 l n - 1) (by omega)
      have hq : ((left1 l n : Int) - 1).toNat = left1 l n - 1 := by omega
      obtain ⟨z, hz0⟩ : ∃ z, l[left1 l n - 1].2 = z := ⟨_, rfl⟩
      obtain ⟨nm, hnm⟩ : ∃ nm, l[left1 l n - 1].1 = nm := ⟨_, rfl⟩
      by_cases hz : z = 0
      · subst hz
        obtain ⟨bp, hbp⟩ : ∃ bp : Bool, (nm.toList == [112]) = bp := ⟨_, rfl⟩
        obtain ⟨be, hbe⟩ : ∃ be : Bool, inL endsL n = be := ⟨_, rfl⟩
        have HK : Hid (left2 l n = if (bp && be) = true then left1 l n - 1 else left1 l n) := Lib.hid (by unfold left2; rw [isTop_at _ h0 hkl, hz0, hnm, hbp, hbe]; simp)
        have HBP := Lib.hid hbp
        have HBE := Lib.hid hbe
        rw [hz0] at t2
        rw [hnm] at t1
        clear hz0 hnm hbp hbe t3
        go_upto_region 7 with fail
        go_cut [56] (fun s wx => s = .bool (bp && be) ∧ Below w.heap.size w wx)
        case first =>
          cases bp
          case false =>
            have HBp := HBP.out
            go_wp2
            go_meet
            exact ⟨rfl, HB1.out⟩
          case true =>
            have HBp := HBP.out
            go_wp2_with (go_at_call 41; refine (l01Has_any endsL _ 0 _ _ (by decide) (fun k h => cells_of endsL _ _ k h)).mono ?_; rintro e w' ⟨rfl, rfl⟩; rw [HBE.out])
            go_meet
            exact ⟨rfl, HB1.out.alloc HB1.out.size _⟩
        case rest =>
          obtain ⟨rfl, hB⟩ := hcut
          have HB2 := Lib.hid hB
          obtain ⟨bb, hbb⟩ : ∃ bb, (bp && be) = bb := ⟨_, rfl⟩
          have HK2 : Hid (left2 l n = if bb = true then left1 l n - 1 else left1 l n) := Lib.hid (by rw [← hbb]; exact HK.out)
          rw [hbb]
          clear hbb hB HK HBP HBE t1 t2 hq HB1
          go_upto_if 56 with fail
          go_cut [6] (fun s wx => s = .int .i64 ((left2 l n : Nat) : Int) ∧ Below w.heap.size w wx)
          case first =>
            cases bb
            case true =>
              have HK3 : Hid (((left2 l n : Nat) : Int) = (left1 l n : Int) - 1) := Lib.hid (by rw [HK2.out, if_pos rfl]; omega)
              go_wp2
              go_meet
              exact ⟨by rw [HK3.out], HB2.out⟩
            case false =>
              have HK3 : Hid (left2 l n = left1 l n) := Lib.hid (by rw [HK2.out, if_neg (by decide)])
              go_wp2
              go_meet
              exact ⟨by rw [HK3.out], HB2.out⟩
          case rest =>
            obtain ⟨rfl, hB⟩ := hcut
            clear HB2 HK2
            have HB1 := Lib.hid hB
            have hkl2 := left2_le l n
            clear hB
            obtain ⟨be, hbe⟩ : ∃ be : Bool, (n.toList == [108, 105]) = be := ⟨_, rfl⟩
            have HBE := Lib.hid hbe
            clear hbe
            go_upto_region 9 with fail
            go_cut [82] (fun s wx => s = .bool (isTop l (left2 l n) [108, 105] && be) ∧ wx = wc)
            case first =>
              have HBe := HBE.out
              by_cases h0 : 0 < left2 l n
              · obtain ⟨hAA, hlt, t1, t2, t3⟩ := (HL.out.next HB1.out).get (left2 l n - 1) (by omega)
                have hq : ((left2 l n : Int) - 1).toNat = left2 l n - 1 := by omega
                obtain ⟨z, hz0⟩ : ∃ z, l[left2 l n - 1].2 = z := ⟨_, rfl⟩
                obtain ⟨nm, hnm⟩ : ∃ nm, l[left2 l n - 1].1 = nm := ⟨_, rfl⟩
                obtain ⟨bp, hbp⟩ : ∃ bp : Bool, (nm.toList == [108, 105]) = bp := ⟨_, rfl⟩
                have HI : Hid (isTop l (left2 l n) [108, 105] = (bp && z == 0)) := Lib.hid (by rw [isTop_at _ h0 hkl2, hz0, hnm, hbp])
                rw [hz0] at t2
                rw [hnm] at t1
                clear hz0 hnm t3 hAA
                have hzb : ∃ bz : Bool, (z == 0) = bz := ⟨_, rfl⟩
                obtain ⟨bz, hbz⟩ := hzb
                have HI2 : Hid (isTop l (left2 l n) [108, 105] = (bp && bz)) := Lib.hid (by rw [HI.out, hbz])
                cases bz <;> cases bp <;> cases be
                all_goals (
                  go_wp2
                  go_meet
                  exact ⟨by rw [HI2.out]; rfl, rfl⟩)
              · have HI2 : Hid (isTop l (left2 l n) [108, 105] = false) := Lib.hid (by rw [show left2 l n = 0 by omega]; exact isTop_zero (by decide))
                go_wp2
                go_meet
                exact ⟨by rw [HI2.out]; rfl, rfl⟩
            case rest =>
              obtain ⟨rfl, rfl⟩ := hcut
              obtain ⟨bb, hbb⟩ : ∃ bb, (isTop l (left2 l n) [108, 105] && be) = bb := ⟨_, rfl⟩
              have HO : Hid (leftOf l n = if bb = true then left2 l n - 1 else left2 l n) := Lib.hid (by unfold leftOf; rw [HBE.out, hbb])
              have h0 : bb = true → 0 < left2 l n := fun h => isTop_pos (s := [108, 105]) (by decide) (by rw [h] at hbb; cases h3 : isTop l (left2 l n) [108, 105] <;> simp_all)
              rw [hbb]
              clear hbb
              cases bb
              case true =>
                have h1 := h0 rfl
                have HO2 : Hid (((leftOf l n : Nat) : Int) = (left2 l n : Int) - 1) := Lib.hid (by rw [HO.out, if_pos rfl]; omega)
                clear h0
                go_wp2
                go_ret
                exact ⟨ret_int (by rw [HO2.out]), HB1.out⟩
              case false =>
                have HO2 : Hid (leftOf l n = left2 l n) := Lib.hid (by rw [HO.out, if_neg (by decide)])
                clear h0
                go_wp2
                go_ret
                exact ⟨ret_int (by rw [HO2.out]), HB1.out⟩
      · have HO : Hid (leftOf l n = left1 l n) := Lib.hid (leftOf_out (Or.inr ⟨h0, by rw [hz0]; exact hz⟩))
        have hz1 : (z != 0) = true := by simpa using hz
        rw [hz0] at t2
        clear hz0 hnm
        go_wp2
        go_ret
        exact ⟨ret_int (by rw [HO.out]), HB1.out⟩
    · have HO : Hid (leftOf l n = 0) := Lib.hid (by rw [leftOf_out (Or.inl (by omega))]; omega)
      obtain ⟨K, hK⟩ : ∃ K, left1 l n = K := ⟨_, rfl⟩
      obtain rfl : K = 0 := by omega
      rw [hK]
      clear h0 hK hkl
      go_wp2
      go_ret
      exact ⟨ret_int (by rw [HO.out]; rfl), HB1.out⟩
end Go.Proofs.Ytgkpoimapmdogaa
