import Derived.Deep.DeepCutAuto
import Derived.Deep.CutBlock
import Derived.Test.YtpennadfomnenaaGreatDoorQ06
set_option linter.unusedVariables false
namespace Go.Proofs.YtpennadfomnenaaGreatDoor
open Go.ChangeShapes Go.WideShapes Go.ChangeAt Go.RowKit

def inAttr (c : Int) : Bool := inName c && c != 61
theorem inAttr_name {c : Int} (h : inName c = false) : inAttr c = false := by simp [inAttr, h]
/-- where an attribute's name ends, what is behind blanks, where its value is -/
def aEnd (s : ByteArray) (i : Nat) : Nat := i + 1 + runAt inAttr s (i + 1)
def aEq (s : ByteArray) (i : Nat) : Nat := aEnd s i + runAt blankB s (aEnd s i)
def aVal (s : ByteArray) (i : Nat) : Nat := aEq s i + 1 + runAt blankB s (aEq s i + 1)
def aStop (s : ByteArray) (i : Nat) : Nat := aVal s i + runAt inVal s (aVal s i)
theorem aEnd_le {s : ByteArray} {i : Nat} (h : i < s.size) : i < aEnd s i ∧ aEnd s i ≤ s.size := by
  have := runAt_le inAttr s (i + 1) (by omega)
  unfold aEnd; omega
theorem aEq_le {s : ByteArray} {i : Nat} (h : i < s.size) : aEnd s i ≤ aEq s i ∧ aEq s i ≤ s.size := by
  have h1 := aEnd_le h
  have := runAt_le blankB s (aEnd s i) h1.2
  unfold aEq; omega
theorem inVal_blank {c : Int} (h : blankB c = true) : inVal c = false := by simp [inVal, h]
/-- an attribute: its name, its value, where it ends -/
def unX (s : ByteArray) (a b : Nat) : ByteArray := ⟨(un (s.extract a b).data.toList).toArray⟩
noncomputable def attrOf (s : ByteArray) (i : Nat) : ByteArray × ByteArray × Nat :=
  if byteAt s (aEq s i) = 61 then
    (if byteAt s (aVal s i) = 34 ∨ byteAt s (aVal s i) = 39 then
      (if (findTo s (s.extract (aVal s i) (aVal s i + 1)) (aVal s i + 1)).2 = true then (lowX s i (aEnd s i), unX s (aVal s i + 1) (findTo s (s.extract (aVal s i) (aVal s i + 1)) (aVal s i + 1)).1, (findTo s (s.extract (aVal s i) (aVal s i + 1)) (aVal s i + 1)).1 + 1)
        else (lowX s i (aEnd s i), ⟨#[]⟩, s.size))
      else (lowX s i (aEnd s i), unX s (aVal s i) (aStop s i), aStop s i))
    else (lowX s i (aEnd s i), ⟨#[]⟩, aEnd s i)
theorem byteAt_out {s : ByteArray} : byteAt s s.size = -1 := dif_neg (Nat.lt_irrefl _)
set_option maxHeartbeats 4000000 in
set_option maxRecDepth 100000 in
theorem l04Attr_any (s : ByteArray) (i : Nat) (hs : s.size ≤ 65536) (hi : i < s.size) (hc : inName (s[i].toNat : Int) = true) (w : World) :
    Calls Tryz.prog 184 #[.string s, .int .i64 (i : Int)] w fun e w' => e = .returned (.tuple #[.string (attrOf s i).1, .string (attrOf s i).2.1, .int .i64 ((attrOf s i).2.2 : Nat)]) ∧ Below w.heap.size w w' := by
  have hE := aEnd_le hi
  have HEn := Lib.hid (show aEnd s i = i + 1 + runAt inAttr s (i + 1) from rfl)
  have HCI := Lib.hid hc
  clear hc
  have hE2 := aEq_le hi
  have HE2 := Lib.hid (show aEq s i = aEnd s i + runAt blankB s (aEnd s i) from rfl)
  have HE3 := Lib.hid (show aVal s i = aEq s i + 1 + runAt blankB s (aEq s i + 1) from rfl)
  have HE4 := Lib.hid (show aStop s i = aVal s i + runAt inVal s (aVal s i) from rfl)
  have HAT := Lib.hid (show attrOf s i = (if byteAt s (aEq s i) = 61 then
    (if byteAt s (aVal s i) = 34 ∨ byteAt s (aVal s i) = 39 then
      (if (findTo s (s.extract (aVal s i) (aVal s i + 1)) (aVal s i + 1)).2 = true then (lowX s i (aEnd s i), unX s (aVal s i + 1) (findTo s (s.extract (aVal s i) (aVal s i + 1)) (aVal s i + 1)).1, (findTo s (s.extract (aVal s i) (aVal s i + 1)) (aVal s i + 1)).1 + 1)
        else (lowX s i (aEnd s i), ⟨#[]⟩, s.size))
      else (lowX s i (aEnd s i), unX s (aVal s i) (aStop s i), aStop s i))
    else (lowX s i (aEnd s i), ⟨#[]⟩, aEnd s i)) from rfl)
  have HV3 : Hid (aEq s i < s.size → aEq s i < aVal s i ∧ aVal s i ≤ s.size) := Lib.hid fun h => by have := runAt_le blankB s (aEq s i + 1) (by omega); have := HE3.out; omega
  have HV4 : Hid (aVal s i ≤ s.size → aVal s i ≤ aStop s i ∧ aStop s i ≤ s.size) := Lib.hid fun h => by have := runAt_le inVal s (aVal s i) h; have := HE4.out; omega
  generalize attrOf s i = AT at HAT ⊢
  generalize aStop s i = e4 at HE4 HAT HV4
  generalize aVal s i = e3 at HE3 HE4 HAT HV3 HV4
  generalize aEq s i = e2 at hE2 HE2 HE3 HAT HV3
  generalize aEnd s i = e1 at hE HEn hE2 HE2 HAT
  go_enter Tryz.func184, Tryz.ntmps184
  go_upto_block 0 with fail
  go_cut [7] (fun s7 wx => s7 = .int .i64 (e1 : Int) ∧ wx = w)
  case first =>
    go_wp2_with fail
    go_loop [7] (fun x => ∃ j : Nat, i ≤ j ∧ j ≤ s.size ∧ x = .int .i64 (j : Int) ∧ Hid (j = i ∨ (i + 1 ≤ j ∧ j + runAt inAttr s j = e1))) (fun x => s.size - (intOf x).toNat)
    case atStart => exact ⟨i, Nat.le_refl _, by omega, rfl, Lib.hid (Or.inl rfl)⟩
    case round =>
      obtain ⟨j, hij, hj, rfl, HR⟩ := hrel
      by_cases hlt : j < s.size
      · have HB := Lib.hid (l04Blank_any (s[j].toNat : Int))
        by_cases hji : j = i
        · subst hji
          have hb : blankB (s[j].toNat : Int) = false := by have := HCI.out; simp [inName] at this; exact this.1.1
          have h1 : ((s[j].toNat : Int) != 47) = true := by have := HCI.out; simp [inName] at this; simpa using this.1.2
          have h2 : ((s[j].toNat : Int) != 62) = true := by have := HCI.out; simp [inName] at this; simpa using this.2
          rw [hb] at HB
          clear hb
          cases h3 : ((s[j].toNat : Int) != 61) with
          | true =>
            go_wp2_with (go_at_call 182; refine (HB.out _).mono ?_; rintro e w' ⟨rfl, rfl⟩)
            go_round
            case rel => exact ⟨j + 1, by omega, by omega, by go_num, Lib.hid (Or.inr ⟨Nat.le_refl _, HEn.out.symm⟩)⟩
            case measure => simp [intOf]; omega
          | false =>
            go_wp2_with (go_at_call 182; refine (HB.out _).mono ?_; rintro e w' ⟨rfl, rfl⟩)
            go_round
            case rel => exact ⟨j + 1, by omega, by omega, by go_num, Lib.hid (Or.inr ⟨Nat.le_refl _, HEn.out.symm⟩)⟩
            case measure => simp [intOf]; omega
        · have hjb : ((j : Int) == (i : Int)) = false := by simp; omega
          have HR2 : Hid (j + runAt inAttr s j = e1) := Lib.hid (by rcases HR.out with h | h; exact absurd h hji; exact h.2)
          clear HR
          cases hb : blankB (s[j].toNat : Int) with
          | true =>
            rw [hb] at HB
            have HJ : Hid (j = e1) := Lib.hid (by have := HR2.out; rw [runAt_no hlt (inAttr_name (inName_blank hb))] at this; omega)
            go_wp2_with (go_at_call 182; refine (HB.out _).mono ?_; rintro e w' ⟨rfl, rfl⟩)
            go_meet
            case rel => exact ⟨by rw [← HJ.out], rfl⟩
          | false =>
            rw [hb] at HB
            cases h1 : ((s[j].toNat : Int) != 47) with
            | false =>
              have HJ : Hid (j = e1) := Lib.hid (by have := HR2.out; rw [runAt_no hlt (inAttr_name (inName_stroke h1))] at this; omega)
              go_wp2_with (go_at_call 182; refine (HB.out _).mono ?_; rintro e w' ⟨rfl, rfl⟩)
              go_meet
              case rel => exact ⟨by rw [← HJ.out], rfl⟩
            | true =>
              cases h2 : ((s[j].toNat : Int) != 62) with
              | false =>
                have HJ : Hid (j = e1) := Lib.hid (by have := HR2.out; rw [runAt_no hlt (inAttr_name (inName_end h2))] at this; omega)
                go_wp2_with (go_at_call 182; refine (HB.out _).mono ?_; rintro e w' ⟨rfl, rfl⟩)
                go_meet
                case rel => exact ⟨by rw [← HJ.out], rfl⟩
              | true =>
                cases h3 : ((s[j].toNat : Int) != 61) with
                | false =>
                  have HJ : Hid (j = e1) := Lib.hid (by have := HR2.out; rw [runAt_no hlt (by simp [inAttr, h3])] at this; omega)
                  go_wp2_with (go_at_call 182; refine (HB.out _).mono ?_; rintro e w' ⟨rfl, rfl⟩)
                  go_meet
                  case rel => exact ⟨by rw [← HJ.out], rfl⟩
                | true =>
                  have HN : Hid (j + 1 + runAt inAttr s (j + 1) = e1) := Lib.hid (by have := HR2.out; rw [runAt_yes hlt (by simp [inAttr, inName_go hb h1 h2, h3])] at this; omega)
                  go_wp2_with (go_at_call 182; refine (HB.out _).mono ?_; rintro e w' ⟨rfl, rfl⟩)
                  go_round
                  case rel => exact ⟨j + 1, by omega, by omega, by go_num, Lib.hid (Or.inr ⟨by omega, HN.out⟩)⟩
                  case measure => simp [intOf]; omega
      · obtain rfl : j = s.size := by omega
        have HJ : Hid (s.size = e1) := Lib.hid (by rcases HR.out with h | h; omega; have := h.2; rw [runAt_end] at this; omega)
        go_wp2
        go_meet
        case rel => exact ⟨by rw [← HJ.out], rfl⟩
  case rest =>
    obtain ⟨rfl, rfl⟩ := hcut
    go_upto_block 2 with (go_at_call 181; refine (lower_is (s.extract i e1) (lowX s i e1) rfl (by rw [ByteArray.size_extract]; omega) _).mono ?_; rintro e w1 ⟨rfl, hB⟩; have B1 := Lib.hid hB; clear hB)
    go_cut [9] (fun s9 wx => s9 = .int .i64 (e2 : Int) ∧ wx = w1)
    case first =>
      go_wp2_with fail
      go_loop [9] (fun x => ∃ j : Nat, e1 ≤ j ∧ j ≤ s.size ∧ x = .int .i64 (j : Int) ∧ Hid (j + runAt blankB s j = e2)) (fun x => s.size - (intOf x).toNat)
      case atStart => exact ⟨e1, Nat.le_refl _, by omega, by go_num, Lib.hid HE2.out.symm⟩
      case round =>
        obtain ⟨j, hij, hj, rfl, HR⟩ := hrel
        by_cases hlt : j < s.size
        · have HB := Lib.hid (l04Blank_any (s[j].toNat : Int))
          cases hb : blankB (s[j].toNat : Int) with
          | true =>
            rw [hb] at HB
            have HN : Hid (j + 1 + runAt blankB s (j + 1) = e2) := Lib.hid (by have := HR.out; rw [runAt_yes hlt hb] at this; omega)
            go_wp2_with (go_at_call 182; refine (HB.out _).mono ?_; rintro e w' ⟨rfl, rfl⟩)
            go_round
            case rel => exact ⟨j + 1, by omega, by omega, by go_num, HN⟩
            case measure => simp [intOf]; omega
          | false =>
            rw [hb] at HB
            have HJ : Hid (j = e2) := Lib.hid (by have := HR.out; rw [runAt_no hlt hb] at this; omega)
            go_wp2_with (go_at_call 182; refine (HB.out _).mono ?_; rintro e w' ⟨rfl, rfl⟩)
            go_meet
            case rel => exact ⟨by rw [← HJ.out], rfl⟩
        · obtain rfl : j = s.size := by omega
          have HJ : Hid (s.size = e2) := Lib.hid (by have := HR.out; rw [runAt_end] at this; omega)
          go_wp2
          go_meet
          case rel => exact ⟨by rw [← HJ.out], rfl⟩
    case rest =>
      obtain ⟨rfl, rfl⟩ := hcut
      by_cases hlt2 : e2 < s.size
      · cases h61 : ((s[e2].toNat : Int) != 61) with
        | true =>
          have HA2 : Hid (AT = (lowX s i e1, ⟨#[]⟩, e1)) := Lib.hid (by rw [HAT.out, if_neg (by rw [byteAt_in hlt2]; simpa using h61)])
          go_wp2
          refine bodyPost_ret (v := .tuple #[.string (lowX s i e1), .string ⟨#[]⟩, .int .i64 (e1 : Nat)]) (by simp [results, Tryz.results184, go_sem]) rfl ⟨by rw [HA2.out], B1.out⟩
        | false =>
          have he3 := HV3.out hlt2
          have he4 := HV4.out he3.2
          have HA2 := Lib.hid HAT.out
          have h61' : byteAt s e2 = 61 := by rw [byteAt_in hlt2]; simpa using h61
          rw [if_pos h61'] at HA2
          clear h61' HAT
          have hes0 : ((e2 : Int) == (s.size : Int)) = false := by simp; omega
          go_upto_block 4 with fail
          go_cut [9] (fun s9 wx => s9 = .int .i64 (e3 : Int) ∧ wx = wc)
          case first =>
            go_wp2_with fail
            go_loop [9] (fun x => ∃ j : Nat, (e2 + 1) ≤ j ∧ j ≤ s.size ∧ x = .int .i64 (j : Int) ∧ Hid (j + runAt blankB s j = e3)) (fun x => s.size - (intOf x).toNat)
            case atStart => exact ⟨(e2 + 1), Nat.le_refl _, by omega, by go_num, Lib.hid HE3.out.symm⟩
            case round =>
              obtain ⟨j, hij, hj, rfl, HR⟩ := hrel
              by_cases hlt : j < s.size
              · have HB := Lib.hid (l04Blank_any (s[j].toNat : Int))
                cases hb : blankB (s[j].toNat : Int) with
                | true =>
                  rw [hb] at HB
                  have HN : Hid (j + 1 + runAt blankB s (j + 1) = e3) := Lib.hid (by have := HR.out; rw [runAt_yes hlt hb] at this; omega)
                  go_wp2_with (go_at_call 182; refine (HB.out _).mono ?_; rintro e w' ⟨rfl, rfl⟩)
                  go_round
                  case rel => exact ⟨j + 1, by omega, by omega, by go_num, HN⟩
                  case measure => simp [intOf]; omega
                | false =>
                  rw [hb] at HB
                  have HJ : Hid (j = e3) := Lib.hid (by have := HR.out; rw [runAt_no hlt hb] at this; omega)
                  go_wp2_with (go_at_call 182; refine (HB.out _).mono ?_; rintro e w' ⟨rfl, rfl⟩)
                  go_meet
                  case rel => exact ⟨by rw [← HJ.out], rfl⟩
              · obtain rfl : j = s.size := by omega
                have HJ : Hid (s.size = e3) := Lib.hid (by have := HR.out; rw [runAt_end] at this; omega)
                go_wp2
                go_meet
                case rel => exact ⟨by rw [← HJ.out], rfl⟩
          case rest =>
            obtain ⟨rfl, rfl⟩ := hcut
            by_cases hlt3 : e3 < s.size
            · cases h34 : ((s[e3].toNat : Int) == 34) with
              | true =>
                have hq : byteAt s e3 = 34 ∨ byteAt s e3 = 39 := Or.inl (by rw [byteAt_in hlt3]; simpa using h34)
                have HA3 := Lib.hid HA2.out
                rw [if_pos hq] at HA3
                have h1s : (s.extract e3 (e3 + 1)).size = 1 := by rw [ByteArray.size_extract]; omega
                have HF := Lib.hid (l04Find_any s (s.extract e3 (e3 + 1)) (e3 + 1) hs (by rw [h1s]; decide) (by omega))
                have hfl := find_le s (s.extract e3 (e3 + 1)) (e3 + 1) (by omega)
                rw [h1s] at hfl
                generalize findTo s (s.extract e3 (e3 + 1)) (e3 + 1) = kk at HF HA3 hfl
                obtain ⟨k, ok⟩ := kk
                simp only at HF HA3 hfl
                clear hq h1s HA2
                cases ok with
                | true =>
                  have hk1 := hfl.1
                  have hk2 := hfl.2.2 rfl
                  have HA4 : Hid (AT = (lowX s i e1, unX s (e3 + 1) k, k + 1)) := Lib.hid HA3.out
                  go_wp2_with (first | (go_at_call 186; refine (HF.out _).mono ?_; rintro e w2 ⟨rfl, rfl⟩) | (go_at_call 96; refine (un_is (s.extract (e3 + 1) k) (unX s (e3 + 1) k) rfl (by rw [ByteArray.size_extract]; omega) _).mono ?_; rintro e w3 ⟨rfl, hB⟩; have B3 := Lib.hid (B1.out.trans (hB.mono B1.out.size)); clear hB))
                  refine bodyPost_ret (v := .tuple #[.string (lowX s i e1), .string (unX s (e3 + 1) k), .int .i64 (k + 1 : Nat)]) (by simp [results, Tryz.results184, go_sem]) rfl ⟨by rw [HA4.out], B3.out⟩
                | false =>
                  have HA4 : Hid (AT = (lowX s i e1, ⟨#[]⟩, s.size)) := Lib.hid HA3.out
                  go_wp2_with (go_at_call 186; refine (HF.out _).mono ?_; rintro e w2 ⟨rfl, rfl⟩)
                  refine bodyPost_ret (v := .tuple #[.string (lowX s i e1), .string ⟨#[]⟩, .int .i64 (s.size : Nat)]) (by simp [results, Tryz.results184, go_sem]) rfl ⟨by rw [HA4.out], B1.out⟩
              | false =>
                cases h39 : ((s[e3].toNat : Int) == 39) with
                | true =>
                  have hq : byteAt s e3 = 34 ∨ byteAt s e3 = 39 := Or.inr (by rw [byteAt_in hlt3]; simpa using h39)
                  have HA3 := Lib.hid HA2.out
                  rw [if_pos hq] at HA3
                  have h1s : (s.extract e3 (e3 + 1)).size = 1 := by rw [ByteArray.size_extract]; omega
                  have HF := Lib.hid (l04Find_any s (s.extract e3 (e3 + 1)) (e3 + 1) hs (by rw [h1s]; decide) (by omega))
                  have hfl := find_le s (s.extract e3 (e3 + 1)) (e3 + 1) (by omega)
                  rw [h1s] at hfl
                  generalize findTo s (s.extract e3 (e3 + 1)) (e3 + 1) = kk at HF HA3 hfl
                  obtain ⟨k, ok⟩ := kk
                  simp only at HF HA3 hfl
                  clear hq h1s HA2
                  cases ok with
                  | true =>
                    have hk1 := hfl.1
                    have hk2 := hfl.2.2 rfl
                    have HA4 : Hid (AT = (lowX s i e1, unX s (e3 + 1) k, k + 1)) := Lib.hid HA3.out
                    go_wp2_with (first | (go_at_call 186; refine (HF.out _).mono ?_; rintro e w2 ⟨rfl, rfl⟩) | (go_at_call 96; refine (un_is (s.extract (e3 + 1) k) (unX s (e3 + 1) k) rfl (by rw [ByteArray.size_extract]; omega) _).mono ?_; rintro e w3 ⟨rfl, hB⟩; have B3 := Lib.hid (B1.out.trans (hB.mono B1.out.size)); clear hB))
                    refine bodyPost_ret (v := .tuple #[.string (lowX s i e1), .string (unX s (e3 + 1) k), .int .i64 (k + 1 : Nat)]) (by simp [results, Tryz.results184, go_sem]) rfl ⟨by rw [HA4.out], B3.out⟩
                  | false =>
                    have HA4 : Hid (AT = (lowX s i e1, ⟨#[]⟩, s.size)) := Lib.hid HA3.out
                    go_wp2_with (go_at_call 186; refine (HF.out _).mono ?_; rintro e w2 ⟨rfl, rfl⟩)
                    refine bodyPost_ret (v := .tuple #[.string (lowX s i e1), .string ⟨#[]⟩, .int .i64 (s.size : Nat)]) (by simp [results, Tryz.results184, go_sem]) rfl ⟨by rw [HA4.out], B1.out⟩
                | false =>
                  have HA3 : Hid (AT = (lowX s i e1, unX s e3 e4, e4)) := Lib.hid (by rw [HA2.out, if_neg (by rw [byteAt_in hlt3]; simp at h34 h39; simp [h34, h39])])
                  go_wp2_with fail
                  go_loop [7] (fun x => ∃ j : Nat, e3 ≤ j ∧ j ≤ s.size ∧ x = .int .i64 (j : Int) ∧ Hid (j + runAt inVal s j = e4)) (fun x => s.size - (intOf x).toNat)
                  case atStart => exact ⟨e3, Nat.le_refl _, by omega, rfl, Lib.hid HE4.out.symm⟩
                  case round =>
                    obtain ⟨j, hij, hj, rfl, HR⟩ := hrel
                    by_cases hltj : j < s.size
                    · have HB := Lib.hid (l04Blank_any (s[j].toNat : Int))
                      cases hb : blankB (s[j].toNat : Int) with
                      | true =>
                        rw [hb] at HB
                        have HJ : Hid (j = e4) := Lib.hid (by have := HR.out; rw [runAt_no hltj (inVal_blank hb)] at this; omega)
                        have HA4 : Hid (AT = (lowX s i e1, unX s e3 j, j)) := Lib.hid (by rw [HJ.out]; exact HA3.out)
                        go_wp2_with (first | (go_at_call 182; refine (HB.out _).mono ?_; rintro e w' ⟨rfl, rfl⟩) | (go_at_call 96; refine (un_is (s.extract (e3) j) (unX s (e3) j) rfl (by rw [ByteArray.size_extract]; omega) _).mono ?_; rintro e w3 ⟨rfl, hB⟩; have B3 := Lib.hid (B1.out.trans (hB.mono B1.out.size)); clear hB))
                        refine bodyPost_ret (v := .tuple #[.string (lowX s i e1), .string (unX s e3 j), .int .i64 (j : Nat)]) (by simp [results, Tryz.results184, go_sem]) rfl ⟨by rw [HA4.out], B3.out⟩
                      | false =>
                        rw [hb] at HB
                        cases h62 : ((s[j].toNat : Int) != 62) with
                        | true =>
                          have HN : Hid (j + 1 + runAt inVal s (j + 1) = e4) := Lib.hid (by have := HR.out; rw [runAt_yes hltj (by simp [inVal, hb, h62])] at this; omega)
                          go_wp2_with (go_at_call 182; refine (HB.out _).mono ?_; rintro e w' ⟨rfl, rfl⟩)
                          go_round
                          case rel => exact ⟨j + 1, by omega, by omega, by go_num, HN⟩
                          case measure => simp [intOf]; omega
                        | false =>
                          have HJ : Hid (j = e4) := Lib.hid (by have := HR.out; rw [runAt_no hltj (by simp [inVal, h62])] at this; omega)
                          have HA4 : Hid (AT = (lowX s i e1, unX s e3 j, j)) := Lib.hid (by rw [HJ.out]; exact HA3.out)
                          go_wp2_with (first | (go_at_call 182; refine (HB.out _).mono ?_; rintro e w' ⟨rfl, rfl⟩) | (go_at_call 96; refine (un_is (s.extract (e3) j) (unX s (e3) j) rfl (by rw [ByteArray.size_extract]; omega) _).mono ?_; rintro e w3 ⟨rfl, hB⟩; have B3 := Lib.hid (B1.out.trans (hB.mono B1.out.size)); clear hB))
                          refine bodyPost_ret (v := .tuple #[.string (lowX s i e1), .string (unX s e3 j), .int .i64 (j : Nat)]) (by simp [results, Tryz.results184, go_sem]) rfl ⟨by rw [HA4.out], B3.out⟩
                    · obtain rfl : j = s.size := by omega
                      have HJ : Hid (s.size = e4) := Lib.hid (by have := HR.out; rw [runAt_end] at this; omega)
                      have HA4 : Hid (AT = (lowX s i e1, unX s e3 s.size, s.size)) := Lib.hid (by rw [HJ.out]; exact HA3.out)
                      go_wp2_with (go_at_call 96; refine (un_is (s.extract (e3) s.size) (unX s (e3) s.size) rfl (by rw [ByteArray.size_extract]; omega) _).mono ?_; rintro e w3 ⟨rfl, hB⟩; have B3 := Lib.hid (B1.out.trans (hB.mono B1.out.size)); clear hB)
                      refine bodyPost_ret (v := .tuple #[.string (lowX s i e1), .string (unX s e3 s.size), .int .i64 (s.size : Nat)]) (by simp [results, Tryz.results184, go_sem]) rfl ⟨by rw [HA4.out], B3.out⟩
            · have h3s : e3 = s.size := by omega
              have HA3 : Hid (AT = (lowX s i e1, unX s e3 e4, e4)) := Lib.hid (by rw [HA2.out, if_neg (by rw [h3s, byteAt_out]; decide)])
              have H3S := Lib.hid h3s
              clear h3s
              go_wp2_with fail
              go_loop [7] (fun x => ∃ j : Nat, e3 ≤ j ∧ j ≤ s.size ∧ x = .int .i64 (j : Int) ∧ Hid (j + runAt inVal s j = e4)) (fun x => s.size - (intOf x).toNat)
              case atStart => exact ⟨e3, Nat.le_refl _, by omega, rfl, Lib.hid HE4.out.symm⟩
              case round =>
                obtain ⟨j, hij, hj, rfl, HR⟩ := hrel
                have hj2 : j = s.size := by have := H3S.out; omega
                subst hj2
                have HJ : Hid (s.size = e4) := Lib.hid (by have := HR.out; rw [runAt_end] at this; omega)
                have HA4 : Hid (AT = (lowX s i e1, unX s e3 s.size, s.size)) := Lib.hid (by rw [HJ.out]; exact HA3.out)
                go_wp2_with (go_at_call 96; refine (un_is (s.extract (e3) s.size) (unX s (e3) s.size) rfl (by rw [ByteArray.size_extract]; omega) _).mono ?_; rintro e w3 ⟨rfl, hB⟩; have B3 := Lib.hid (B1.out.trans (hB.mono B1.out.size)); clear hB)
                refine bodyPost_ret (v := .tuple #[.string (lowX s i e1), .string (unX s e3 s.size), .int .i64 (s.size : Nat)]) (by simp [results, Tryz.results184, go_sem]) rfl ⟨by rw [HA4.out], B3.out⟩
      · have HA2 : Hid (AT = (lowX s i e1, ⟨#[]⟩, e1)) := Lib.hid (by rw [HAT.out, if_neg (by rw [show e2 = s.size by omega, byteAt_out]; decide)])
        have h2s : e2 = s.size := by omega
        have hes : ((e2 : Int) == (s.size : Int)) = true := by simp [h2s]
        clear h2s
        go_wp2
        refine bodyPost_ret (v := .tuple #[.string (lowX s i e1), .string ⟨#[]⟩, .int .i64 (e1 : Nat)]) (by simp [results, Tryz.results184, go_sem]) rfl ⟨by rw [HA2.out], B1.out⟩
end Go.Proofs.YtpennadfomnenaaGreatDoor
