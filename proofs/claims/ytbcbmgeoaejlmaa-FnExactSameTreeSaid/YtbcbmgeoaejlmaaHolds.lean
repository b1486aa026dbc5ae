
import Derived.Test.YtbcbmgeoaejlmaaPlain
namespace Go.Proofs.Ytbcbmgeoaejlmaa
open Go.ChangeShapes Go.WideShapes Go.ChangeAt Go.RowKit Go.Deep

def HoldsIs (x : Nd) (kids : Fo) : Prop := x.k = 1 → x.sp = 0 → (inL voidL x.n = true → kids.len = 0) ∧ (inL voidL x.n = false → inL rawL x.n = true → kids.texts)
open Classical in
noncomputable def holdsB (x : Nd) (kids : Fo) : Bool := decide (HoldsIs x kids)
theorem holdsB_iff (x : Nd) (kids : Fo) : holdsB x kids = true ↔ HoldsIs x kids := by simp [holdsB]
theorem holdsB_t {x : Nd} {kids : Fo} (h : HoldsIs x kids) : true = holdsB x kids := ((holdsB_iff x kids).2 h).symm
theorem holdsB_f {x : Nd} {kids : Fo} (h : ¬ HoldsIs x kids) : false = holdsB x kids := by
  cases e : holdsB x kids with
  | false => rfl
  | true => exact absurd ((holdsB_iff x kids).1 e) h

set_option maxHeartbeats 2000000 in
theorem l03Holds_any (k sp : Int) (n t : ByteArray) (al : List (ByteArray × ByteArray)) (kids : Fo) (w : World) (A K : Option Addr) (c kc kb ko lo hi : Nat)
    (hK : RowAt lo hi K kids.len kb ko) (hk : FoAt w lo hi kb ko kids) (hh : hi ≤ w.heap.size) :
    Calls Try.prog 183 #[.agg #[.int .i64 k, .int .i64 sp, .string n, .string t, .slice A al.length c, .slice K kids.len kc]] w fun e w' => e = .returned (.bool (holdsB ⟨k, sp, n, t, al⟩ kids)) ∧ Below w.heap.size w w' := by
  have hlen := hK.1
  unfold maxLen at hlen
  have HK := Lib.hid hK
  have HS := Lib.hid hk
  clear hK hk
  by_cases k1 : k = 1
  · subst k1
    by_cases s0 : sp = 0
    · subst s0
      cases hv : inL voidL n with
      | true =>
        have HV := Lib.hid hv
        clear hv
        go_enter Try.func183, Try.ntmps183
        go_wp2_with (go_at_call 195; refine (l01Void_any n _).mono ?_; rintro e w1 ⟨rfl, hB1⟩; rw [HV.out]; have d2 := (hB1.cell (p := ⟨w.heap.size, 2, none⟩) (by simp)).trans (new_cell (j := 2) rfl); have d5 := (hB1.cell (p := ⟨w.heap.size, 5, none⟩) (by simp)).trans (new_cell (j := 5) rfl); have KB := Lib.hid hB1; clear hB1)
        go_ret
        exact ⟨ret_bool (by
          rw [Bool.eq_iff_iff, holdsB_iff]
          simp only [beq_iff_eq]
          exact ⟨fun e _ _ => ⟨fun _ => by omega, fun f => by have h1 := HV.out; rw [h1] at f; simp at f⟩, fun h => by have := (h rfl rfl).1 HV.out; omega⟩), ((Below.refl _ _).alloc (Nat.le_refl _) _).trans (KB.out.mono (by simp))⟩
      | false =>
        have HV := Lib.hid hv
        clear hv
        cases hw : inL rawL n with
        | true =>
          have HW := Lib.hid hw
          clear hw
          go_enter Try.func183, Try.ntmps183
          go_wp2_with (go_at_call 195; refine (l01Void_any n _).mono ?_; rintro e w1 ⟨rfl, hB1⟩; rw [HV.out]; have d2 := (hB1.cell (p := ⟨w.heap.size, 2, none⟩) (by simp)).trans (new_cell (j := 2) rfl); have d5 := (hB1.cell (p := ⟨w.heap.size, 5, none⟩) (by simp)).trans (new_cell (j := 5) rfl); have KB := Lib.hid hB1; clear hB1)
          go_loopw [3] (fun i wr => ∃ (k : Nat) (suf : Fo), i = .int .i64 (k : Int) ∧ k + suf.len = kids.len ∧ Hid (FoAt w lo hi kb (ko + k * 6) suf ∧ Below (w.heap.size + 1) (w.alloc (.cells #[.int .i64 1, .int .i64 0, .string n, .string t, .slice A al.length c, .slice K kids.len kc] 68)) wr ∧ (kids.texts ↔ suf.texts))) (fun i wr => kids.len - (intOf i).toNat)
          case atStart => exact ⟨0, kids, rfl, by omega, Lib.hid ⟨by simpa using HS.out, KB.out.mono (by simp), Iff.rfl⟩⟩
          case round =>
            obtain ⟨k, suf, rfl, hk, HH⟩ := hrel
            cases suf with
            | nil =>
              have hkl : k = kids.len := by simpa [Fo.len] using hk
              clear hk
              subst hkl
              obtain ⟨_, hB, hT⟩ := HH.out
              have d5 := (hB.cell (p := ⟨w.heap.size, 5, none⟩) (by show w.heap.size < w.heap.size + 1; omega)).trans (new_cell (j := 5) rfl)
              have HB := Lib.hid hB
              clear hB
              go_wp2
              go_ret
              exact ⟨ret_bool (holdsB_t fun _ _ => ⟨fun v => by have h1 := HV.out; rw [h1] at v; simp at v, fun _ r => hT.2 trivial⟩), ((Below.refl _ _).alloc (Nat.le_refl _) _).trans (HB.out.mono (by omega))⟩
            | cons xk xs xn xt xa xkids r =>
              obtain ⟨⟨⟨s0, _⟩, _, _, sr⟩, hB, hT⟩ := HH.out
              obtain ⟨rfl, hlo, hhi⟩ := HK.out.2 (by simp [Fo.len] at hk; omega)
              have hlt : k < kids.len := by simp [Fo.len] at hk; omega
              have d5 := (hB.cell (p := ⟨w.heap.size, 5, none⟩) (by show w.heap.size < w.heap.size + 1; omega)).trans (new_cell (j := 5) rfl)
              have d2 := (hB.cell (p := ⟨w.heap.size, 2, none⟩) (by show w.heap.size < w.heap.size + 1; omega)).trans (new_cell (j := 2) rfl)
              have t0 := ((hB.cell (p := ⟨kb, ko + k * 6, none⟩) (by show kb < w.heap.size + 1; omega)).trans (((Below.refl _ w).alloc (Nat.le_refl _) _).cell (p := ⟨kb, ko + k * 6, none⟩) (by show kb < w.heap.size; omega))).trans s0
              have HSZ := Lib.hid (And.intro (show w.heap.size < wr.heap.size by have := hB.size; simp at this; omega) (show kb < wr.heap.size by have := hB.size; simp at this; omega))
              have HB := Lib.hid hB
              have HS2 := Lib.hid (And.intro sr hT)
              clear HH hB hT s0 sr
              by_cases h2 : xk = 2
              · have HX := Lib.hid h2
                subst h2
                go_wp2_with (go_at_call 196; refine (l01Raw_any n _).mono ?_; rintro e w2 ⟨rfl, hB2⟩; rw [HW.out]; have d5' := (hB2.cell (p := ⟨w.heap.size, 5, none⟩) HSZ.out.1).trans d5; have t0' := (hB2.cell (p := ⟨kb, ko + k * 6, none⟩) HSZ.out.2).trans t0; have KB2 := Lib.hid hB2; clear hB2)
                go_roundw
                case rel => exact ⟨k + 1, r, by go_num, by simp [Fo.len] at hk; omega, Lib.hid ⟨by rw [show ko + (k + 1) * 6 = ko + k * 6 + 6 by omega]; exact HS2.out.1, HB.out.trans (KB2.out.mono HSZ.out.1), HS2.out.2.trans ⟨fun a => a.2, fun a => ⟨rfl, a⟩⟩⟩⟩
                case measure => simp [intOf]; omega
              · have h2' : (xk != 2) = true := by simpa using h2
                have HX := Lib.hid h2
                clear h2
                go_wp2_with (go_at_call 196; refine (l01Raw_any n _).mono ?_; rintro e w2 ⟨rfl, hB2⟩; rw [HW.out]; have d5' := (hB2.cell (p := ⟨w.heap.size, 5, none⟩) HSZ.out.1).trans d5; have t0' := (hB2.cell (p := ⟨kb, ko + k * 6, none⟩) HSZ.out.2).trans t0; have KB2 := Lib.hid hB2; clear hB2)
                go_ret
                exact ⟨ret_bool (holdsB_f fun h => HX.out (HS2.out.2.1 ((h rfl rfl).2 HV.out HW.out)).1), ((Below.refl _ _).alloc (Nat.le_refl _) _).trans ((HB.out.trans (KB2.out.mono HSZ.out.1)).mono (by omega))⟩
        | false =>
          have HW := Lib.hid hw
          clear hw
          go_enter Try.func183, Try.ntmps183
          go_wp2_with (go_at_call 195; refine (l01Void_any n _).mono ?_; rintro e w1 ⟨rfl, hB1⟩; rw [HV.out]; have d2 := (hB1.cell (p := ⟨w.heap.size, 2, none⟩) (by simp)).trans (new_cell (j := 2) rfl); have d5 := (hB1.cell (p := ⟨w.heap.size, 5, none⟩) (by simp)).trans (new_cell (j := 5) rfl); have KB := Lib.hid hB1; clear hB1)
          go_loopw [3] (fun i wr => ∃ (k : Nat) (suf : Fo), i = .int .i64 (k : Int) ∧ k + suf.len = kids.len ∧ Hid (FoAt w lo hi kb (ko + k * 6) suf ∧ Below (w.heap.size + 1) (w.alloc (.cells #[.int .i64 1, .int .i64 0, .string n, .string t, .slice A al.length c, .slice K kids.len kc] 68)) wr ∧ True)) (fun i wr => kids.len - (intOf i).toNat)
          case atStart => exact ⟨0, kids, rfl, by omega, Lib.hid ⟨by simpa using HS.out, KB.out.mono (by simp), trivial⟩⟩
          case round =>
            obtain ⟨k, suf, rfl, hk, HH⟩ := hrel
            cases suf with
            | nil =>
              have hkl : k = kids.len := by simpa [Fo.len] using hk
              clear hk
              subst hkl
              obtain ⟨_, hB, hT⟩ := HH.out
              have d5 := (hB.cell (p := ⟨w.heap.size, 5, none⟩) (by show w.heap.size < w.heap.size + 1; omega)).trans (new_cell (j := 5) rfl)
              have HB := Lib.hid hB
              clear hB
              go_wp2
              go_ret
              exact ⟨ret_bool (holdsB_t fun _ _ => ⟨fun v => by have h1 := HV.out; rw [h1] at v; simp at v, fun _ r => by have h1 := HW.out; rw [h1] at r; simp at r⟩), ((Below.refl _ _).alloc (Nat.le_refl _) _).trans (HB.out.mono (by omega))⟩
            | cons xk xs xn xt xa xkids r =>
              obtain ⟨⟨⟨s0, _⟩, _, _, sr⟩, hB, hT⟩ := HH.out
              obtain ⟨rfl, hlo, hhi⟩ := HK.out.2 (by simp [Fo.len] at hk; omega)
              have hlt : k < kids.len := by simp [Fo.len] at hk; omega
              have d5 := (hB.cell (p := ⟨w.heap.size, 5, none⟩) (by show w.heap.size < w.heap.size + 1; omega)).trans (new_cell (j := 5) rfl)
              have d2 := (hB.cell (p := ⟨w.heap.size, 2, none⟩) (by show w.heap.size < w.heap.size + 1; omega)).trans (new_cell (j := 2) rfl)
              have t0 := ((hB.cell (p := ⟨kb, ko + k * 6, none⟩) (by show kb < w.heap.size + 1; omega)).trans (((Below.refl _ w).alloc (Nat.le_refl _) _).cell (p := ⟨kb, ko + k * 6, none⟩) (by show kb < w.heap.size; omega))).trans s0
              have HSZ := Lib.hid (And.intro (show w.heap.size < wr.heap.size by have := hB.size; simp at this; omega) (show kb < wr.heap.size by have := hB.size; simp at this; omega))
              have HB := Lib.hid hB
              have HS2 := Lib.hid (And.intro sr hT)
              clear HH hB hT s0 sr
              go_wp2_with (go_at_call 196; refine (l01Raw_any n _).mono ?_; rintro e w2 ⟨rfl, hB2⟩; rw [HW.out]; have d5' := (hB2.cell (p := ⟨w.heap.size, 5, none⟩) HSZ.out.1).trans d5; have t0' := (hB2.cell (p := ⟨kb, ko + k * 6, none⟩) HSZ.out.2).trans t0; have KB2 := Lib.hid hB2; clear hB2)
              go_roundw
              case rel => exact ⟨k + 1, r, by go_num, by simp [Fo.len] at hk; omega, Lib.hid ⟨by rw [show ko + (k + 1) * 6 = ko + k * 6 + 6 by omega]; exact HS2.out.1, HB.out.trans (KB2.out.mono HSZ.out.1), trivial⟩⟩
              case measure => simp [intOf]; omega
    · have s0' : (sp != 0) = true := by simpa using s0
      have HX := Lib.hid s0
      clear s0
      go_enter Try.func183, Try.ntmps183
      go_wp2
      go_ret
      exact ⟨ret_bool (holdsB_t fun _ e => absurd e HX.out), by go_grown⟩
  · have k1' : (k != 1) = true := by simpa using k1
    have HX := Lib.hid k1
    clear k1
    go_enter Try.func183, Try.ntmps183
    go_wp2
    go_ret
    exact ⟨ret_bool (holdsB_t fun e => absurd e HX.out), by go_grown⟩
end Go.Proofs.Ytbcbmgeoaejlmaa
