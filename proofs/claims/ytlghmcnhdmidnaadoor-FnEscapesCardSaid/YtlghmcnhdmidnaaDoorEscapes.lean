import Derived.Test.YtlghmcnhdmidnaaDoorBack
import Derived.Test.YtlghmcnhdmidnaaDoorWords
import Derived.Test.YtlghmcnhdmidnaaDoorComment
import Derived.Test.YtlghmcnhdmidnaaDoorAt
import Derived.Test.YtlghmcnhdmidnaaDoorUnImpl
import Derived.Test.YtlghmcnhdmidnaaDoorDigits
import Derived.Laws.BytesArg
import Derived.Laws.IdiomStrings
import Derived.Deep.DeepCutAuto
import Derived.Deep.RegionWith
import Derived.Deep.RegionHeld3
import Derived.BigRegion
import Derived.Test.YtlghmcnhdmidnaaDoorEscTail
namespace Go.Proofs.YtlghmcnhdmidnaaDoor
open Go.ChangeShapes Go.WideShapes Go.ChangeAt Go.RowKit

/-- bytes l lie in slice o -/
def BytesAt (B : Nat) (w : World) (o : Option Addr) (l : List UInt8) : Prop := ∀ j (hj : j < l.length), ∃ a, o = some a ∧ a.block < B ∧ w.cell? (a.add j) = some (.int .u8 (l[j].toNat : Int))
theorem BytesAt.below {B : Nat} {o : Option Addr} {l : List UInt8} {w w' : World} {C : Nat} (h : BytesAt B w o l) (hb : Below C w w') (hC : B ≤ C) : BytesAt B w' o l := fun j hj => by
  obtain ⟨a, h1, h2, h3⟩ := h j hj
  exact ⟨a, h1, h2, (hb.cell (by rw [add_block]; omega)).trans h3⟩
theorem CodeAt.bytes {B n : Nat} {o : Option Addr} {w : World} (h : CodeAt B w o n) : ∀ m, m ≤ n → ∃ l : List UInt8, l.length = m ∧ BytesAt B w o l
  | 0, _ => ⟨[], rfl, fun j hj => by cases hj⟩
  | m + 1, hm => by
    obtain ⟨l, hl, hb⟩ := h.bytes m (by omega)
    obtain ⟨a, z, h1, h2, h3, h4, h5⟩ := h.2 m (by omega)
    refine ⟨l ++ [UInt8.ofNat z.toNat], by simp [hl], fun j hj => ?_⟩
    by_cases e : j < l.length
    · rw [List.getElem_append_left e]; exact hb j e
    · simp only [List.length_append, List.length_cons, List.length_nil] at hj
      obtain rfl : j = l.length := by omega
      refine ⟨a, h1, h2, ?_⟩
      have hz : (UInt8.ofNat z.toNat).toNat = z.toNat := by simp; omega
      have he : (l ++ [UInt8.ofNat z.toNat])[l.length]'(by simp) = UInt8.ofNat z.toNat := by simp
      rw [he, hz, show ((z.toNat : Nat) : Int) = z by omega]
      subst hl
      exact h3
theorem BytesAt.conv {B : Nat} {o : Option Addr} {l : List UInt8} {w : World} (h : BytesAt B w o l) (cap : Nat) : (convert 22 9 (.slice o l.length cap)).run Tryd.prog w = .ok (.string ⟨l.toArray⟩) w := by
  cases o with
  | none =>
    have : l = [] := by
      cases l with
      | nil => rfl
      | cons c r => obtain ⟨a, h1, _⟩ := h 0 (by simp); cases h1
    subst this
    exact run_convert_bytes_nil w 22 5 Tryd.underlying22 Tryd.underlying5 _ _ _ Tryd.underlying9
  | some a =>
    refine run_convert_bytes_back w 22 9 5 a cap l Tryd.underlying22 Tryd.underlying5 Tryd.underlying9 fun j hj => ?_
    obtain ⟨a', h1, _, h3⟩ := h j hj
    cases h1; exact h3
theorem CodeAt.below {B n : Nat} {o : Option Addr} {w w' : World} {C : Nat} (h : CodeAt B w o n) (hb : Below C w w') (hC : B ≤ C) : CodeAt B w' o n := by
  refine ⟨h.1, fun j hj => ?_⟩
  obtain ⟨a, z, h1, h2, h3, h4⟩ := h.2 j hj
  exact ⟨a, z, h1, h2, (hb.cell (by rw [add_block]; omega)).trans h3, h4⟩

set_option maxHeartbeats 8000000 in
set_option maxRecDepth 100000 in
theorem escapes_walk (B n1 cap1 n2 cap2 : Nat) (o1 o2 : Option Addr) (w : World) (hc1 : CodeAt B w o1 n1) (hc2 : CodeAt B w o2 n2) (hcap : n2 ≤ cap2) (hB : B ≤ w.heap.size) (hE : Env w) (hM : MaxAt w) :
    Calls Tryd.prog 3 #[.slice o1 n1 cap1, .slice o2 n2 cap2] w fun e w' => e = .returned (.bool true) ∧ Below w.heap.size w w' := by
  have hn1 := hc1.1
  have hn2 := hc2.1
  obtain ⟨m, hm⟩ : ∃ m : Nat, m = if 100 < n2 then 100 else n2 := ⟨_, rfl⟩
  have hm1 : m ≤ n2 ∧ m ≤ 100 := by rw [hm]; split <;> omega
  have hmin : ∀ (ts : Array TypeId) (t : TypeId) w, (Builtin.min_ ts t #[.int .i64 (n2 : Int), .int .i64 100]).run Tryd.prog w = .ok (.int .i64 (m : Int)) w := fun ts t w => by
    rw [run_min_int2]
    congr 3
    rw [hm]
    by_cases h : 100 < n2
    · rw [if_pos (by omega), if_pos h]; rfl
    · rw [if_neg (by omega), if_neg h]
  clear hm
  obtain ⟨l, hl, hb⟩ := hc2.bytes m hm1.1
  subst hl
  have hconv0 := BytesAt.conv (w := w.drew) hb cap2
  have hconv : ∀ w', BytesAt B w' o2 l → (convert 22 9 (.slice o2 l.length cap2)).run Tryd.prog w' = .ok (.string ⟨l.toArray⟩) w' := fun w' h => h.conv cap2
  go_enter Tryd.func3, Tryd.ntmps3
  go_upto_region 3 with fail
  go_cut [5] from 20 to 28 (fun s wc => ∃ t : ByteArray, s = .string t ∧ t.size ≤ 132 ∧ Below w.heap.size w wc)
  case first =>
    go_region_with (go_at_call 4; go_must (refine (WordsDrawn_any B n1 cap1 o1 _ (by exact hc1) (by exact hB)).mono ?_; rintro e w3 ⟨s, hs, rfl, hb3⟩; have hcv3 := hconv w3 (BytesAt.below (w := w.drew) hb hb3 hB)))
    all_goals
      have hb4 : Below w.heap.size w w3 := Below.trans ((Below.refl _ w).drew) hb3
      have hsz : (s ++ (⟨l.toArray⟩ : ByteArray)).size ≤ 132 := by rw [ByteArray.size_append]; show s.size + l.toArray.size ≤ 132; rw [List.size_toArray]; omega
      go_wp2
      go_meet
      exact ⟨_, rfl, hsz, hb4⟩
  case rest =>
    obtain ⟨t, rfl, ht, hbw⟩ := hcut
    clear hconv hconv0 hmin hb
    have hcc := hc2.below hbw hB
    have hBc : B ≤ wc.heap.size := by have := hbw.size; omega
    go_wp2_with (go_at_call 5; refine (implEscapeText_any t _).mono ?_)
    rintro e w1 ⟨rfl, hb1⟩
    go_wp2_with (go_at_call 6; refine (implEscapeValue_any t _).mono ?_)
    rintro e w2 ⟨rfl, hb2⟩
    have hbw2 : Below w.heap.size w w2 := hbw.trans ((hb1.trans (hb2.mono hb1.size)).mono hbw.size)
    have hcc2 := hc2.below hbw2 hB
    go_wp2_with (go_at_call 7; refine (at_any B n2 cap2 0 o2 126 _ hcc2 (by omega) (by omega) (by omega)).mono ?_)
    rintro e w3 ⟨z, q, rfl, hz0, hz1, rfl⟩
    have hbw3 : Below w.heap.size w (w2.drewN q) := below_drewN hbw2 q
    generalize w2.drewN q = w3 at hbw3 ⊢
    have hw1 : IntKind.i64.wrap (1 + z) = 1 + z := by rw [IntKind.wrap_i64]; omega
    obtain ⟨n, hn1', hn2', hzn⟩ : ∃ n : Nat, 1 ≤ n ∧ n ≤ 126 ∧ 1 + z = (n : Int) := ⟨(z + 1).toNat, by omega, by omega, by omega⟩
    rw [hzn] at hw1
    clear hz0 hz1
    go_wp2
    go_loopw [9, 10] (fun v k wr => ∃ (j : Nat) (l : List UInt8), k = .int .i64 j ∧ j ≤ n ∧ l.length + j ≤ 126 ∧ dg j ++ l = dg n ∧ RowOf w3 wr v l) (fun _ k _ => (intOf k).toNat)
    case atStart => exact ⟨n, [], rfl, Nat.le_refl _, by simp; omega, by simp, RowOf.empty w3⟩
    case round =>
      obtain ⟨j, l, rfl, hj, hlj, hdg, hrow⟩ := hrel
      by_cases h0 : 0 < (j : Int)
      · have hst := dg_step ⟨j, by omega⟩ (by show 1 ≤ j; omega)
        simp only at hst
        have hb8 : (UInt8.ofNat (48 + j % 10)).toNat = 48 + j % 10 := by simp; omega
        generalize UInt8.ofNat (48 + j % 10) = c at hst hb8
        have hdg' : dg (j / 10) ++ (c :: l) = dg n := by rw [← hdg, hst, List.append_assoc]; rfl
        clear hst
        go_wp2_with (at_builtin; refine wpList_append_row w3 wr rfl (.tmp 47) (.tmp 46) rfl _ l _ c rfl rfl hrow (by omega) ?_ ?_)
        · rw [hb8]; omega
        · intro v' w' hrow'
          go_wp2
          go_roundw
          case rel => exact ⟨j / 10, c :: l, by go_num, by omega, by simp; omega, hdg', hrow'⟩
          case measure => simp [intOf]; omega
      · obtain rfl : j = 0 := by omega
        clear h0
        have hl : l = dec3 n := by
          have : dg n = dec3 n := if_neg (by omega)
          rw [← this, ← hdg]; rfl
        have hb : Below w.heap.size w wr := hbw3.trans (hrow.1.2.mono hbw3.size)
        have HL := Lib.hid hl
        have hsT : t.size ≤ 65536 := by omega
        have hA1 : escAns escT t = ⟨(escL escT t.data.toList).toArray⟩ := by rw [escAns, if_pos hsT, escS_all]
        have hB1 : escAns escV t = ⟨(escL escV t.data.toList).toArray⟩ := by rw [escAns, if_pos hsT, escS_all]
        have hsA : (escAns escT t).size ≤ 65536 := by
          rw [hA1]; show (escL escT t.data.toList).toArray.size ≤ _
          have := escL_len escT_len t.data.toList
          simp at this ⊢; omega
        have hsB : (escAns escV t).size ≤ 65536 := by
          rw [hB1]; show (escL escV t.data.toList).toArray.size ≤ _
          have := escL_len escV_len t.data.toList
          simp at this ⊢; omega
        have hUA : unAns (escAns escT t) = t := by
          rw [unAns, if_pos hsA, hA1]
          show (⟨(un (escL escT t.data.toList)).toArray⟩ : ByteArray) = t
          rw [un_escL un_escT1]
        have hUB : unAns (escAns escV t) = t := by
          rw [unAns, if_pos hsB, hB1]
          show (⟨(un (escL escV t.data.toList)).toArray⟩ : ByteArray) = t
          rw [un_escL un_escV1]
        have hMA : markupB (escAns escT t) = false := by
          rw [hA1]
          have e : (escL escT t.data.toList).contains 60 = false := by
            rw [Bool.eq_false_iff]
            intro hc
            exact escL_none (p := fun d => d ≠ 60) (fun c d h => (escT_none c d h).1) _ 60 (by simpa using hc) rfl
          show (decide _ && (escL escT t.data.toList).contains 60) = false
          rw [e, Bool.and_false]
        have hMB : markupB (escAns escV t) = false := by
          rw [hB1]
          have e : (escL escV t.data.toList).contains 60 = false := by
            rw [Bool.eq_false_iff]
            intro hc
            exact escL_none (p := fun d => d ≠ 60) (fun c d h => (escV_none c d h).1) _ 60 (by simpa using hc) rfl
          show (decide _ && (escL escV t.data.toList).contains 60) = false
          rw [e, Bool.and_false]
        have hBn : ∀ d ∈ (escAns escV t).data.toList, d ≠ 34 ∧ d ≠ 62 := by
          rw [hB1]
          intro d hd
          have hd' : d ∈ escL escV t.data.toList := hd
          exact escL_none (p := fun d => d ≠ 34 ∧ d ≠ 62) (fun c d h => ⟨(escV_none c d h).2.2, (escV_none c d h).2.1⟩) _ d hd'
        clear hA1 hB1 hcc hBc hb1 hb2 hbw2 hcc2 hdg hlj
        have HBn := Lib.hid hBn
        clear hBn
        have hEx := fun (wx : World) (h : Below w.heap.size w wx) => hE.below h
        have hMx := fun (wx : World) (h : Below w.heap.size w wx) => hM.below h
        obtain ⟨A, hA⟩ : ∃ A, A = escAns escT t := ⟨_, rfl⟩
        obtain ⟨Bt, hBt⟩ : ∃ Bt, Bt = escAns escV t := ⟨_, rfl⟩
        have sT : ∀ w, Calls Tryd.prog 8 #[.string t] w fun e w' => e = .returned (.string A) ∧ w = w' := fun w => by rw [hA]; exact specEscapeText_any t w
        have sV : ∀ w, Calls Tryd.prog 9 #[.string t] w fun e w' => e = .returned (.string Bt) ∧ w = w' := fun w => by rw [hBt]; exact specEscapeValue_any t w
        rw [← hA] at hsA hUA hMA ⊢
        rw [← hBt] at hsB hUB hMB HBn ⊢
        have iA : ∀ w, Env w → Calls Tryd.prog 10 #[.string A] w fun e w' => e = .returned (.string t) ∧ Below w.heap.size w w' := fun w h => by have := implUnescape_any A w h; rw [hUA] at this; exact this
        have iB : ∀ w, Env w → Calls Tryd.prog 10 #[.string Bt] w fun e w' => e = .returned (.string t) ∧ Below w.heap.size w w' := fun w h => by have := implUnescape_any Bt w h; rw [hUB] at this; exact this
        have mA : ∀ w, Calls Tryd.prog 11 #[.string A] w fun e w' => e = .returned (.bool false) ∧ w = w' := fun w => by have := implHasMarkup_any A w; rw [hMA] at this; exact this
        have mB : ∀ w, Calls Tryd.prog 11 #[.string Bt] w fun e w' => e = .returned (.bool false) ∧ w = w' := fun w => by have := implHasMarkup_any Bt w; rw [hMB] at this; exact this
        have hBs : Bt.size ≤ 9223372036854775807 := by omega
        clear hA hBt hsA hsB hUA hUB hMA hMB
        have hr : Below wr.heap.size wr wr := Below.refl _ _
        go_wp2_with fail
        refine (sT _).mono ?_
        rintro e wx ⟨rfl, rfl⟩
        go_wp2_with fail
        refine (sV _).mono ?_
        rintro e wx ⟨rfl, rfl⟩
        go_wp2_with fail
        refine (iA _ (hEx _ hb)).mono ?_
        rintro e wx ⟨rfl, hx⟩
        replace hb := hb.trans (hx.mono hb.size)
        replace hr := hr.trans (hx.mono hr.size)
        clear hx
        go_wp2_with fail
        refine (iB _ (hEx _ hb)).mono ?_
        rintro e wx ⟨rfl, hx⟩
        replace hb := hb.trans (hx.mono hb.size)
        replace hr := hr.trans (hx.mono hr.size)
        clear hx
        go_wp2_with fail
        refine (mA _).mono ?_
        rintro e wx ⟨rfl, rfl⟩
        go_wp2_with fail
        refine (mB _).mono ?_
        rintro e wx ⟨rfl, rfl⟩
        go_wp2_with fail
        refine (implUnescape_any t _ (hEx _ hb)).mono ?_
        rintro e wx ⟨rfl, hx⟩
        replace hb := hb.trans (hx.mono hb.size)
        replace hr := hr.trans (hx.mono hr.size)
        clear hx
        go_wp2_with fail
        refine (specUnescape_any t _).mono ?_
        rintro e wx ⟨rfl, hx⟩
        replace hb := hb.trans (hx.mono hb.size)
        replace hr := hr.trans (hx.mono hr.size)
        clear hx
        go_wp2_with fail
        refine (implHasMarkup_any t _).mono ?_
        rintro e wx ⟨rfl, rfl⟩
        go_wp2_with fail
        refine (specHasMarkup_any t _).mono ?_
        rintro e wx ⟨rfl, rfl⟩
        go_wp2_with fail
        refine (implCommentOK_any t _ (hMx _ hb)).mono ?_
        rintro e wx ⟨rfl, hx⟩
        replace hb := hb.trans (hx.mono hb.size)
        replace hr := hr.trans (hx.mono hr.size)
        clear hx
        go_wp2_with fail
        refine (specCommentOK_any t _).mono ?_
        rintro e wx ⟨rfl, rfl⟩
        go_wp2
        obtain ⟨wo, rfl⟩ : ∃ wo : World, wo = wr := ⟨_, rfl⟩
        go_loopw [11] (fun i wr => ∃ k : Nat, i = .int .i64 (k : Int) ∧ k ≤ Bt.size ∧ Hid (Below w.heap.size w wr ∧ Below wo.heap.size wo wr)) (fun i _ => Bt.size - (intOf i).toNat)
        case atStart => exact ⟨0, rfl, Nat.zero_le _, Lib.hid ⟨hb, hr⟩⟩
        case round =>
          obtain ⟨k, rfl, hk, HW⟩ := hrel
          have hbs : Bt.size ≤ 9223372036854775807 := hBs
          by_cases hlt : k < Bt.size
          · have hne := HBn.out Bt[k] (by exact (Array.getElem_mem_toList (xs := Bt.data) (i := k) hlt))
            have h34 : ((Bt[k].toNat : Int) == 34) = false := by
              rw [beq_eq_false_iff_ne]; intro e; exact hne.1 (by rw [← UInt8.toNat_inj]; simpa using (by omega : Bt[k].toNat = 34))
            have h62 : ((Bt[k].toNat : Int) == 62) = false := by
              rw [beq_eq_false_iff_ne]; intro e; exact hne.2 (by rw [← UInt8.toNat_inj]; simpa using (by omega : Bt[k].toNat = 62))
            clear hne
            go_wp2
            go_roundw
            case rel => exact ⟨k + 1, by go_num, by omega, HW⟩
            case measure => simp [intOf]; omega
          · obtain rfl : k = Bt.size := by omega
            clear hlt hb hr
            have HR := Lib.hid hrow
            have HX := Lib.hid hEx
            clear hrow hEx
            go_wp2_with fail
            refine esc_tail w wo _ l n (by omega) HL.out hn1' _ _ _ _ _ _ _ _ _ _ _ _ _ _ _ _ _ _ _ _ _ _ _ _ _ _ _ _ _ _ _ _ _ _ _ _ _ _ _ _ _ _ _ _ _ _ _ _ _ _ _ _ _ _ _ _ _ _ _ _ _ _ _ _ _ _ _ _ _ _ _ _ _ _ _ _ _ _ _ _ _ _ _ _ _ _ _ _ _ _ _ _ _ _ _ _ _ _ _ _ _ _ _ _ _ _ _ _ _ _ _ _ _ _ _ _ _ _ _ _ _ _ _ _ _ _ _ _ (fun W h => conv_row HR.out h) HX.out HW.out.1 HW.out.2 ?hqp ?_
            case hqp =>
              intro c a d v w' h
              cases d <;> exact h
            intro v116 v117 v118 v119 v120 v121 v122 v123 v124 v125 v126 v127 w' hb'
            go_wp2
            go_ret
            exact ⟨rfl, hb'⟩
end Go.Proofs.YtlghmcnhdmidnaaDoor
