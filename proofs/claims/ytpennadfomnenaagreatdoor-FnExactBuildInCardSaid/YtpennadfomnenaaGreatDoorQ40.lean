import Derived.Test.YtpennadfomnenaaGreatDoorQ36
import Derived.Test.YtpennadfomnenaaGreatDoorQ37
import Derived.Test.YtpennadfomnenaaGreatDoorQ38
import Derived.Test.YtpennadfomnenaaGreatDoorQ39
import Derived.Test.YtpennadfomnenaaGreatDoorQ31
import Derived.Test.YtpennadfomnenaaGreatDoorQ34
set_option linter.unusedVariables false
namespace Go.Proofs.YtpennadfomnenaaGreatDoor
open Go.ChangeShapes Go.WideShapes Go.ChangeAt Go.RowKit Go.Deep

/-- a begin tag -/
theorem open_any (B bb : Nat) (z : Zi) (sv nv : Value) (nvs : List Value) (bl : List Nat) (T : Tk) (ta : Nat) (TA : Option Addr) (tc : Nat) (w : World) (h : BS w B bb z sv nv nvs bl)
    (ba : List Nat) (hn : T.n.size ≤ maxLen) (ha : T.al.length ≤ tc ∧ T.al.length ≤ maxLen ∧ AlRow w TA T.al ba) (hba : ba.Nodup) (hbl : ∀ q ∈ ba, B ≤ q ∧ q < w.heap.size ∧ ¬ FpS bb sv nv bl q) :
    Calls Tryz.prog 141 #[.pointer (some ⟨bb, 0, none⟩), .agg #[.int .i64 T.k, .int .i64 (ta : Int), .int .i64 (T.l : Int), .string T.n, .string T.t, .slice TA T.al.length tc, .bool T.s]] w
      (OutS B bb (FpS bb sv nv bl) ba (z.begin T) w) := by
  have hle : leftOf (opensOf z.up) T.n ≤ z.up.length := by have := leftOf_le (opensOf z.up) T.n; rwa [opensOf_len] at this
  have hP : PopC B bb := fun k z sv nv nvs bl w h hk => pop_any B bb k z sv nv nvs bl w h hk
  have hl : (z.to (leftOf (opensOf z.up) T.n)).up.length = leftOf (opensOf z.up) T.n := Zi.to_len z _ hle
  have hc : (z.to (leftOf (opensOf z.up) T.n)).c = z.c := Zi.pops_c _ _
  unfold Zi.begin
  simp only [hl, hc]
  by_cases hd : 10 ≤ leftOf (opensOf z.up) T.n
  · rw [if_pos hd]
    exact open_deep B bb hP z sv nv nvs bl T.k ta T.l T.n T.t T.al T.s TA tc w h hd
  · rw [if_neg hd]
    by_cases h6 : 60 ≤ z.c
    · rw [if_pos h6]
      exact open_many B bb hP z sv nv nvs bl T.k ta T.l T.n T.t T.al T.s TA tc w h hd h6
    · rw [if_neg h6]
      cases hst : staysB (spcOf (opensOf (z.to (leftOf (opensOf z.up) T.n)).up) T.n) T.n T.s with
      | true =>
        rw [if_pos rfl]
        have := open_stays B bb hP z sv nv nvs bl T.k ta T.l T.n T.t T.al T.s TA tc w h hd h6 ba hn ha hba hbl _ rfl _ rfl hst
        rwa [hc] at this
      | false =>
        rw [if_neg (by simp)]
        have := open_ends B bb hP z sv nv nvs bl T.k ta T.l T.n T.t T.al T.s TA tc w h hd h6 ba hn ha hba hbl _ rfl _ rfl hst
        rwa [hc] at this
end Go.Proofs.YtpennadfomnenaaGreatDoor
namespace Go.Proofs.YtpennadfomnenaaGreatDoor
open Go.ChangeShapes Go.WideShapes Go.ChangeAt Go.RowKit Go.Deep

theorem run_on {s : ByteArray} {a : Nat} {z y : Zi} (hlt : a < s.size) (ht : z.take (nextOf s a z.raw) = .ok y) : (runZ s (s.size - (a + (nextOf s a z.raw).l)) (a + (nextOf s a z.raw).l) y).fin = (runZ s (s.size - a) a z).fin := by
  have hnl := nextOf_len (raw := z.raw) hlt
  rw [show s.size - a = (s.size - a - 1) + 1 by omega, runZ_ok hlt ht, runZ_fuel s (s.size - (a + (nextOf s a z.raw).l)) (s.size - a - 1) _ y (by omega) (by omega)]
theorem run_off {s : ByteArray} {a : Nat} {z : Zi} {c : Int} (hlt : a < s.size) (ht : z.take (nextOf s a z.raw) = .bad c) : (runZ s (s.size - a) a z).fin = (.nil, c) := by
  rw [show s.size - a = (s.size - a - 1) + 1 by omega, runZ_bad hlt ht]
  rfl
/-- where the model's builder stands: whole, or with a code -/
def SpRel (s : ByteArray) (w : World) (bb a : Nat) (wr : World) : Prop :=
  (∃ z sv nv nvs bl, BS wr w.heap.size bb z sv nv nvs bl ∧ Below w.heap.size w wr ∧ (runZ s (s.size - a) a z).fin = builtOf s) ∨
  (∃ c : Int, c ≠ 0 ∧ wr.cell? ⟨bb, 3, none⟩ = some (.int .i64 c) ∧ Below w.heap.size w wr ∧ builtOf s = (.nil, c))
theorem SpRel.out {s : ByteArray} {w W w' : World} {bb a : Nat} {z : Zi} {sv nv : Value} {nvs : List Value} {bl ex : List Nat} {e : Ending} (hlt : a < s.size) (hrun : (runZ s (s.size - a) a z).fin = builtOf s) (hS : BS W w.heap.size bb z sv nv nvs bl) (hB : Below w.heap.size w W)
    (hO : OutS w.heap.size bb (FpS bb sv nv bl) ex (z.take (nextOf s a z.raw)) W e w') : SpRel s w bb (a + (nextOf s a z.raw).l) w' := by
  cases hR : z.take (nextOf s a z.raw) with
  | bad c =>
    rw [hR] at hO
    exact Or.inr ⟨c, take_bad_ne hR, hO.2.1, hB.trans hO.2.2, by rw [← hrun, run_off hlt hR]⟩
  | ok y =>
    rw [hR] at hO
    obtain ⟨_, hb, sv', nv', nvs', bl', hS', _⟩ := hO
    exact Or.inl ⟨y, sv', nv', nvs', bl', hS', hB.trans (hb.below (fun q hq => (hS.lt q hq).1) hB.size), by rw [run_on hlt hR, hrun]⟩
theorem SpRel.pop {s : ByteArray} {w W w' : World} {bb a : Nat} {z y : Zi} {sv nv : Value} {nvs : List Value} {bl : List Nat} (hrun : (runZ s (s.size - a) a y).fin = builtOf s) (hS : BS W w.heap.size bb z sv nv nvs bl) (hB : Below w.heap.size w W)
    (hO : BSOut w.heap.size bb (FpS bb sv nv bl) W y w') : SpRel s w bb a w' := by
  obtain ⟨hb, sv', nv', nvs', bl', hS', _⟩ := hO
  exact Or.inl ⟨y, sv', nv', nvs', bl', hS', hB.trans (hb.below (fun q hq => (hS.lt q hq).1) hB.size), hrun⟩
theorem BS.start {W : World} {B bb gn : Nat} (hl : Lay W bb #[.slice none 0 0, .slice (some ⟨gn, 0, none⟩) 1 1, .int .i64 0, .int .i64 0]) (hn : W.ownsRow B 42 6 (.slice (some ⟨gn, 0, none⟩) 1 1) 1 [.int .i64 0, .int .i64 0, .string ⟨#[]⟩, .string ⟨#[]⟩, .slice none 0 0, .slice none 0 0]) (hb : B ≤ bb) (hne : gn ≠ bb) :
    BS W B bb ⟨.nil, [], 0⟩ (.slice none 0 0) (.slice (some ⟨gn, 0, none⟩) 1 1) [.int .i64 0, .int .i64 0, .string ⟨#[]⟩, .string ⟨#[]⟩, .slice none 0 0, .slice none 0 0] [] where
  nod := ⟨_, [], rfl, GRow.nil _ _, by simp [ownL, Value.ownBlock]⟩
  nd := List.nodup_nil
  nrow := hn
  srow := World.ownsRow_nil _ _ _ _
  dn := by
    intro k hk
    have : k = gn := by have := mem_ownL.1 hk; injection this with this; exact this.symm
    subst this
    exact ⟨by simp, hne, by simp [ownL, Value.ownBlock]⟩
  ds := by intro k hk; simp [ownL, Value.ownBlock] at hk
  db := by simp
  lay := hl
  le := hb
  fit := ⟨by simp [cntZ, Fo.len], by simp, by simp, fun x hx => by simp [Fo.last] at hx⟩
theorem BS.code {w : World} {B bb : Nat} {z : Zi} {sv nv : Value} {nvs : List Value} {bl : List Nat} (h : BS w B bb z sv nv nvs bl) : w.cell? ⟨bb, 3, none⟩ = some (.int .i64 0) := h.lay.1 3
theorem BS.slice0 {w : World} {B bb : Nat} {z : Zi} {sv nv : Value} {nvs : List Value} {bl : List Nat} (h : BS w B bb z sv nv nvs bl) : ∃ A c, sv = .slice A z.up.length c := by
  obtain ⟨A, c, b, e, _⟩ := h.os
  rw [opensOf_len] at e
  exact ⟨A, c, e⟩
theorem BSOut.refl {B bb : Nat} {w w' : World} {z : Zi} {sv nv : Value} {nvs : List Value} {bl : List Nat} (h : BS w B bb z sv nv nvs bl) (hB : Below w.heap.size w w') : BSOut B bb (FpS bb sv nv bl) w z w' :=
  ⟨But.of_below hB, sv, nv, nvs, bl, h.next hB, fun _ hq => Or.inl hq⟩
set_option maxHeartbeats 16000000 in
set_option maxRecDepth 100000 in
theorem l05Build_any (s : ByteArray) (w : World) (hs : s.size ≤ 4096) :
    Calls Tryz.prog 71 #[.string s] w (BuiltOut (builtOf s) w) := by
  have H0 : Hid (SpRel s w (w.heap.size + 1) 0 ((w.alloc (.cells #[.int .i64 0, .int .i64 0, .string ⟨#[]⟩, .string ⟨#[]⟩, .slice none 0 0, .slice none 0 0] 42)).alloc (.cells #[.slice none 0 0, .slice (some ⟨w.heap.size, 0, none⟩) 1 1, .int .i64 0, .int .i64 0] 154))) := by
    have hn := World.ownsRow_lit (e := 42) (size := 6) w #[.int .i64 0, .int .i64 0, .string ⟨#[]⟩, .string ⟨#[]⟩, .slice none 0 0, .slice none 0 0] 1 (Nat.le_refl w.heap.size) (by decide) rfl
    have hA := (Below.refl (w.heap.size + 1) (w.alloc (.cells #[.int .i64 0, .int .i64 0, .string ⟨#[]⟩, .string ⟨#[]⟩, .slice none 0 0, .slice none 0 0] 42))).alloc (by simp) (.cells #[.slice none 0 0, .slice (some ⟨w.heap.size, 0, none⟩) 1 1, .int .i64 0, .int .i64 0] 154)
    have hl := Lay.new (w.alloc (.cells #[.int .i64 0, .int .i64 0, .string ⟨#[]⟩, .string ⟨#[]⟩, .slice none 0 0, .slice none 0 0] 42)) #[.slice none 0 0, .slice (some ⟨w.heap.size, 0, none⟩) 1 1, .int .i64 0, .int .i64 0] 154
    rw [show (w.alloc (.cells #[.int .i64 0, .int .i64 0, .string ⟨#[]⟩, .string ⟨#[]⟩, .slice none 0 0, .slice none 0 0] 42)).heap.size = w.heap.size + 1 by simp] at hl
    refine Lib.hid (Or.inl ⟨⟨.nil, [], 0⟩, _, _, _, _, BS.start hl (ownsRow_same hn fun k hk => ?_) (Nat.le_succ _) (by omega), ?_, rfl⟩)
    · injection hk with hk
      subst hk
      exact hA.block _ (Nat.lt_succ_self _)
    · exact ((Below.refl w.heap.size w).alloc (Nat.le_refl _) _).alloc (by simp) _
  go_enter Tryz.func71, Tryz.ntmps71
  go_wp2
  go_loopw [5] (fun i wr => ∃ (a : Nat), i = .int .i64 (a : Int) ∧ a ≤ s.size ∧ Hid (SpRel s w (w.heap.size + 1) a wr)) (fun i wr => s.size - (intOf i).toNat)
  case atStart => exact ⟨0, rfl, Nat.zero_le _, H0⟩
  case round =>
    clear H0
    obtain ⟨a, rfl, ha, HH⟩ := hrel
    rcases HH.out with ⟨z, sv, nv, nvs, bl, hS, hB, hrun⟩ | ⟨c, hc, h3, hB, hbo⟩
    · clear HH
      have p3 : wr.cell? ⟨w.heap.size + 1, 3, none⟩ = some (.int .i64 0) := hS.code
      have HS := Lib.hid hS
      have HB := Lib.hid hB
      have HRUN := Lib.hid hrun
      clear hrun
      by_cases hlt : a < s.size
      · have hnl := nextOf_len (raw := z.raw) hlt
        have hnn := nextOf_name (s := s) (raw := z.raw) (a := a)
        have hnt := nextOf_text (s := s) (raw := z.raw) (a := a)
        have HR := Lib.hid (rawS_any w.heap.size (w.heap.size + 1) z sv nv nvs bl wr hS)
        have hbb := (hS.lt _ (Or.inl rfl)).2
        obtain ⟨A0, c0, hsv⟩ := hS.slice0
        have p0 : wr.cell? ⟨w.heap.size + 1, 0, none⟩ = some sv := hS.lay.1 0
        rw [hsv] at p0
        have HSV := Lib.hid hsv
        have HNX := Lib.hid (fun W => l04Next_any s z.raw a (by omega) hlt (by have := rawIn_size (opensOf z.up); unfold Zi.raw; omega) W)
        have HRP : Hid (0 < z.raw.size → (nextOf s a z.raw).k ≠ 1 → (runZ s (s.size - (a + (nextOf s a z.raw).l)) (a + (nextOf s a z.raw).l) (z.to (z.up.length - 1))).fin = builtOf s) := Lib.hid fun h1 h2 => by rw [raw_pop h1 hlt h2, HRUN.out]
        have HRN : Hid (∀ y, z.take (nextOf s a z.raw) = .ok y → (runZ s (s.size - (a + (nextOf s a z.raw).l)) (a + (nextOf s a z.raw).l) y).fin = builtOf s) := Lib.hid fun y hy => by rw [run_on hlt hy, HRUN.out]
        have HSO : Hid (∀ (ex : List Nat) (e : Ending) (W w' : World), BS W w.heap.size (w.heap.size + 1) z sv nv nvs bl → Below w.heap.size w W → OutS w.heap.size (w.heap.size + 1) (FpS (w.heap.size + 1) sv nv bl) ex (z.take (nextOf s a z.raw)) W e w' → SpRel s w (w.heap.size + 1) (a + (nextOf s a z.raw).l) w') := Lib.hid fun ex e W w' h1 h2 h3 => SpRel.out hlt HRUN.out h1 h2 h3
        have hro := fun h : 0 < z.raw.size => raw_open h
        have hm10 := hS.fit.2.2.1
        have HRO := Lib.hid hro
        clear hro hS hB HRUN hsv
        generalize hT : nextOf s a z.raw = T at hnl hnn hnt HNX HRP HRN HSO
        clear hT
        obtain ⟨tk, ta, tl, tn, tt, tal, ts⟩ := T
        simp only at hnl hnn hnt HRP HRN HSO
        go_wp2_with (go_at_call 138; refine HR.out.mono ?_; rintro e w1 ⟨rfl, hB1⟩; have B1 := Lib.hid hB1; clear hB1)
        refine (HNX.out w1).mono ?_
        rintro e w2 ⟨⟨TA, tc, rfl, ba, ha1, ha2, ha3, ha4, ha5⟩, hB2⟩
        have B2 := Lib.hid (B1.out.trans (hB2.mono B1.out.size))
        have A3 := Lib.hid ((Below.refl w2.heap.size w2).alloc (Nat.le_refl _) (.cells #[.int .i64 tk, .int .i64 (ta : Int), .int .i64 (tl : Int), .string tn, .string tt, .slice TA tal.length tc, .bool ts] 29))
        have L3 := Lib.hid (Lay.new w2 #[.int .i64 tk, .int .i64 (ta : Int), .int .i64 (tl : Int), .string tn, .string tt, .slice TA tal.length tc, .bool ts] 29)
        have S3 := Lib.hid ((HS.out.next B2.out).next A3.out)
        have B3 := Lib.hid ((HB.out.trans (B2.out.mono HB.out.size)).trans (A3.out.mono (Nat.le_trans HB.out.size B2.out.size)))
        have hs12 := B1.out.size
        have hs2 := hB2.size
        have HAT : Hid ((tal.length ≤ tc ∧ tal.length ≤ maxLen ∧ AlRow (w2.alloc (.cells #[.int .i64 tk, .int .i64 (ta : Int), .int .i64 (tl : Int), .string tn, .string tt, .slice TA tal.length tc, .bool ts] 29)) TA tal ba) ∧ ba.Nodup ∧ ∀ q ∈ ba, w.heap.size ≤ q ∧ q < (w2.alloc (.cells #[.int .i64 tk, .int .i64 (ta : Int), .int .i64 (tl : Int), .string tn, .string tt, .slice TA tal.length tc, .bool ts] 29)).heap.size ∧ ¬ FpS (w.heap.size + 1) sv nv bl q) :=
          Lib.hid ⟨⟨ha1, ha2, ha3.same fun q hq => A3.out.block q (ha5 q hq).2⟩, ha4, fun q hq => ⟨by have := (ha5 q hq).1; have := HB.out.size; omega, Nat.lt_of_lt_of_le (ha5 q hq).2 A3.out.size, fun h => by have := (HS.out.lt q h).2; have := (ha5 q hq).1; omega⟩⟩
        have q0 : (w2.alloc (.cells #[.int .i64 tk, .int .i64 (ta : Int), .int .i64 (tl : Int), .string tn, .string tt, .slice TA tal.length tc, .bool ts] 29)).cell? ⟨w.heap.size + 1, 0, none⟩ = some (.slice A0 z.up.length c0) := (A3.out.cell (p := ⟨w.heap.size + 1, 0, none⟩) (by show w.heap.size + 1 < w2.heap.size; omega)).trans ((B2.out.cell (p := ⟨w.heap.size + 1, 0, none⟩) hbb).trans p0)
        clear hB2 ha1 ha2 ha3 ha4 ha5 HR HNX
        unfold Tk.val
        dsimp only
        obtain ⟨R, hR⟩ : ∃ R, z.raw = R := ⟨_, rfl⟩
        rw [hR] at HRP HRO ⊢
        clear hR
        by_cases hA : 0 < R.size ∧ tk ≠ 1
        · obtain ⟨hr, hk⟩ := hA
          obtain ⟨hup, _, _⟩ := HRO.out hr
          have HP := Lib.hid (HRP.out hr hk)
          have hl : R.toList.length = R.size := by rw [ByteArray.toList_eq, Array.length_toList]; rfl
          have hr1 : ¬ R.toList = [] := fun h => by rw [h] at hl; simp only [List.length_nil] at hl; omega
          have hr2 : R.toList.isEmpty = false := by simpa using hr1
          have hk' : (tk != 1) = true := by simpa using hk
          obtain ⟨m, hm⟩ : ∃ m, z.up.length = m + 1 := ⟨z.up.length - 1, by omega⟩
          have HM : Hid (z.up.length - 1 = m ∧ m ≤ z.up.length) := Lib.hid ⟨by omega, by omega⟩
          rw [hm] at q0 hm10
          clear HRP HRN HSO HRO hl hm hup p0 hk
          go_wp2_with (go_at_call 139; refine (pop_any w.heap.size (w.heap.size + 1) m z sv nv nvs bl _ S3.out HM.out.2).mono ?_; rintro e w4 ⟨rfl, hO⟩; have HO := Lib.hid hO; clear hO)
          go_roundw
          case rel => exact ⟨a + tl, by go_num, hnl.2, Lib.hid (SpRel.pop (by have := HP.out; rw [HM.out.1] at this; exact this) S3.out B3.out HO.out)⟩
          case measure => (simp [intOf] <;> omega)
        · have hne : (R = ⟨#[]⟩ ∨ tk = 1) := by
            by_cases hk : tk = 1
            · exact Or.inr hk
            · refine Or.inl (ByteArray.ext (Array.eq_empty_of_size_eq_zero ?_))
              show R.size = 0
              rcases Nat.eq_zero_or_pos R.size with h | h
              · exact h
              · exact absurd ⟨h, hk⟩ hA
          clear hA HRP HRO
          by_cases hk1 : tk = 1
          · subst hk1
            have hkey : z.take ⟨1, ta, tl, tn, tt, tal, ts⟩ = z.words tt := by unfold Zi.take; rw [if_pos rfl]
            have HW : Hid (Calls Tryz.prog 140 #[.pointer (some ⟨w.heap.size + 1, 0, none⟩), .int .i64 2, .string tt] (w2.alloc (.cells #[.int .i64 1, .int .i64 (ta : Int), .int .i64 (tl : Int), .string tn, .string tt, .slice TA tal.length tc, .bool ts] 29)) fun e w' => e = .returned (.tuple #[]) ∧ SpRel s w (w.heap.size + 1) (a + tl) w') :=
              Lib.hid ((words_any w.heap.size (w.heap.size + 1) z sv nv nvs bl tt _ (by omega) S3.out).mono fun e w' hO => ⟨hO.ret.1, HSO.out [] e _ w' S3.out B3.out (by rw [hkey]; exact hO)⟩)
            clear hkey HRN HSO HAT p0 HSV
            rcases Nat.eq_zero_or_pos R.size with hr | hr
            · have hR0 : R = ⟨#[]⟩ := ByteArray.ext (Array.eq_empty_of_size_eq_zero hr)
              subst hR0
              clear hr hne
              go_wp2_with (go_at_call 140; refine HW.out.mono ?_; rintro e w4 ⟨rfl, hO⟩; have HO := Lib.hid hO; clear hO)
              go_roundw
              case rel => exact ⟨a + tl, by go_num, hnl.2, HO⟩
              case measure => (simp [intOf] <;> omega)
            · have hl : R.toList.length = R.size := by rw [ByteArray.toList_eq, Array.length_toList]; rfl
              have hr1 : ¬ R.toList = [] := fun h => by rw [h] at hl; simp only [List.length_nil] at hl; omega
              have hr2 : R.toList.isEmpty = false := by simpa using hr1
              clear hl hne
              go_wp2_with (go_at_call 140; refine HW.out.mono ?_; rintro e w4 ⟨rfl, hO⟩; have HO := Lib.hid hO; clear hO)
              go_roundw
              case rel => exact ⟨a + tl, by go_num, hnl.2, HO⟩
              case measure => (simp [intOf] <;> omega)
          · obtain rfl : R = ⟨#[]⟩ := hne.resolve_right hk1
            clear hne
            by_cases hk4 : tk = 4
            · subst hk4
              have hkey : z.take ⟨4, ta, tl, tn, tt, tal, ts⟩ = z.add 3 0 ⟨#[]⟩ tt [] := by simp [Zi.take]
              have HW : Hid (Calls Tryz.prog 140 #[.pointer (some ⟨w.heap.size + 1, 0, none⟩), .int .i64 3, .string tt] (w2.alloc (.cells #[.int .i64 4, .int .i64 (ta : Int), .int .i64 (tl : Int), .string tn, .string tt, .slice TA tal.length tc, .bool ts] 29)) fun e w' => e = .returned (.tuple #[]) ∧ SpRel s w (w.heap.size + 1) (a + tl) w') :=
                Lib.hid ((words_new w.heap.size (w.heap.size + 1) z sv nv nvs bl 3 tt _ (by unfold maxLen; omega) S3.out (Or.inl rfl)).mono fun e w' hO => ⟨hO.ret.1, HSO.out [] e _ w' S3.out B3.out (by rw [hkey]; exact hO)⟩)
              clear hkey HRN HSO HAT p0 HSV hk1
              go_wp2_with (go_at_call 140; refine HW.out.mono ?_; rintro e w4 ⟨rfl, hO⟩; have HO := Lib.hid hO; clear hO)
              go_roundw
              case rel => exact ⟨a + tl, by go_num, hnl.2, HO⟩
              case measure => (simp [intOf] <;> omega)
            · by_cases hk2 : tk = 2
              · subst hk2
                have hkey : z.take ⟨2, ta, tl, tn, tt, tal, ts⟩ = z.begin ⟨2, ta, tl, tn, tt, tal, ts⟩ := by simp [Zi.take]
                have HW : Hid (Calls Tryz.prog 141 #[.pointer (some ⟨w.heap.size + 1, 0, none⟩), .agg #[.int .i64 2, .int .i64 (ta : Int), .int .i64 (tl : Int), .string tn, .string tt, .slice TA tal.length tc, .bool ts]] (w2.alloc (.cells #[.int .i64 2, .int .i64 (ta : Int), .int .i64 (tl : Int), .string tn, .string tt, .slice TA tal.length tc, .bool ts] 29)) fun e w' => e = .returned (.tuple #[]) ∧ SpRel s w (w.heap.size + 1) (a + tl) w') :=
                  Lib.hid ((open_any w.heap.size (w.heap.size + 1) z sv nv nvs bl ⟨2, ta, tl, tn, tt, tal, ts⟩ ta TA tc _ S3.out ba (by unfold maxLen; simp only; omega) HAT.out.1 HAT.out.2.1 HAT.out.2.2).mono fun e w' hO => ⟨hO.ret.1, HSO.out ba e _ w' S3.out B3.out (by rw [hkey]; exact hO)⟩)
                clear hkey HRN HSO HAT p0 HSV hk1 hk4
                go_wp2_with (go_at_call 141; refine HW.out.mono ?_; rintro e w4 ⟨rfl, hO⟩; have HO := Lib.hid hO; clear hO)
                go_roundw
                case rel => exact ⟨a + tl, by go_num, hnl.2, HO⟩
                case measure => (simp [intOf] <;> omega)
              · by_cases hk3 : tk = 3
                · subst hk3
                  have hkey : z.take ⟨3, ta, tl, tn, tt, tal, ts⟩ = .ok (z.close tn) := by simp [Zi.take]
                  have HRC := Lib.hid (HRN.out _ hkey)
                  obtain ⟨A1, c1, b1, e1, ho⟩ := S3.out.os
                  rw [HSV.out, opensOf_len] at e1
                  injection e1 with e1 e2 e3
                  subst e1 e3
                  have q3 : (w2.alloc (.cells #[.int .i64 3, .int .i64 (ta : Int), .int .i64 (tl : Int), .string tn, .string tt, .slice TA tal.length tc, .bool ts] 29)).cell? ⟨w2.heap.size, 3, none⟩ = some (.string tn) := L3.out.1 3
                  have hcl : ∀ W, Below (w2.alloc (.cells #[.int .i64 3, .int .i64 (ta : Int), .int .i64 (tl : Int), .string tn, .string tt, .slice TA tal.length tc, .bool ts] 29)).heap.size (w2.alloc (.cells #[.int .i64 3, .int .i64 (ta : Int), .int .i64 (tl : Int), .string tn, .string tt, .slice TA tal.length tc, .bool ts] 29)) W → Calls Tryz.prog 142 #[.slice A0 (opensOf z.up).length c0, .string tn] W fun e w' => e = .returned (.int .i64 ((cutOf (nameIs tn) (opensOf z.up) : Nat) - 1)) ∧ Below (w2.alloc (.cells #[.int .i64 3, .int .i64 (ta : Int), .int .i64 (tl : Int), .string tn, .string tt, .slice TA tal.length tc, .bool ts] 29)).heap.size (w2.alloc (.cells #[.int .i64 3, .int .i64 (ta : Int), .int .i64 (tl : Int), .string tn, .string tt, .slice TA tal.length tc, .bool ts] 29)) w' := fun W hW =>
                    (l05Close_any (opensOf z.up) tn W A0 c0 b1 0 (ho.next hW)).mono fun e w' ⟨h1, h2⟩ => ⟨h1, hW.trans (h2.mono hW.size)⟩
                  have hle : cutOf (nameIs tn) (opensOf z.up) ≤ z.up.length := by have := cutOf_le (nameIs tn) (opensOf z.up); rwa [opensOf_len] at this
                  unfold Zi.close at HRC
                  rw [opensOf_len] at hcl
                  generalize cutOf (nameIs tn) (opensOf z.up) = J at hcl hle HRC
                  clear hkey HRN HSO HAT p0 HSV hk1 hk4 hk2 ho
                  cases J with
                  | zero =>
                    have HRZ := Lib.hid HRC.out
                    rw [if_neg (Nat.lt_irrefl 0)] at HRZ
                    have HCL := Lib.hid (fun W hW => (hcl W hW).mono fun e w' (h : _ ∧ _) => (⟨h.1.trans (by rfl), h.2⟩ : e = .returned (.int .i64 (-1)) ∧ _))
                    clear hcl hle HRC hnn hnt
                    go_wp2_with fail
                    go_region_held3 (fun w' => w'.cell? ⟨w.heap.size + 1, 0, none⟩ = some (.slice A0 z.up.length c0) ∧ w'.cell? ⟨w2.heap.size, 3, none⟩ = some (.string tn)) (first | exact And.intro q0 q3 | exact And.intro y0 y3 | go_keep) (first | (go_at_call 142; refine (HCL.out _ (by first | exact Below.refl _ _ | exact (Below.refl _ _).drew)).mono ?_; rintro e w4 ⟨rfl, hO⟩; have y0 := (hO.cell (p := ⟨w.heap.size + 1, 0, none⟩) (by simp; omega)).trans q0; have y3 := (hO.cell (p := ⟨w2.heap.size, 3, none⟩) (by simp)).trans q3; have HO := Lib.hid hO; clear hO))
                    go_wp2_with fail
                    go_roundw
                    case rel => exact ⟨a + tl, by go_num, hnl.2, Lib.hid (SpRel.pop HRZ.out S3.out B3.out (BSOut.refl S3.out HO.out))⟩
                    case measure => (simp [intOf] <;> omega)
                  | succ j =>
                    have HRZ := Lib.hid HRC.out
                    rw [if_pos (Nat.succ_pos j), Nat.add_sub_cancel] at HRZ
                    have HCL := Lib.hid (fun W hW => (hcl W hW).mono fun e w' (h : _ ∧ _) => (⟨h.1.trans (by rw [show ((j + 1 : Nat) : Int) - 1 = (j : Int) by omega]), h.2⟩ : e = .returned (.int .i64 (j : Int)) ∧ _))
                    clear hcl HRC
                    go_wp2_with fail
                    go_region_held3 (fun w' => w'.cell? ⟨w.heap.size + 1, 0, none⟩ = some (.slice A0 z.up.length c0) ∧ w'.cell? ⟨w2.heap.size, 3, none⟩ = some (.string tn)) (first | exact And.intro q0 q3 | exact And.intro y0 y3 | go_keep) (first | (go_at_call 142; refine (HCL.out _ (by first | exact Below.refl _ _ | exact (Below.refl _ _).drew)).mono ?_; rintro e w4 ⟨rfl, hO⟩; have y0 := (hO.cell (p := ⟨w.heap.size + 1, 0, none⟩) (by simp; omega)).trans q0; have y3 := (hO.cell (p := ⟨w2.heap.size, 3, none⟩) (by simp)).trans q3; have HO := Lib.hid hO; clear hO))
                    have S4 := Lib.hid (S3.out.next HO.out)
                    have B4 := Lib.hid (B3.out.trans (HO.out.mono B3.out.size))
                    go_wp2_with (first
                      | (go_at_call 139; refine (pop_any w.heap.size (w.heap.size + 1) j z sv nv nvs bl _ S4.out (by omega)).mono ?_; rintro e w5 ⟨rfl, hO⟩; have HO := Lib.hid hO; clear hO))
                    go_roundw
                    case rel => exact ⟨a + tl, by go_num, hnl.2, Lib.hid (SpRel.pop HRZ.out S4.out B4.out HO.out)⟩
                    case measure => (simp [intOf] <;> omega)
                · have hkey : z.take ⟨tk, ta, tl, tn, tt, tal, ts⟩ = .ok z := by unfold Zi.take; rw [if_neg hk1, if_neg hk4, if_neg hk2, if_neg hk3]
                  have HRC := Lib.hid (HRN.out _ hkey)
                  have g1 : (tk == 1) = false := by simpa using hk1
                  have g2 : (tk == 2) = false := by simpa using hk2
                  have g3 : (tk == 3) = false := by simpa using hk3
                  have g4 : (tk == 4) = false := by simpa using hk4
                  clear hkey HRN HSO HAT p0 HSV
                  go_wp2_with fail
                  go_roundw
                  case rel => exact ⟨a + tl, by go_num, hnl.2, Lib.hid (SpRel.pop HRC.out S3.out B3.out (BSOut.refl S3.out (Below.refl _ _)))⟩
                  case measure => (simp [intOf] <;> omega)
      · obtain rfl : a = s.size := by omega
        have HF : Hid (builtOf s = (z.done, 0)) := Lib.hid (by have := HRUN.out; rw [Nat.sub_self, runZ_end s 0 _ z (Nat.le_refl _)] at this; exact this.symm)
        have hl0 := Zi.to_len z 0 (Nat.zero_le _)
        clear hS hB HRUN
        go_wp2_with (go_at_call 139; refine (pop_any w.heap.size (w.heap.size + 1) 0 z sv nv nvs bl _ HS.out (Nat.zero_le _)).mono ?_; rintro e w2 ⟨rfl, hb2, sv2, nv2, nvs2, bl2, hS2, _⟩; obtain ⟨gn, cap, v, bF, rest, hnv, hcell, hG, _⟩ := hS2.kids; have q1 : w2.cell? ⟨w.heap.size + 1, 1, none⟩ = some nv2 := hS2.lay.1 1; rw [hnv, hl0] at q1; have q5 := hcell.1; rw [hl0] at q5; have HGR := Lib.hid hG; have HB2 := Lib.hid (HB.out.trans (hb2.below (fun q hq => (HS.out.lt q hq).1) HB.out.size)); clear hb2 hS2 hcell hG hnv)
        go_ret2
        rw [HF.out]
        exact ⟨v, bF, rfl, HGR.out, HB2.out⟩
    · have h0 : (c == 0) = false := by simpa using hc
      have h1 : (c != 0) = true := by simpa using hc
      have HBO := Lib.hid hbo
      have HB := Lib.hid hB
      clear HH hbo hB hc
      by_cases hlt : a < s.size
      · go_wp2
        go_region_held3 (fun w' => w'.cell? ⟨w.heap.size + 1, 3, none⟩ = some (.int .i64 c)) (first | exact h3 | go_keep) (fail)
        go_wp2
        go_ret2
        rw [HBO.out]
        exact ⟨_, [], rfl, GRow.lit HB.out.size, (HB.out.alloc HB.out.size _).drew⟩
      · go_wp2
        go_region_held3 (fun w' => w'.cell? ⟨w.heap.size + 1, 3, none⟩ = some (.int .i64 c)) (first | exact h3 | go_keep) (fail)
        go_wp2
        go_ret2
        rw [HBO.out]
        exact ⟨_, [], rfl, GRow.lit HB.out.size, (HB.out.alloc HB.out.size _).drew⟩
end Go.Proofs.YtpennadfomnenaaGreatDoor
