import Derived.Test.YtocpmkpffhmlaaaSer6
namespace Go.Proofs.Ytocpmkpffhmlaaa
open Go.ChangeShapes Go.WideShapes Go.ChangeAt Go.RowKit Go.Deep

theorem as_E (v : Value) (w : World) : (Instr.typeAssert (.iface 77 v) 74 77 true).run Try.prog w = .ok (.tuple #[v, .bool true]) w := by kernel_rfl
theorem as_W (v : Value) (w : World) : (Instr.typeAssert (.iface 80 v) 74 80 true).run Try.prog w = .ok (.tuple #[v, .bool true]) w := by kernel_rfl
theorem as_R (v : Value) (w : World) : (Instr.typeAssert (.iface 82 v) 74 82 true).run Try.prog w = .ok (.tuple #[v, .bool true]) w := by kernel_rfl
theorem as_C (v : Value) (w : World) : (Instr.typeAssert (.iface 83 v) 74 83 true).run Try.prog w = .ok (.tuple #[v, .bool true]) w := by kernel_rfl
theorem as_WE (v : Value) (w : World) : (Instr.typeAssert (.iface 80 v) 74 77 true).run Try.prog w = .ok (.tuple #[.agg #[.pointer none], .bool false]) w := by kernel_rfl
theorem as_RE (v : Value) (w : World) : (Instr.typeAssert (.iface 82 v) 74 77 true).run Try.prog w = .ok (.tuple #[.agg #[.pointer none], .bool false]) w := by kernel_rfl
theorem as_RW (v : Value) (w : World) : (Instr.typeAssert (.iface 82 v) 74 80 true).run Try.prog w = .ok (.tuple #[.agg #[.string ⟨#[]⟩], .bool false]) w := by kernel_rfl
theorem as_CE (v : Value) (w : World) : (Instr.typeAssert (.iface 83 v) 74 77 true).run Try.prog w = .ok (.tuple #[.agg #[.pointer none], .bool false]) w := by kernel_rfl
theorem as_CW (v : Value) (w : World) : (Instr.typeAssert (.iface 83 v) 74 80 true).run Try.prog w = .ok (.tuple #[.agg #[.string ⟨#[]⟩], .bool false]) w := by kernel_rfl
theorem as_CR (v : Value) (w : World) : (Instr.typeAssert (.iface 83 v) 74 82 true).run Try.prog w = .ok (.tuple #[.agg #[.string ⟨#[]⟩], .bool false]) w := by kernel_rfl
theorem write1_at (bb : Nat) (l : List UInt8) (p : ByteArray) (w : World) (g : Nat) (hg : g = w.heap.size) (hI : BldF bb bb (Lib.byteCells l) w) (hlen : l.length + p.size ≤ 1048576 * 1024) (hBw : bb < w.heap.size) :
    Calls Try.prog 39 #[.pointer (some ⟨bb, 0, none⟩), .slice (some ⟨g, 0, none⟩) 1 1] (w.alloc (.cells #[.string p] 9)) (Wrote bb (l ++ flat [p]) w) := by
  subst hg
  exact writeNew_any bb l [p] w hI (by simp) (by have := baLen p; simp [flat]; omega) hBw
theorem write3_at (bb : Nat) (l : List UInt8) (p q r : ByteArray) (w : World) (g : Nat) (hg : g = w.heap.size) (hI : BldF bb bb (Lib.byteCells l) w) (hlen : l.length + p.size + q.size + r.size ≤ 1048576 * 1024) (hBw : bb < w.heap.size) :
    Calls Try.prog 39 #[.pointer (some ⟨bb, 0, none⟩), .slice (some ⟨g, 0, none⟩) 3 3] (w.alloc (.cells #[.string p, .string q, .string r] 9)) (Wrote bb (l ++ flat [p, q, r]) w) := by
  subst hg
  exact writeNew_any bb l [p, q, r] w hI (by simp) (by have := baLen p; have := baLen q; have := baLen r; simp [flat]; omega) hBw
theorem nodeText_elem {raw : Bool} {sp : Int} {n t : ByteArray} {al : List (ByteArray × ByteArray)} {kids : Fo} : nodeText raw 1 sp n t al kids = elemText sp n al kids := by
  rw [nodeText, if_neg (by decide), if_neg (by decide)]; rfl

set_option maxHeartbeats 1000000 in
set_option maxRecDepth 100000 in
theorem writeNodes_lt : ∀ (N : Nat) (F : Fo), F.nodes < N → WriteOK F := by
  intro N
  induction N with
  | zero => intro F hF; omega
  | succ N IH =>
  intro F hF content bb l w A c b o lo hi hnd hsm hks hz hI hh hbw hA hFo
  have hlen := hA.1
  unfold maxLen at hlen
  have HA := Lib.hid hA
  have HS := Lib.hid hFo
  have HF := Lib.hid hF
  have HII := Lib.hid hI
  have HI := Lib.hid IH
  have HM := Lib.hid (And.intro hsm hks)
  clear hA hFo hF IH hsm hks hI
  go_enter Try.func24, Try.ntmps24
  go_wp2
  go_loopw [13] (fun i wr => ∃ (k : Nat) (m : List UInt8) (suf : Fo), i = .int .i64 (k : Int) ∧ k + suf.len = F.len ∧ Hid (FoAt w lo hi b (o + k * 6) suf ∧ (BldF bb bb (Lib.byteCells m) wr ∧ Below bb w wr ∧ Kept bb w wr) ∧ suf.nodes < N + 1 ∧ suf.nodes ≤ 1048576 ∧ suf.sm ∧ suf.ks ∧ m.length + 8 * (suf.len + suf.size) ≤ 1048576 * 1024 ∧ m ++ suf.ser (content == 1) = l ++ F.ser (content == 1))) (fun i wr => F.len - (intOf i).toNat)
  case atStart => exact ⟨0, l, F, rfl, by omega, Lib.hid ⟨by simpa using HS.out, ⟨HII.out, Below.refl _ _, Lib.OthersKept.refl _ _ _⟩, HF.out, hnd, HM.out.1, HM.out.2, hz, rfl⟩⟩
  case round =>
    obtain ⟨k, m, suf, rfl, hk, HH⟩ := hrel
    cases suf with
    | nil =>
      have hkl : k = F.len := by simpa [Fo.len] using hk
      clear hk
      subst hkl
      go_wp2
      go_end0
      refine ⟨rfl, ?_⟩
      rw [show l ++ F.ser (content == 1) = m by have := HH.out.2.2.2.2.2.2.2; simpa [Fo.ser] using this.symm]
      exact HH.out.2.1
    | cons xk xs xn xt xa kids r =>
      obtain ⟨⟨⟨s0, s1, s2, s3, z2, z3⟩, ⟨A4, c4, b4, o4, s4, r4, a4⟩, ⟨A5, c5, b5, o5, s5, r5, a5⟩, sr⟩, ⟨hIr, hBr, hKr⟩, hT1, hT2, hT3, hT4, hT5, hT6⟩ := HH.out
      obtain ⟨rfl, hlo, hhi⟩ := HA.out.2 (by simp [Fo.len] at hk; omega)
      have hkl : k < F.len := by simp [Fo.len] at hk; omega
      have hb : b < bb := by omega
      have t0 := (hBr.cell (p := ⟨b, _, none⟩) hb).trans s0
      have t1 := (hBr.cell (p := ⟨b, _, none⟩) hb).trans s1
      have t2 := (hBr.cell (p := ⟨b, _, none⟩) hb).trans s2
      have t3 := (hBr.cell (p := ⟨b, _, none⟩) hb).trans s3
      have t4 := (hBr.cell (p := ⟨b, _, none⟩) hb).trans s4
      have t5 := (hBr.cell (p := ⟨b, _, none⟩) hb).trans s5
      have HX : Hid (NdAt wr lo hi b (o + k * 6) ⟨xk, xs, xn, xt, xa⟩) := Lib.hid ⟨⟨t0, t1, t2, t3, z2, z3⟩, A4, c4, b4, o4, t4, r4, a4.belowB r4.2 hBr hh⟩
      have HC := Lib.hid (And.intro (And.intro t0 (And.intro t1 (And.intro t2 (And.intro t3 (And.intro z2 z3))))) (And.intro t4 t5))
      have H4 := Lib.hid (And.intro r4 (a4.belowB r4.2 hBr hh))
      have H5 := Lib.hid (And.intro r5.2 (FoAt.below r5.2 a5 hBr hh))
      have HR := Lib.hid sr
      have IR := Lib.hid (And.intro hIr (And.intro hBr hKr))
      rw [ser_cons] at hT6
      have HT6 := Lib.hid hT6
      have hkn : kids.nodes ≤ 1048576 ∧ r.nodes ≤ 1048576 ∧ kids.nodes < N ∧ r.nodes < N + 1 := by simp [Fo.nodes] at hT2 hT1; omega
      have HSM := Lib.hid (And.intro hT3 hT4)
      have hxk := hT4.1
      simp only [Fo.len, Fo.size] at hT5
      have hkl1 : k + 1 + r.len = F.len := by simp [Fo.len] at hk; omega
      have hws : w.heap.size ≤ wr.heap.size := hBr.size
      have hbx := baLen xt
      clear HH s0 s1 s2 s3 s4 s5 sr hIr hBr hKr hT1 hT2 hT3 hT4 hT6 r4 a4 r5 a5 hk z2 z3 t0 t1 t2 t3 t4 t5
      have HK : Hid (∀ W, wr = W → Calls Try.prog 37 #[.pointer (some ⟨b, o + k * 6, none⟩), .int .i64 content] W fun e w' => e = .returned (kindV xk xt content b (o + k * 6)) ∧ W = w') := Lib.hid fun W e => by subst e; exact kindOf_any ⟨xk, xs, xn, xt, xa⟩ content b (o + k * 6) lo hi wr HX.out
      rcases hxk with rfl | rfl | rfl
      · have HV : Hid (kindV 1 xt content b (o + k * 6) = .iface 77 (.agg #[.pointer (some ⟨b, o + k * 6, none⟩)])) := Lib.hid rfl
        have hbw2 : b < wr.heap.size := by omega
        have B0 : Hid (Below bb wr (wr.alloc (.cells #[.pointer (some ⟨b, o + k * 6, none⟩)] 77))) := Lib.hid ((Below.refl bb wr).alloc (by omega) _)
        have HCW : Hid (∀ j, (wr.alloc (.cells #[.pointer (some ⟨b, o + k * 6, none⟩)] 77)).cell? ⟨b, j, none⟩ = wr.cell? ⟨b, j, none⟩) := Lib.hid fun j => B0.out.cell (p := ⟨b, j, none⟩) hb
        have A1 := as_E
        go_wp2_with (first
          | (go_at_call 37; refine (HK.out _ rfl).mono ?_; rintro e w' ⟨rfl, rfl⟩; rw [HV.out])
          | (go_at_call 38; refine (writeElement_any 1 xs xn xt xa kids (HI.out kids hkn.2.2.1) bb m b (o + k * 6) lo hi (wr.alloc (.cells #[.pointer (some ⟨b, o + k * 6, none⟩)] 77)) A4 A5 c4 c5 o4 b4 b5 o5 ⟨(HCW.out _).trans HC.out.1.1, (HCW.out _).trans HC.out.1.2.1, (HCW.out _).trans HC.out.1.2.2.1, (HCW.out _).trans HC.out.1.2.2.2.1, HC.out.1.2.2.2.2⟩ ((HCW.out _).trans HC.out.2.1) H4.out.1 (H4.out.2.belowB H4.out.1.2 B0.out hh) ((HCW.out _).trans HC.out.2.2) H5.out.1 (FoAt.below H5.out.1 H5.out.2 B0.out hh) hkn.1 HSM.out.1.2.2.1 HSM.out.2.2.1 HSM.out.1.2.1 (by omega) (Lib.IsBuilderF.alloc IR.out.1 _) hb hh (by simp; omega)).mono ?_; rintro e w2 ⟨rfl, hI2, hB2, hK2⟩; have I2 := Lib.hid (And.intro hI2 (And.intro (IR.out.2.1.trans (B0.out.trans hB2)) ((IR.out.2.2.trans ((Lib.OthersKept.refl _ _ wr).alloc _)).trans hK2))); clear hI2 hB2 hK2))
        go_roundw
        case rel => exact ⟨k + 1, m ++ elemText xs xn xa kids, r, by go_num, hkl1, Lib.hid ⟨by rw [show o + (k + 1) * 6 = o + k * 6 + 6 by omega]; exact HR.out, I2.out, hkn.2.2.2, hkn.2.1, HSM.out.1.2.2.2, HSM.out.2.2.2, by
          have h1 := tagText_len xn xa
          have h2 := ser_len (asIs xs xn) kids
          have h3 := baLen xn
          have : (elemText xs xn xa kids).length ≤ 8 * (1 + (xn.size + xt.size + (xa.length + asSize xa) + (kids.len + kids.size))) := by
            unfold elemText
            rw [List.length_append]
            split
            · simp only [endText, List.length_cons, List.length_append, List.length_nil]; omega
            · simp only [List.length_nil]; omega
          rw [List.length_append]; omega, by have := HT6.out; rw [nodeText_elem] at this; simpa using this⟩⟩
        case measure => simp [intOf]; omega
      · by_cases hc : content = 1
        · subst hc
          have HV : Hid (kindV 2 xt 1 b (o + k * 6) = .iface 82 (.agg #[.string xt])) := Lib.hid rfl
          have A1 := as_RE
          have A2 := as_RW
          have A3 := as_R
          go_wp2_with (first
            | (go_at_call 37; refine (HK.out _ rfl).mono ?_; rintro e w' ⟨rfl, rfl⟩; rw [HV.out])
            | (go_at_call 39; refine (write1_at bb m xt ((wr.alloc (.cells #[.string xt] 82))) _ (by simp) (Lib.IsBuilderF.alloc IR.out.1 _) (by first | omega | (show _ + 4 + _ + 3 ≤ _; omega)) (by simp; omega)).mono ?_; rintro e w2 ⟨rfl, hI2, hB2, hK2⟩; have I2 := Lib.hid (And.intro hI2 (And.intro ((IR.out.2.1.alloc (by omega) _).trans hB2) ((IR.out.2.2.trans ((Lib.OthersKept.refl _ _ wr).alloc _)).trans hK2))); clear hI2 hB2 hK2))
          go_roundw
          case rel => exact ⟨k + 1, m ++ flat [xt], r, by go_num, hkl1, Lib.hid ⟨by rw [show o + (k + 1) * 6 = o + k * 6 + 6 by omega]; exact HR.out, I2.out, hkn.2.2.2, hkn.2.1, HSM.out.1.2.2.2, HSM.out.2.2.2, by simp [flat]; omega, by have := HT6.out; rw [show nodeText ((1 : Int) == 1) 2 xs xn xt xa kids = flat [xt] by simp [nodeText, wordsText, flat]] at this; rw [List.append_assoc]; exact this⟩⟩
          case measure => simp [intOf]; omega
        · have hc' : (content == 1) = false := by simpa using hc
          have HV : Hid (kindV 2 xt content b (o + k * 6) = .iface 80 (.agg #[.string xt])) := Lib.hid (by simp [kindV, hc])
          have HC1 := Lib.hid hc'
          have A1 := as_WE
          have A2 := as_W
          have hesc := escT_le xt
          have HES := HSM.out.1.1
          have HE : Hid (∀ W, Calls Try.prog 40 #[.string xt] W fun e w' => e = .returned (.string ⟨(escL escT xt.data.toList).toArray⟩) ∧ Below W.heap.size W w') := Lib.hid fun W => by have := implEscapeText_any xt W; rw [escAns_small HES] at this; exact this
          clear hc hc' HES
          go_wp2_with (first
            | (go_at_call 37; refine (HK.out _ rfl).mono ?_; rintro e w' ⟨rfl, rfl⟩; rw [HV.out])
            | (go_at_call 40; refine (HE.out _).mono ?_; rintro e w1 ⟨rfl, hB1⟩; have I1 : Hid (BldF bb bb (Lib.byteCells m) w1 ∧ Below bb w w1 ∧ Kept bb w w1) := Lib.hid ⟨BldF.next (Lib.IsBuilderF.alloc IR.out.1 _) hB1, (IR.out.2.1.alloc (by omega) _).trans (hB1.mono (by simp; omega)), (IR.out.2.2.trans ((Lib.OthersKept.refl _ _ wr).alloc _)).trans (kept_of_below hB1)⟩; have hs1 : bb < w1.heap.size := Nat.lt_of_lt_of_le (by simp; omega) hB1.size; clear hB1)
            | (go_at_call 39; refine (write1_at bb m ⟨(escL escT xt.data.toList).toArray⟩ w1 _ rfl I1.out.1 (by rw [sizeL]; omega) hs1).mono ?_; rintro e w2 ⟨rfl, hI2, hB2, hK2⟩; have I2 := Lib.hid (And.intro hI2 (And.intro (I1.out.2.1.trans hB2) (I1.out.2.2.trans hK2))); clear hI2 hB2 hK2))
          go_roundw
          case rel => exact ⟨k + 1, m ++ flat [⟨(escL escT xt.data.toList).toArray⟩], r, by go_num, hkl1, Lib.hid ⟨by rw [show o + (k + 1) * 6 = o + k * 6 + 6 by omega]; exact HR.out, I2.out, hkn.2.2.2, hkn.2.1, HSM.out.1.2.2.2, HSM.out.2.2.2, by simp [flat]; omega, by have := HT6.out; rw [HC1.out] at this ⊢; rw [show nodeText false 2 xs xn xt xa kids = flat [⟨(escL escT xt.data.toList).toArray⟩] by simp [nodeText, wordsText, flat]] at this; rw [List.append_assoc]; exact this⟩⟩
          case measure => simp [intOf]; omega
      · have HV : Hid (kindV 3 xt content b (o + k * 6) = .iface 83 (.agg #[.string xt])) := Lib.hid rfl
        have A1 := as_CE
        have A2 := as_CW
        have A3 := as_CR
        have A4 := as_C
        go_wp2_with (first
          | (go_at_call 37; refine (HK.out _ rfl).mono ?_; rintro e w' ⟨rfl, rfl⟩; rw [HV.out])
          | (go_at_call 39; refine (write3_at bb m ⟨#[60, 33, 45, 45]⟩ xt ⟨#[45, 45, 62]⟩ ((wr.alloc (.cells #[.string xt] 83))) _ (by simp) (Lib.IsBuilderF.alloc IR.out.1 _) (by first | omega | (show _ + 4 + _ + 3 ≤ _; omega)) (by simp; omega)).mono ?_; rintro e w2 ⟨rfl, hI2, hB2, hK2⟩; have I2 := Lib.hid (And.intro hI2 (And.intro ((IR.out.2.1.alloc (by omega) _).trans hB2) ((IR.out.2.2.trans ((Lib.OthersKept.refl _ _ wr).alloc _)).trans hK2))); clear hI2 hB2 hK2))
        go_roundw
        case rel => exact ⟨k + 1, m ++ flat [⟨#[60, 33, 45, 45]⟩, xt, ⟨#[45, 45, 62]⟩], r, by go_num, hkl1, Lib.hid ⟨by rw [show o + (k + 1) * 6 = o + k * 6 + 6 by omega]; exact HR.out, I2.out, hkn.2.2.2, hkn.2.1, HSM.out.1.2.2.2, HSM.out.2.2.2, by simp [flat]; omega, by have := HT6.out; rw [show nodeText (content == 1) 3 xs xn xt xa kids = flat [⟨#[60, 33, 45, 45]⟩, xt, ⟨#[45, 45, 62]⟩] by simp [nodeText, noteText, flat]] at this; rw [List.append_assoc]; exact this⟩⟩
        case measure => simp [intOf]; omega
theorem writeNodes_any (F : Fo) : WriteOK F := writeNodes_lt (F.nodes + 1) F (Nat.lt_succ_self _)
end Go.Proofs.Ytocpmkpffhmlaaa
