
import Derived.Test.YtbcbmgeoaejlmaaTo
import Derived.Deep.RegionWith
import Derived.Deep.Draws
namespace Go.Proofs.Ytbcbmgeoaejlmaa
open Go.ChangeShapes Go.WideShapes Go.ChangeAt Go.RowKit Go.Deep

theorem eqAttr_same (x : ByteArray × ByteArray) (w : World) :
    Calls Try.prog 165 #[.agg #[.string x.1, .string x.2], .agg #[.string x.1, .string x.2]] w fun e w' => e = .returned (.bool true) ∧ Below w.heap.size w w' := by
  obtain ⟨n, v⟩ := x
  go_enter Try.func165, Try.ntmps165
  go_wp2
  go_ret
  exact ⟨rfl, by go_grown⟩

theorem eqAttrS_same (al : List (ByteArray × ByteArray)) (w : World) (A A' : Option Addr) (c c' b b' o o' lo hi lo' hi' : Nat) (hA : RowAt lo hi A al.length b o) (hA' : RowAt lo' hi' A' al.length b' o') (hh : hi ≤ w.heap.size) (hh' : hi' ≤ w.heap.size)
    (hal : AsAt w b o al) (hal' : AsAt w b' o' al) :
    Calls Try.prog 116 #[.slice A al.length c, .slice A' al.length c'] w fun e w' => e = .returned (.bool true) ∧ Below w.heap.size w w' := by
  have hlen := hA.1
  unfold maxLen at hlen
  have HA := Lib.hid hA
  have HS := Lib.hid hal
  have HA' := Lib.hid hA'
  have HS' := Lib.hid hal'
  clear hA hal hA' hal'
  go_enter Try.func116, Try.ntmps116
  go_wp2
  go_loopw [5] (fun i wr => ∃ (k : Nat) (suf : List (ByteArray × ByteArray)), i = .int .i64 (k : Int) ∧ k + suf.length = al.length ∧ Hid (AsAt w b (o + k * 2) suf ∧ AsAt w b' (o' + k * 2) suf ∧ Below w.heap.size w wr)) (fun i wr => al.length - (intOf i).toNat)
  case atStart => exact ⟨0, al, rfl, by omega, Lib.hid ⟨by simpa using HS.out, by simpa using HS'.out, Below.refl _ _⟩⟩
  case round =>
    obtain ⟨k, suf, rfl, hk, HH⟩ := hrel
    cases suf with
    | nil =>
      have hkl : k = al.length := by simpa using hk
      clear hk
      subst hkl
      go_wp2
      go_ret
      exact ⟨rfl, HH.out.2.2⟩
    | cons x r =>
      obtain ⟨⟨s1, s2, s3, s4, s5⟩, ⟨s1', s2', _, _, s5'⟩, hB⟩ := HH.out
      obtain ⟨rfl, hlo, hhi⟩ := HA.out.2 (by simp at hk; omega)
      obtain ⟨rfl, hlo', hhi'⟩ := HA'.out.2 (by simp at hk; omega)
      have t1 := (hB.cell (p := ⟨b, o + k * 2, none⟩) (by show b < _; omega)).trans s1
      have t2 := (hB.cell (p := ⟨b, o + k * 2 + 1, none⟩) (by show b < _; omega)).trans s2
      have t1' := (hB.cell (p := ⟨b', o' + k * 2, none⟩) (by show b' < _; omega)).trans s1'
      have t2' := (hB.cell (p := ⟨b', o' + k * 2 + 1, none⟩) (by show b' < _; omega)).trans s2'
      have H5 := Lib.hid s5
      have H5' := Lib.hid s5'
      have HB := Lib.hid hB
      simp at hk
      clear HH s1 s2 s5 s1' s2' s5' hB
      go_wp2
      go_region_with (go_at_call 165; go_loud (refine (eqAttr_same x _).mono ?_; rintro e w' ⟨rfl, hB'⟩; have HB' := Lib.hid hB'; clear hB'))
      all_goals (
        go_wp2
        go_roundw
        case rel => exact ⟨k + 1, r, by go_num, by omega, Lib.hid ⟨by rw [show o + (k + 1) * 2 = o + k * 2 + 2 by omega]; exact H5.out, by rw [show o' + (k + 1) * 2 = o' + k * 2 + 2 by omega]; exact H5'.out, HB.out.drew.trans (HB'.out.mono HB.out.size)⟩⟩
        case measure => simp [intOf]; omega)

def EqOK (F : Fo) : Prop := ∀ (w : World) (A A' : Option Addr) (c c' b b' o o' lo hi lo' hi' : Nat), RowAt lo hi A F.len b o → RowAt lo' hi' A' F.len b' o' → hi ≤ w.heap.size → hi' ≤ w.heap.size → FoAt w lo hi b o F → FoAt w lo' hi' b' o' F →
    Calls Try.prog 32 #[.slice A F.len c, .slice A' F.len c'] w fun e w' => e = .returned (.bool true) ∧ Below w.heap.size w w'

theorem two_lay {w w' : World} {c1 c2 : Array Value} {t1 t2 : TypeId} (h : Below (w.heap.size + 1 + 1) ((w.alloc (.cells c1 t1)).alloc (.cells c2 t2)) w') :
    Lay w' w.heap.size c1 ∧ Lay w' (w.heap.size + 1) c2 ∧ Below w.heap.size w w' := by
  have s1 : (w.alloc (.cells c1 t1)).heap.size = w.heap.size + 1 := by simp
  have l1 := Lay.new w c1 t1
  have l2 := Lay.new (w.alloc (.cells c1 t1)) c2 t2
  rw [s1] at l2
  exact ⟨(l1.alloc (by omega) _).below h (by omega), l2.below h (by omega), Below.trans (by go_grown) (h.mono (by omega))⟩

theorem eqNode_same (k sp : Int) (n t : ByteArray) (al : List (ByteArray × ByteArray)) (kids : Fo) (ih : EqOK kids) (w : World) (A K A' K' : Option Addr) (c kc c' kc' b o kb ko b' o' kb' ko' lo hi lo' hi' : Nat)
    (hA : RowAt lo hi A al.length b o) (hal : AsAt w b o al) (hK : RowAt lo hi K kids.len kb ko) (hk : FoAt w lo hi kb ko kids) (hh : hi ≤ w.heap.size)
    (hA' : RowAt lo' hi' A' al.length b' o') (hal' : AsAt w b' o' al) (hK' : RowAt lo' hi' K' kids.len kb' ko') (hk' : FoAt w lo' hi' kb' ko' kids) (hh' : hi' ≤ w.heap.size) :
    Calls Try.prog 57 #[.agg #[.int .i64 k, .int .i64 sp, .string n, .string t, .slice A al.length c, .slice K kids.len kc], .agg #[.int .i64 k, .int .i64 sp, .string n, .string t, .slice A' al.length c', .slice K' kids.len kc']] w fun e w' =>
      e = .returned (.bool true) ∧ Below w.heap.size w w' := by
  have HA := Lib.hid hA
  have HN := Lib.hid hal
  have HF := Lib.hid hk
  have HI := Lib.hid ih
  have HK := Lib.hid hK
  have HA' := Lib.hid hA'
  have HN' := Lib.hid hal'
  have HF' := Lib.hid hk'
  have HK' := Lib.hid hK'
  clear hal ih hk hA hK hal' hk' hA' hK'
  go_enter Try.func57, Try.ntmps57
  go_wp2_with (first
    | (go_at_call 116; go_loud (refine (eqAttrS_same al _ A A' c c' b b' o o' lo hi lo' hi' HA.out HA'.out ?a1 ?a2 ?a3 ?a4).mono ?a5; (case a1 => (simp; omega)); (case a2 => (simp; omega)); (case a3 => exact al_below HA.out HN.out (by go_grown) hh); (case a4 => exact al_below HA'.out HN'.out (by go_grown) hh'); rintro e w1 ⟨rfl, hB'⟩; simp only [World.size_alloc] at hB'; obtain ⟨L1, L2, B3⟩ := two_lay hB'; have r5 := L1.1 5; have r5' := L2.1 5; have KB := Lib.hid B3; simp at r5 r5'; clear L1 L2 B3 hB'))
    | (go_at_call 32; go_loud (refine (HI.out _ K K' kc kc' kb kb' ko ko' lo hi lo' hi' HK.out HK'.out (Nat.le_trans hh KB.out.size) (Nat.le_trans hh' KB.out.size) (FoAt.below HK.out HF.out KB.out hh) (FoAt.below HK'.out HF'.out KB.out hh')).mono ?_; rintro e w2 ⟨rfl, hB2⟩; have KB2 := Lib.hid hB2; clear hB2)))
  go_ret
  exact ⟨rfl, KB.out.trans (KB2.out.mono KB.out.size)⟩

theorem eqNodeS_lt : ∀ (N : Nat) (F : Fo), F.nodes < N → EqOK F := by
  intro N
  induction N with
  | zero => intro F hF; omega
  | succ N IH =>
  intro F hF w A A' c c' b b' o o' lo hi lo' hi' hA hA' hh hh' hFo hFo'
  have hlen := hA.1
  unfold maxLen at hlen
  have HA := Lib.hid hA
  have HS := Lib.hid hFo
  have HA' := Lib.hid hA'
  have HS' := Lib.hid hFo'
  have HF := Lib.hid hF
  have HI := Lib.hid IH
  clear hA hFo hF IH hA' hFo'
  go_enter Try.func32, Try.ntmps32
  go_wp2
  go_loopw [5] (fun i wr => ∃ (k : Nat) (suf : Fo), i = .int .i64 (k : Int) ∧ k + suf.len = F.len ∧
    Hid (FoAt w lo hi b (o + k * 6) suf ∧ FoAt w lo' hi' b' (o' + k * 6) suf ∧ Below w.heap.size w wr ∧ suf.nodes < N + 1)) (fun i wr => F.len - (intOf i).toNat)
  case atStart => exact ⟨0, F, rfl, by omega, Lib.hid ⟨by simpa using HS.out, by simpa using HS'.out, Below.refl _ _, HF.out⟩⟩
  case round =>
    obtain ⟨k, suf, rfl, hk, HH⟩ := hrel
    cases suf with
    | nil =>
      have hkl : k = F.len := by simpa [Fo.len] using hk
      clear hk
      subst hkl
      go_wp2
      go_ret
      exact ⟨rfl, HH.out.2.2.1⟩
    | cons xk xs xn xt xa kids r =>
      have hkl : k < F.len := by simp [Fo.len] at hk; omega
      obtain ⟨⟨⟨s0, s1, s2, s3, z2, z3⟩, ⟨A4, c4, b4, o4, s4, r4, a4⟩, ⟨A5, c5, b5, o5, s5, r5, a5⟩, sr⟩, ⟨⟨s0', s1', s2', s3', _, _⟩, ⟨A4', c4', b4', o4', s4', r4', a4'⟩, ⟨A5', c5', b5', o5', s5', r5', a5'⟩, sr'⟩, hB, hnd⟩ := HH.out
      replace r4 := r4.2
      replace r5 := r5.2
      replace r4' := r4'.2
      replace r5' := r5'.2
      obtain ⟨rfl, hlo, hhi⟩ := HA.out.2 (by omega)
      obtain ⟨rfl, hlo', hhi'⟩ := HA'.out.2 (by omega)
      have hb : b < w.heap.size := by omega
      have hb' : b' < w.heap.size := by omega
      have t0 := (hB.cell (p := ⟨b, _, none⟩) hb).trans s0
      have t1 := (hB.cell (p := ⟨b, _, none⟩) hb).trans s1
      have t2 := (hB.cell (p := ⟨b, _, none⟩) hb).trans s2
      have t3 := (hB.cell (p := ⟨b, _, none⟩) hb).trans s3
      have t4 := (hB.cell (p := ⟨b, _, none⟩) hb).trans s4
      have t5 := (hB.cell (p := ⟨b, _, none⟩) hb).trans s5
      have t0' := (hB.cell (p := ⟨b', _, none⟩) hb').trans s0'
      have t1' := (hB.cell (p := ⟨b', _, none⟩) hb').trans s1'
      have t2' := (hB.cell (p := ⟨b', _, none⟩) hb').trans s2'
      have t3' := (hB.cell (p := ⟨b', _, none⟩) hb').trans s3'
      have t4' := (hB.cell (p := ⟨b', _, none⟩) hb').trans s4'
      have t5' := (hB.cell (p := ⟨b', _, none⟩) hb').trans s5'
      have HR := Lib.hid sr
      have HR' := Lib.hid sr'
      have HB := Lib.hid hB
      have H4 := Lib.hid (And.intro a4 a4')
      have H5 := Lib.hid (And.intro a5 a5')
      have R4 := Lib.hid (And.intro r4 r4')
      have R5 := Lib.hid (And.intro r5 r5')
      have HND := Lib.hid hnd
      have HK := Lib.hid hk
      clear HH s0 s1 s2 s3 s4 s5 sr s0' s1' s2' s3' s4' s5' sr' hB hnd a4 a5 r4 r5 a4' a5' r4' r5' hk
      go_wp2
      go_region_with (go_at_call 57; go_loud (refine (eqNode_same xk xs xn xt xa kids (HI.out kids (by have := HND.out; simp [Fo.nodes] at this; omega)) _ A4 A5 A4' A5' c4 c5 c4' c5' b4 o4 b5 o5 b4' o4' b5' o5' lo hi lo' hi' R4.out.1 (al_below R4.out.1 H4.out.1 HB.out.drew hh) R5.out.1 (FoAt.below R5.out.1 H5.out.1 HB.out.drew hh) (Nat.le_trans hh HB.out.size) R4.out.2 (al_below R4.out.2 H4.out.2 HB.out.drew hh') R5.out.2 (FoAt.below R5.out.2 H5.out.2 HB.out.drew hh') (Nat.le_trans hh' HB.out.size)).mono ?_; rintro e w' ⟨rfl, hB'⟩; have HB' := Lib.hid hB'; clear hB'))
      all_goals (
        go_wp2
        go_roundw
        case rel => exact ⟨k + 1, r, by go_num, by have := HK.out; simp [Fo.len] at this; omega, Lib.hid ⟨by rw [show o + (k + 1) * 6 = o + k * 6 + 6 by omega]; exact HR.out, by rw [show o' + (k + 1) * 6 = o' + k * 6 + 6 by omega]; exact HR'.out, HB.out.drew.trans (HB'.out.mono HB.out.size), by have := HND.out; simp [Fo.nodes] at this; omega⟩⟩
        case measure => simp [intOf]; omega)

theorem eqNodeS_same (F : Fo) : EqOK F := eqNodeS_lt (F.nodes + 1) F (Nat.lt_succ_self _)
end Go.Proofs.Ytbcbmgeoaejlmaa
