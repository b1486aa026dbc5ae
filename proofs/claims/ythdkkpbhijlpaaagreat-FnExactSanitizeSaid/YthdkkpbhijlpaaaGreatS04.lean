import Derived.Deep.RegionWith
import Derived.Deep.Draws
import Derived.Deep.Strs
import Derived.Test.YthdkkpbhijlpaaaGreatS02
import Derived.Test.YthdkkpbhijlpaaaGreatS03
set_option linter.unusedVariables false
namespace Go.Proofs.YthdkkpbhijlpaaaGreat
open Go.ChangeShapes Go.WideShapes Go.ChangeAt Go.RowKit Go.Deep

theorem eqAttr_same (x : ByteArray × ByteArray) (w : World) :
    Calls Tryz.prog 148 #[.agg #[.string x.1, .string x.2], .agg #[.string x.1, .string x.2]] w fun e w' => e = .returned (.bool true) ∧ Below w.heap.size w w' := by
  obtain ⟨n, v⟩ := x
  go_enter Tryz.func148, Tryz.ntmps148
  go_wp2
  go_ret
  exact ⟨rfl, by go_grown⟩
theorem eqAttrS_same (al : List (ByteArray × ByteArray)) (w : World) (A A' : Option Addr) (c c' b b' o o' lo hi lo' hi' : Nat) (hA : RowAt lo hi A al.length b o) (hA' : RowAt lo' hi' A' al.length b' o') (hh : hi ≤ w.heap.size) (hh' : hi' ≤ w.heap.size)
    (hal : AsAt w b o al) (hal' : AsAt w b' o' al) :
    Calls Tryz.prog 91 #[.slice A al.length c, .slice A' al.length c'] w fun e w' => e = .returned (.bool true) ∧ Below w.heap.size w w' := by
  have hlen := hA.1
  unfold maxLen at hlen
  have HA := Lib.hid hA
  have HS := Lib.hid hal
  have HA' := Lib.hid hA'
  have HS' := Lib.hid hal'
  clear hA hal hA' hal'
  go_enter Tryz.func91, Tryz.ntmps91
  go_wp2
  go_loopw [5] (fun i wr => ∃ (k : Nat) (suf : List (ByteArray × ByteArray)), i = .int .i64 (k : Int) ∧ k + suf.length = al.length ∧ Hid (AsAt w b (o + k * 2) suf ∧ AsAt w b' (o' + k * 2) suf ∧ Below w.heap.size w wr)) (fun i wr => al.length - (intOf i).toNat)
  case atStart => exact ⟨0, al, rfl, by omega, Lib.hid ⟨by simpa using HS.out, by simpa using HS'.out, Below.refl _ _⟩⟩
  case round =>
    obtain ⟨k, suf, rfl, hk, HH⟩ := hrel
    cases suf with
    | nil =>
      have hkl : k = al.length := by simpa using hk
      clear hk
      subst hkl
      go_wp2
      go_ret
      exact ⟨rfl, HH.out.2.2⟩
    | cons x r =>
      obtain ⟨⟨s1, s2, s3, s4, s5⟩, ⟨s1', s2', _, _, s5'⟩, hB⟩ := HH.out
      obtain ⟨rfl, hlo, hhi⟩ := HA.out.2 (by simp at hk; omega)
      obtain ⟨rfl, hlo', hhi'⟩ := HA'.out.2 (by simp at hk; omega)
      have t1 := (hB.cell (p := ⟨b, o + k * 2, none⟩) (by show b < _; omega)).trans s1
      have t2 := (hB.cell (p := ⟨b, o + k * 2 + 1, none⟩) (by show b < _; omega)).trans s2
      have t1' := (hB.cell (p := ⟨b', o' + k * 2, none⟩) (by show b' < _; omega)).trans s1'
      have t2' := (hB.cell (p := ⟨b', o' + k * 2 + 1, none⟩) (by show b' < _; omega)).trans s2'
      have H5 := Lib.hid s5
      have H5' := Lib.hid s5'
      have HB := Lib.hid hB
      simp at hk
      clear HH s1 s2 s5 s1' s2' s5' hB
      go_wp2
      go_region_with (go_at_call 148; go_loud (refine (eqAttr_same x _).mono ?_; rintro e w' ⟨rfl, hB'⟩; have HB' := Lib.hid hB'; clear hB'))
      all_goals (
        go_wp2
        go_roundw
        case rel => exact ⟨k + 1, r, by go_num, by omega, Lib.hid ⟨by rw [show o + (k + 1) * 2 = o + k * 2 + 2 by omega]; exact H5.out, by rw [show o' + (k + 1) * 2 = o' + k * 2 + 2 by omega]; exact H5'.out, HB.out.drew.trans (HB'.out.mono HB.out.size)⟩⟩
        case measure => simp [intOf]; omega)
def EqOK (F : Fo) : Prop := ∀ (w : World) (A A' : Option Addr) (c c' b b' o o' lo hi lo' hi' : Nat), RowAt lo hi A F.len b o → RowAt lo' hi' A' F.len b' o' → hi ≤ w.heap.size → hi' ≤ w.heap.size → FoAt w lo hi b o F → FoAt w lo' hi' b' o' F →
    Calls Tryz.prog 14 #[.slice A F.len c, .slice A' F.len c'] w fun e w' => e = .returned (.bool true) ∧ Below w.heap.size w w'
theorem two_lay {w w' : World} {c1 c2 : Array Value} {t1 t2 : TypeId} (h : Below (w.heap.size + 1 + 1) ((w.alloc (.cells c1 t1)).alloc (.cells c2 t2)) w') :
    Lay w' w.heap.size c1 ∧ Lay w' (w.heap.size + 1) c2 ∧ Below w.heap.size w w' := by
  have s1 : (w.alloc (.cells c1 t1)).heap.size = w.heap.size + 1 := by simp
  have l1 := Lay.new w c1 t1
  have l2 := Lay.new (w.alloc (.cells c1 t1)) c2 t2
  rw [s1] at l2
  exact ⟨(l1.alloc (by omega) _).below h (by omega), l2.below h (by omega), Below.trans (by go_grown) (h.mono (by omega))⟩
theorem eqNode_same (k sp : Int) (n t : ByteArray) (al : List (ByteArray × ByteArray)) (kids : Fo) (ih : EqOK kids) (w : World) (A K A' K' : Option Addr) (c kc c' kc' b o kb ko b' o' kb' ko' lo hi lo' hi' : Nat)
    (hA : RowAt lo hi A al.length b o) (hal : AsAt w b o al) (hK : RowAt lo hi K kids.len kb ko) (hk : FoAt w lo hi kb ko kids) (hh : hi ≤ w.heap.size)
    (hA' : RowAt lo' hi' A' al.length b' o') (hal' : AsAt w b' o' al) (hK' : RowAt lo' hi' K' kids.len kb' ko') (hk' : FoAt w lo' hi' kb' ko' kids) (hh' : hi' ≤ w.heap.size) :
    Calls Tryz.prog 41 #[.agg #[.int .i64 k, .int .i64 sp, .string n, .string t, .slice A al.length c, .slice K kids.len kc], .agg #[.int .i64 k, .int .i64 sp, .string n, .string t, .slice A' al.length c', .slice K' kids.len kc']] w fun e w' =>
      e = .returned (.bool true) ∧ Below w.heap.size w w' := by
  have HA := Lib.hid hA
  have HN := Lib.hid hal
  have HF := Lib.hid hk
  have HI := Lib.hid ih
  have HK := Lib.hid hK
  have HA' := Lib.hid hA'
  have HN' := Lib.hid hal'
  have HF' := Lib.hid hk'
  have HK' := Lib.hid hK'
  clear hal ih hk hA hK hal' hk' hA' hK'
  go_enter Tryz.func41, Tryz.ntmps41
  go_wp2_with (first
    | (go_at_call 91; go_loud (refine (eqAttrS_same al _ A A' c c' b b' o o' lo hi lo' hi' HA.out HA'.out ?a1 ?a2 ?a3 ?a4).mono ?a5; (case a1 => (simp; omega)); (case a2 => (simp; omega)); (case a3 => exact al_below HA.out HN.out (by go_grown) hh); (case a4 => exact al_below HA'.out HN'.out (by go_grown) hh'); rintro e w1 ⟨rfl, hB'⟩; simp only [World.size_alloc] at hB'; obtain ⟨L1, L2, B3⟩ := two_lay hB'; have r5 := L1.1 5; have r5' := L2.1 5; have KB := Lib.hid B3; simp at r5 r5'; clear L1 L2 B3 hB'))
    | (go_at_call 14; go_loud (refine (HI.out _ K K' kc kc' kb kb' ko ko' lo hi lo' hi' HK.out HK'.out (Nat.le_trans hh KB.out.size) (Nat.le_trans hh' KB.out.size) (FoAt.below HK.out HF.out KB.out hh) (FoAt.below HK'.out HF'.out KB.out hh')).mono ?_; rintro e w2 ⟨rfl, hB2⟩; have KB2 := Lib.hid hB2; clear hB2)))
  go_ret
  exact ⟨rfl, KB.out.trans (KB2.out.mono KB.out.size)⟩
theorem eqNodeS_lt : ∀ (N : Nat) (F : Fo), F.nodes < N → EqOK F := by
  intro N
  induction N with
  | zero => intro F hF; omega
  | succ N IH =>
  intro F hF w A A' c c' b b' o o' lo hi lo' hi' hA hA' hh hh' hFo hFo'
  have hlen := hA.1
  unfold maxLen at hlen
  have HA := Lib.hid hA
  have HS := Lib.hid hFo
  have HA' := Lib.hid hA'
  have HS' := Lib.hid hFo'
  have HF := Lib.hid hF
  have HI := Lib.hid IH
  clear hA hFo hF IH hA' hFo'
  go_enter Tryz.func14, Tryz.ntmps14
  go_wp2
  go_loopw [5] (fun i wr => ∃ (k : Nat) (suf : Fo), i = .int .i64 (k : Int) ∧ k + suf.len = F.len ∧
    Hid (FoAt w lo hi b (o + k * 6) suf ∧ FoAt w lo' hi' b' (o' + k * 6) suf ∧ Below w.heap.size w wr ∧ suf.nodes < N + 1)) (fun i wr => F.len - (intOf i).toNat)
  case atStart => exact ⟨0, F, rfl, by omega, Lib.hid ⟨by simpa using HS.out, by simpa using HS'.out, Below.refl _ _, HF.out⟩⟩
  case round =>
    obtain ⟨k, suf, rfl, hk, HH⟩ := hrel
    cases suf with
    | nil =>
      have hkl : k = F.len := by simpa [Fo.len] using hk
      clear hk
      subst hkl
      go_wp2
      go_ret
      exact ⟨rfl, HH.out.2.2.1⟩
    | cons xk xs xn xt xa kids r =>
      have hkl : k < F.len := by simp [Fo.len] at hk; omega
      obtain ⟨⟨⟨s0, s1, s2, s3, z2, z3⟩, ⟨A4, c4, b4, o4, s4, r4, a4⟩, ⟨A5, c5, b5, o5, s5, r5, a5⟩, sr⟩, ⟨⟨s0', s1', s2', s3', _, _⟩, ⟨A4', c4', b4', o4', s4', r4', a4'⟩, ⟨A5', c5', b5', o5', s5', r5', a5'⟩, sr'⟩, hB, hnd⟩ := HH.out
      replace r4 := r4.2
      replace r5 := r5.2
      replace r4' := r4'.2
      replace r5' := r5'.2
      obtain ⟨rfl, hlo, hhi⟩ := HA.out.2 (by omega)
      obtain ⟨rfl, hlo', hhi'⟩ := HA'.out.2 (by omega)
      have hb : b < w.heap.size := by omega
      have hb' : b' < w.heap.size := by omega
      have t0 := (hB.cell (p := ⟨b, _, none⟩) hb).trans s0
      have t1 := (hB.cell (p := ⟨b, _, none⟩) hb).trans s1
      have t2 := (hB.cell (p := ⟨b, _, none⟩) hb).trans s2
      have t3 := (hB.cell (p := ⟨b, _, none⟩) hb).trans s3
      have t4 := (hB.cell (p := ⟨b, _, none⟩) hb).trans s4
      have t5 := (hB.cell (p := ⟨b, _, none⟩) hb).trans s5
      have t0' := (hB.cell (p := ⟨b', _, none⟩) hb').trans s0'
      have t1' := (hB.cell (p := ⟨b', _, none⟩) hb').trans s1'
      have t2' := (hB.cell (p := ⟨b', _, none⟩) hb').trans s2'
      have t3' := (hB.cell (p := ⟨b', _, none⟩) hb').trans s3'
      have t4' := (hB.cell (p := ⟨b', _, none⟩) hb').trans s4'
      have t5' := (hB.cell (p := ⟨b', _, none⟩) hb').trans s5'
      have HR := Lib.hid sr
      have HR' := Lib.hid sr'
      have HB := Lib.hid hB
      have H4 := Lib.hid (And.intro a4 a4')
      have H5 := Lib.hid (And.intro a5 a5')
      have R4 := Lib.hid (And.intro r4 r4')
      have R5 := Lib.hid (And.intro r5 r5')
      have HND := Lib.hid hnd
      have HK := Lib.hid hk
      clear HH s0 s1 s2 s3 s4 s5 sr s0' s1' s2' s3' s4' s5' sr' hB hnd a4 a5 r4 r5 a4' a5' r4' r5' hk
      go_wp2
      go_region_with (go_at_call 41; go_loud (refine (eqNode_same xk xs xn xt xa kids (HI.out kids (by have := HND.out; simp [Fo.nodes] at this; omega)) _ A4 A5 A4' A5' c4 c5 c4' c5' b4 o4 b5 o5 b4' o4' b5' o5' lo hi lo' hi' R4.out.1 (al_below R4.out.1 H4.out.1 HB.out.drew hh) R5.out.1 (FoAt.below R5.out.1 H5.out.1 HB.out.drew hh) (Nat.le_trans hh HB.out.size) R4.out.2 (al_below R4.out.2 H4.out.2 HB.out.drew hh') R5.out.2 (FoAt.below R5.out.2 H5.out.2 HB.out.drew hh') (Nat.le_trans hh' HB.out.size)).mono ?_; rintro e w' ⟨rfl, hB'⟩; have HB' := Lib.hid hB'; clear hB'))
      all_goals (
        go_wp2
        go_roundw
        case rel => exact ⟨k + 1, r, by go_num, by have := HK.out; simp [Fo.len] at this; omega, Lib.hid ⟨by rw [show o + (k + 1) * 6 = o + k * 6 + 6 by omega]; exact HR.out, by rw [show o' + (k + 1) * 6 = o' + k * 6 + 6 by omega]; exact HR'.out, HB.out.drew.trans (HB'.out.mono HB.out.size), by have := HND.out; simp [Fo.nodes] at this; omega⟩⟩
        case measure => simp [intOf]; omega)
theorem eqNodeS_same (F : Fo) : EqOK F := eqNodeS_lt (F.nodes + 1) F (Nat.lt_succ_self _)
end Go.Proofs.YthdkkpbhijlpaaaGreat
namespace Go.Proofs.YthdkkpbhijlpaaaGreat
open Go.ChangeShapes Go.WideShapes Go.ChangeAt Go.RowKit Go.Deep

theorem lay3 {w : World} {g : Nat} {v0 v1 v2 : Value} (h : Lay w g #[v0, v1, v2]) : w.cell? ⟨g, 0, none⟩ = some v0 ∧ w.cell? ⟨g, 1, none⟩ = some v1 ∧ w.cell? ⟨g, 2, none⟩ = some v2 := ⟨h.1 0, h.1 1, h.1 2⟩
theorem Lay.drew3 {w : World} {g : Nat} {cs : Array Value} (h : Lay w g cs) : Lay w.drew g cs := ⟨h.1, h.2⟩
/-- a rule: its space, its name, its attributes -/
abbrev Ru := Int × ByteArray × List ByteArray
/-- a rule's cells -/
def RuAt (w : World) (g o : Nat) (x : Ru) : Prop :=
  w.cell? ⟨g, o, none⟩ = some (.int .i64 x.1) ∧ w.cell? ⟨g, o + 1, none⟩ = some (.string x.2.1) ∧ x.2.1.size ≤ maxLen ∧ ∃ B c, w.cell? ⟨g, o + 2, none⟩ = some (.slice B x.2.2.length c) ∧ x.2.2.length ≤ c ∧ NmIn w B x.2.2
theorem RuAt.next {w w' : World} {g o : Nat} {x : Ru} (h : RuAt w g o x) (hB : Below w.heap.size w w') : RuAt w' g o x := by
  obtain ⟨h1, h2, h3, B, c, h4, hc, h5⟩ := h
  have hg : g < w.heap.size := World.block_lt_of_cell? w _ h1
  exact ⟨(hB.cell (p := ⟨g, o, none⟩) hg).trans h1, (hB.cell (p := ⟨g, o + 1, none⟩) hg).trans h2, h3, B, c, (hB.cell (p := ⟨g, o + 2, none⟩) hg).trans h4, hc, h5.next hB⟩
/-- rules that stand somewhere -/
def RuIn (w : World) (A : Option Addr) (l : List Ru) : Prop :=
  l.length ≤ maxLen ∧ (l = [] ∨ ∃ g o, A = some ⟨g, o, none⟩ ∧ ∀ k (h : k < l.length), RuAt w g (o + k * 3) l[k])
theorem RuIn.next {w w' : World} {A : Option Addr} {l : List Ru} (h : RuIn w A l) (hB : Below w.heap.size w w') : RuIn w' A l := by
  refine ⟨h.1, ?_⟩
  rcases h.2 with h | ⟨g, o, e, h⟩
  · exact Or.inl h
  · exact Or.inr ⟨g, o, e, fun k hk => (h k hk).next hB⟩
theorem RuIn.drew {w : World} {A : Option Addr} {l : List Ru} (h : RuIn w A l) : RuIn w.drew A l := h.next (Below.refl _ _).drew
theorem RuIn.nil (w : World) (A : Option Addr) : RuIn w A [] := ⟨Nat.zero_le _, Or.inl rfl⟩
/-- .. the k-th -/
theorem RuIn.get {w : World} {A : Option Addr} {l : List Ru} (h : RuIn w A l) {k : Nat} (hk : k < l.length) : ∃ g o, A = some ⟨g, o, none⟩ ∧ g < w.heap.size ∧ RuAt w g (o + k * 3) l[k] := by
  rcases h.2 with h | ⟨g, o, e, h⟩
  · subst h; exact absurd hk (Nat.not_lt_zero _)
  · exact ⟨g, o, e, World.block_lt_of_cell? w _ (h k hk).1, h k hk⟩
def ruSize (x : Ru) : Nat := x.2.1.size + (x.2.2.length + nmSize x.2.2)
def rusSize : List Ru → Nat
  | [] => 0
  | x :: r => ruSize x + rusSize r
theorem rusSize_take {l : List Ru} {k : Nat} (hk : k < l.length) : rusSize (l.take (k + 1)) = rusSize (l.take k) + ruSize l[k] := by
  induction l generalizing k with
  | nil => exact absurd hk (Nat.not_lt_zero _)
  | cons x r ih =>
    cases k with
    | zero => simp [rusSize]
    | succ k => simp only [List.take_succ_cons, rusSize, List.getElem_cons_succ]; rw [ih (by simpa using hk)]; omega
theorem rusSize_le (l : List Ru) (k : Nat) : rusSize (l.take k) ≤ rusSize l := by
  induction l generalizing k with
  | nil => simp [rusSize]
  | cons x r ih =>
    cases k with
    | zero => simp [rusSize]
    | succ k => simp only [List.take_succ_cons, rusSize]; have := ih k; omega
theorem szRule_any (sp : Int) (n : ByteArray) (al : List ByteArray) (m : Nat) (w : World) (A : Option Addr) (c : Nat) (hm : m ≤ 1048576) (hn : n.size ≤ maxLen) (h : NmIn w A al) :
    Calls Tryz.prog 69 #[.agg #[.int .i64 sp, .string n, .slice A al.length c], .int .i64 (m : Int)] w fun e w' => e = .returned (.int .i64 (left m (ruSize (sp, n, al)))) ∧ Below w.heap.size w w' := by
  have hg := (Below.refl w.heap.size w).alloc (Nat.le_refl _) (.cells #[.int .i64 sp, .string n, .slice A al.length c] 103)
  have HN := Lib.hid (h.next hg)
  have HG := Lib.hid hg
  clear h hg
  unfold maxLen at hn
  unfold ruSize
  simp only
  by_cases c1 : n.size ≤ m
  · by_cases c3 : al.length + nmSize al ≤ m - n.size
    · have HL3 := Lib.hid (left_le c3)
      have HM := Lib.hid (left_le (l := m) (n := n.size + (al.length + nmSize al)) (by omega))
      have hnn : 0 ≤ ((m - n.size : Nat) : Int) - ((al.length + nmSize al : Nat) : Int) := by omega
      go_enter Tryz.func69, Tryz.ntmps69
      go_wp2_with (go_at_call 32; rw [show (m : Int) - (n.size : Int) = ((m - n.size : Nat) : Int) by omega]; go_loud (refine (szStringS_any al (m - n.size) _ A c (by omega) HN.out).mono ?_; rintro e w' ⟨rfl, rfl⟩; rw [HL3.out]))
      go_ret
      exact ⟨by rw [HM.out]; go_num, HG.out⟩
    · have HL3 := Lib.hid (left_gt c3)
      have HM := Lib.hid (left_gt (l := m) (n := n.size + (al.length + nmSize al)) (by omega))
      go_enter Tryz.func69, Tryz.ntmps69
      go_wp2_with (go_at_call 32; rw [show (m : Int) - (n.size : Int) = ((m - n.size : Nat) : Int) by omega]; go_loud (refine (szStringS_any al (m - n.size) _ A c (by omega) HN.out).mono ?_; rintro e w' ⟨rfl, rfl⟩; rw [HL3.out]))
      go_ret
      exact ⟨by rw [HM.out]; rfl, HG.out⟩
  · have HM := Lib.hid (left_gt (l := m) (n := n.size + (al.length + nmSize al)) (by omega))
    go_enter Tryz.func69, Tryz.ntmps69
    go_wp2
    go_ret
    exact ⟨by rw [HM.out]; rfl, HG.out⟩
/-- a rule that is handed back from a variable -/
theorem ret_rule {fn : Func} {p : Tmp} {R : Ending → World → Prop} {a : Act} {W : World} {g : Nat} {v0 v1 v2 : Value} (hres : fn.results = #[.cell p 106])
    (hL : Lay W g #[v0, v1, v2]) (hp : a.tmps.getD p undef = .pointer (some ⟨g, 0, none⟩)) (hd : a.defers = []) (hR : R (.returned (.agg #[v0, v1, v2])) W) : bodyPost Tryz.prog fn R .ret a W := by
  refine bodyPost_ret (v := .agg #[v0, v1, v2]) ?_ hd hR
  have hp' : a.tmps[p]?.getD undef = .pointer (some ⟨g, 0, none⟩) := by simpa using hp
  have h0 := hL.1
  simp [results, hres, hp', go_sem, h0]
theorem toRule_any (sp : Int) (n : ByteArray) (al : List ByteArray) (w : World) (A : Option Addr) (c : Nat) (hll : al.length ≤ 1048576) (_ : n.size ≤ maxLen) (h : NmIn w A al) :
    Calls Tryz.prog 74 #[.agg #[.int .i64 sp, .string n, .slice A al.length c]] w fun e w' =>
      ∃ g, e = .returned (.agg #[.int .i64 sp, .string n, .slice (some ⟨g, 0, none⟩) al.length al.length]) ∧ Below w.heap.size w w' ∧ w.heap.size ≤ g ∧ NmIn w' (some ⟨g, 0, none⟩) al := by
  have HA := Lib.hid h
  clear h
  go_enter Tryz.func74, Tryz.ntmps74
  go_wp2_with (go_at_call 37; go_loud (refine (toStringS_any al _ A c hll ?a1).mono ?a3; (case a1 => exact HA.out.next (by go_grown)); rintro e w' ⟨rfl, hB', hat⟩; simp only [World.size_alloc] at hB' hat ⊢; obtain ⟨L1, L2, L3, B3⟩ := three_lay hB'; have r2 := L1.1 2; have e0 := L3.1 0; have e1 := L3.1 1; have e2 := L3.1 2; have f2 := L3.2 2; have n0 := L2.1; have n1 := L2.2; have KB := Lib.hid B3; have KA := Lib.hid hat; clear L1 L2 L3 B3 hat hB'; simp at r2 e0 e1 e2))
  (try simp only [Exit.inBlock, Exit.then])
  have M2 : Lay w' (w.heap.size + 1) _ := ⟨n0, n1⟩
  have M3 := (((M2.setOther (g' := w.heap.size + 1 + 1) (by omega) 2 (.slice (some ⟨w.heap.size + 1 + 1 + 1, 0, none⟩) al.length al.length)).set 0 (.int .i64 sp)).set 1 (.string n)).set 2 (.slice (some ⟨w.heap.size + 1 + 1 + 1, 0, none⟩) al.length al.length)
  refine ret_rule rfl M3 rfl rfl ⟨_, rfl, ?_, ?_, ?_⟩
  · refine Below.trans (b := w') KB.out ?_
    go_grown
  · omega
  · refine KA.out.carry fun g o hg _ j _ => ?_
    obtain ⟨rfl, _⟩ := addr_inj hg
    have p1 : w.heap.size + 1 ≠ w.heap.size + 1 + 1 + 1 := by omega
    have p2 : w.heap.size + 1 + 1 ≠ w.heap.size + 1 + 1 + 1 := by omega
    rw [oth p1, oth p1, oth p1, oth p2]
theorem eqRule_same (sp : Int) (n : ByteArray) (al : List ByteArray) (w : World) (A A' : Option Addr) (c c' : Nat) (h : NmIn w A al) (h' : NmIn w A' al) :
    Calls Tryz.prog 92 #[.agg #[.int .i64 sp, .string n, .slice A al.length c], .agg #[.int .i64 sp, .string n, .slice A' al.length c']] w fun e w' => e = .returned (.bool true) ∧ Below w.heap.size w w' := by
  have HA := Lib.hid h
  have HA' := Lib.hid h'
  clear h h'
  go_enter Tryz.func92, Tryz.ntmps92
  go_wp2_with (go_at_call 43; go_loud (refine (eqNm_same al _ A A' c c' ?a3 ?a4).mono ?a5; (case a3 => exact HA.out.next (by go_grown)); (case a4 => exact HA'.out.next (by go_grown)); rintro e w1 ⟨rfl, hB'⟩; simp only [World.size_alloc] at hB'; obtain ⟨L1, L2, B3⟩ := two_lay hB'; have KB := Lib.hid B3; clear L1 L2 B3 hB'))
  go_ret
  exact ⟨rfl, KB.out⟩
end Go.Proofs.YthdkkpbhijlpaaaGreat
namespace Go.Proofs.YthdkkpbhijlpaaaGreat
open Go.ChangeShapes Go.WideShapes Go.ChangeAt Go.RowKit Go.Deep
section
variable {H : Type} {enc : TypeId × Value → H} {P : Program} {w : World} {base : Nat} {spare : Nat → Bool} {held : Bool}
/-- texts that came in -/
theorem open_nm {t e : TypeId} {fuel : Nat} {cs : List Value} {x : DataW H × List MemPlace} (ht : P.underlying t = some (.slice e)) (he : P.underlying e = some .string) (hc : P.cellsOf e = 1)
    (h : DataW.trod enc P w base spare held fuel t cs = some x) : ∃ (l : List ByteArray) (A : Option Addr) (c : Nat), cs = [.slice A l.length c] ∧ l.length ≤ c ∧ NmIn w A l := by
  rcases open_strs ht he hc h with ⟨rfl, _⟩ | ⟨a, len, cap, m, Sx, rfl, _, hl, hm, hmm, _, hx⟩
  · exact ⟨[], none, 0, rfl, Nat.le_refl _, NmIn.nil _ _⟩
  have hlm : len ≤ m := by rw [hmm]; split <;> omega
  obtain ⟨b, o, spot⟩ := a
  by_cases hz : len = 0
  · subst hz
    exact ⟨[], _, cap, rfl, Nat.zero_le _, NmIn.nil _ _⟩
  have hspot : spot = none := by simpa [Addr.add] using World.cell?_spot (hx 0 (by omega)).1
  subst hspot
  refine ⟨(List.range len).map Sx, _, cap, by simp, by simpa using hl, by simp; omega, Or.inr ⟨b, o, rfl, fun k hk => ?_⟩⟩
  have hk' : k < len := by simpa using hk
  have := hx k (by omega)
  rw [add_plain] at this
  simpa using this
/-- a rule's fields -/
structure RuTy (P : Program) (e ta ea : TypeId) (f0 f1 f2 : Field) : Prop where
  he : P.underlying e = some (.struct #[f0, f1, f2])
  ce : P.cellsOf e = 3
  hta : P.underlying ta = some (.slice ea)
  hea : P.underlying ea = some .string
  cea : P.cellsOf ea = 1
  o : f0.offset = 0 ∧ f1.offset = 1 ∧ f2.offset = 2
  c : P.cellsOf f0.type = 1 ∧ P.cellsOf f1.type = 1 ∧ P.cellsOf f2.type = 1
  u : P.underlying f0.type = some (.int .i64) ∧ P.underlying f1.type = some .string ∧ f2.type = ta
theorem open_rule {e ta ea : TypeId} {f0 f1 f2 : Field} (T : RuTy P e ta ea f0 f1 f2) {fuel : Nat} {v0 v1 v2 : Value} {x : DataW H × List MemPlace} (h : DataW.trod enc P w base spare held fuel e [v0, v1, v2] = some x) :
    ∃ (r : Ru) (A : Option Addr) (c : Nat), v0 = .int .i64 r.1 ∧ v1 = .string r.2.1 ∧ v2 = .slice A r.2.2.length c ∧ r.2.1.size ≤ maxLen ∧ r.2.2.length ≤ c ∧ NmIn w A r.2.2 := by
  obtain ⟨q0, q1, q2⟩ := T.o
  obtain ⟨r0, r1, r2⟩ := T.c
  obtain ⟨u0, u1, u2⟩ := T.u
  obtain ⟨xs, k, hk, _, _, hxl, hf⟩ := DataW.trod_struct T.he h
  match xs, hxl with
  | [y0, y1, y2], _ =>
    have e0 := hf 0 f0 rfl
    have e1 := hf 1 f1 rfl
    have e2 := hf 2 f2 rfl
    simp [q0, q1, q2, r0, r1, r2] at e0 e1 e2
    obtain ⟨z0, p0, _, _⟩ := DataW.trod_int u0 e0
    obtain ⟨s1, p1, _, m1⟩ := DataW.trod_string u1 e1
    rw [u2] at e2
    obtain ⟨al, A, c, p2, l2, t2⟩ := open_nm T.hta T.hea T.cea e2
    simp at p0 p1 p2
    subst p0 p1 p2
    exact ⟨(z0, s1, al), A, c, rfl, rfl, rfl, m1, l2, t2⟩
/-- rules that came in -/
theorem open_rus {t e ta ea : TypeId} {f0 f1 f2 : Field} (T : RuTy P e ta ea f0 f1 f2) (ht : P.underlying t = some (.slice e)) {fuel : Nat} {cs : List Value} {x : DataW H × List MemPlace} (h : DataW.trod enc P w base spare held fuel t cs = some x) :
    ∃ (l : List Ru) (A : Option Addr) (c : Nat), cs = [.slice A l.length c] ∧ l.length ≤ c ∧ RuIn w A l := by
  rcases DataW.trod_slice ht h with ⟨rfl, _⟩ | ⟨a, len, cap, elems, rest, n, hn, rfl, _, _, hl, hm, hlen, hel, _, _⟩
  · exact ⟨[], none, 0, rfl, Nat.le_refl _, RuIn.nil _ _⟩
  have hx : ∀ i, i < len → ∃ cs', w.cells? base (a.add (i * 3)) 3 = some cs' ∧ ∃ y, DataW.trod enc P w base spare held n e cs' = some y := by
    intro i hi
    have := hel i hi
    rw [List.getElem?_eq_getElem (by omega), T.ce] at this
    obtain ⟨cs', h1, h2⟩ := Option.bind_eq_some_iff.1 this
    exact ⟨cs', h1, _, h2⟩
  obtain ⟨b, o, spot⟩ := a
  by_cases hz : len = 0
  · subst hz
    exact ⟨[], _, cap, rfl, Nat.zero_le _, RuIn.nil _ _⟩
  have hsp : spot = none := by
    obtain ⟨cs', h1, y, h2⟩ := hx 0 (by omega)
    obtain ⟨_, hl3, hcell⟩ := World.cells?_some h1
    have hc := hcell 0 (by omega)
    rw [List.getElem?_eq_getElem (by omega)] at hc
    simpa [Addr.add] using World.cell?_spot hc
  subst hsp
  have each : ∀ i, i < len → ∃ r : Ru, RuAt w b (o + i * 3) r := by
    intro i hi
    obtain ⟨cs', h1, y, h2⟩ := hx i hi
    obtain ⟨_, hl3, hcell⟩ := World.cells?_some h1
    match cs', hl3 with
    | [v0, v1, v2], _ =>
      have d0 := hcell 0 (by omega)
      have d1 := hcell 1 (by omega)
      have d2 := hcell 2 (by omega)
      rw [Go.Deep.add_add, add_plain] at d0 d1 d2
      simp at d0 d1 d2
      obtain ⟨r, A, c, rfl, rfl, rfl, hr, hc, hN⟩ := open_rule T h2
      exact ⟨r, d0, by simpa [Nat.add_assoc] using d1, hr, A, c, by simpa [Nat.add_assoc] using d2, hc, hN⟩
  obtain ⟨Rx, hR⟩ := choose_lt each
  refine ⟨(List.range len).map Rx, _, cap, by simp, by simpa using hl, by simp; omega, Or.inr ⟨b, o, rfl, fun k hk => ?_⟩⟩
  have hk' : k < len := by simpa using hk
  simpa using hR k hk'
end
end Go.Proofs.YthdkkpbhijlpaaaGreat
