import Derived.Deep.RegionWith
import Derived.Deep.Draws
import Derived.BigQuiet
import Derived.IntWalk
import Derived.Test.YtpennadfomnenaaGreatDoorQ08
import Derived.Test.YtpennadfomnenaaGreatDoorQ05
import Derived.Test.YtpennadfomnenaaGreatDoorQ04
set_option linter.unusedVariables false
namespace Go.Proofs.YtpennadfomnenaaGreatDoor
open Go.ChangeShapes Go.WideShapes Go.ChangeAt Go.RowKit Go.Deep

theorem eqAttr_same (x : ByteArray × ByteArray) (w : World) :
    Calls Tryz.prog 166 #[.agg #[.string x.1, .string x.2], .agg #[.string x.1, .string x.2]] w fun e w' => e = .returned (.bool true) ∧ Below w.heap.size w w' := by
  obtain ⟨n, v⟩ := x
  go_enter Tryz.func166, Tryz.ntmps166
  go_wp2
  go_ret
  exact ⟨rfl, by go_grown⟩
theorem eqAttrS_same (al : List (ByteArray × ByteArray)) (w : World) (A A' : Option Addr) (c c' b b' o o' lo hi lo' hi' : Nat) (hA : RowAt lo hi A al.length b o) (hA' : RowAt lo' hi' A' al.length b' o') (hh : hi ≤ w.heap.size) (hh' : hi' ≤ w.heap.size)
    (hal : AsAt w b o al) (hal' : AsAt w b' o' al) :
    Calls Tryz.prog 119 #[.slice A al.length c, .slice A' al.length c'] w fun e w' => e = .returned (.bool true) ∧ Below w.heap.size w w' := by
  have hlen := hA.1
  unfold maxLen at hlen
  have HA := Lib.hid hA
  have HS := Lib.hid hal
  have HA' := Lib.hid hA'
  have HS' := Lib.hid hal'
  clear hA hal hA' hal'
  go_enter Tryz.func119, Tryz.ntmps119
  go_wp2
  go_loopw [5] (fun i wr => ∃ (k : Nat) (suf : List (ByteArray × ByteArray)), i = .int .i64 (k : Int) ∧ k + suf.length = al.length ∧ Hid (AsAt w b (o + k * 2) suf ∧ AsAt w b' (o' + k * 2) suf ∧ Below w.heap.size w wr)) (fun i wr => al.length - (intOf i).toNat)
  case atStart => exact ⟨0, al, rfl, by omega, Lib.hid ⟨by simpa using HS.out, by simpa using HS'.out, Below.refl _ _⟩⟩
  case round =>
    obtain ⟨k, suf, rfl, hk, HH⟩ := hrel
    cases suf with
    | nil =>
      have hkl : k = al.length := by simpa using hk
      clear hk
      subst hkl
      go_wp2
      go_ret
      exact ⟨rfl, HH.out.2.2⟩
    | cons x r =>
      obtain ⟨⟨s1, s2, s3, s4, s5⟩, ⟨s1', s2', _, _, s5'⟩, hB⟩ := HH.out
      obtain ⟨rfl, hlo, hhi⟩ := HA.out.2 (by simp at hk; omega)
      obtain ⟨rfl, hlo', hhi'⟩ := HA'.out.2 (by simp at hk; omega)
      have t1 := (hB.cell (p := ⟨b, o + k * 2, none⟩) (by show b < _; omega)).trans s1
      have t2 := (hB.cell (p := ⟨b, o + k * 2 + 1, none⟩) (by show b < _; omega)).trans s2
      have t1' := (hB.cell (p := ⟨b', o' + k * 2, none⟩) (by show b' < _; omega)).trans s1'
      have t2' := (hB.cell (p := ⟨b', o' + k * 2 + 1, none⟩) (by show b' < _; omega)).trans s2'
      have H5 := Lib.hid s5
      have H5' := Lib.hid s5'
      have HB := Lib.hid hB
      simp at hk
      clear HH s1 s2 s5 s1' s2' s5' hB
      go_wp2
      go_region_with (go_at_call 166; go_loud (refine (eqAttr_same x _).mono ?_; rintro e w' ⟨rfl, hB'⟩; have HB' := Lib.hid hB'; clear hB'))
      all_goals (
        go_wp2
        go_roundw
        case rel => exact ⟨k + 1, r, by go_num, by omega, Lib.hid ⟨by rw [show o + (k + 1) * 2 = o + k * 2 + 2 by omega]; exact H5.out, by rw [show o' + (k + 1) * 2 = o' + k * 2 + 2 by omega]; exact H5'.out, HB.out.drew.trans (HB'.out.mono HB.out.size)⟩⟩
        case measure => simp [intOf]; omega)
def EqOK (F : Fo) : Prop := ∀ (w : World) (A A' : Option Addr) (c c' b b' o o' lo hi lo' hi' : Nat), RowAt lo hi A F.len b o → RowAt lo' hi' A' F.len b' o' → hi ≤ w.heap.size → hi' ≤ w.heap.size → FoAt w lo hi b o F → FoAt w lo' hi' b' o' F →
    Calls Tryz.prog 44 #[.slice A F.len c, .slice A' F.len c'] w fun e w' => e = .returned (.bool true) ∧ Below w.heap.size w w'
theorem two_lay {w w' : World} {c1 c2 : Array Value} {t1 t2 : TypeId} (h : Below (w.heap.size + 1 + 1) ((w.alloc (.cells c1 t1)).alloc (.cells c2 t2)) w') :
    Lay w' w.heap.size c1 ∧ Lay w' (w.heap.size + 1) c2 ∧ Below w.heap.size w w' := by
  have s1 : (w.alloc (.cells c1 t1)).heap.size = w.heap.size + 1 := by simp
  have l1 := Lay.new w c1 t1
  have l2 := Lay.new (w.alloc (.cells c1 t1)) c2 t2
  rw [s1] at l2
  exact ⟨(l1.alloc (by omega) _).below h (by omega), l2.below h (by omega), Below.trans (by go_grown) (h.mono (by omega))⟩
theorem eqNode_same (k sp : Int) (n t : ByteArray) (al : List (ByteArray × ByteArray)) (kids : Fo) (ih : EqOK kids) (w : World) (A K A' K' : Option Addr) (c kc c' kc' b o kb ko b' o' kb' ko' lo hi lo' hi' : Nat)
    (hA : RowAt lo hi A al.length b o) (hal : AsAt w b o al) (hK : RowAt lo hi K kids.len kb ko) (hk : FoAt w lo hi kb ko kids) (hh : hi ≤ w.heap.size)
    (hA' : RowAt lo' hi' A' al.length b' o') (hal' : AsAt w b' o' al) (hK' : RowAt lo' hi' K' kids.len kb' ko') (hk' : FoAt w lo' hi' kb' ko' kids) (hh' : hi' ≤ w.heap.size) :
    Calls Tryz.prog 57 #[.agg #[.int .i64 k, .int .i64 sp, .string n, .string t, .slice A al.length c, .slice K kids.len kc], .agg #[.int .i64 k, .int .i64 sp, .string n, .string t, .slice A' al.length c', .slice K' kids.len kc']] w fun e w' =>
      e = .returned (.bool true) ∧ Below w.heap.size w w' := by
  have HA := Lib.hid hA
  have HN := Lib.hid hal
  have HF := Lib.hid hk
  have HI := Lib.hid ih
  have HK := Lib.hid hK
  have HA' := Lib.hid hA'
  have HN' := Lib.hid hal'
  have HF' := Lib.hid hk'
  have HK' := Lib.hid hK'
  clear hal ih hk hA hK hal' hk' hA' hK'
  go_enter Tryz.func57, Tryz.ntmps57
  go_wp2_with (first
    | (go_at_call 119; go_loud (refine (eqAttrS_same al _ A A' c c' b b' o o' lo hi lo' hi' HA.out HA'.out ?a1 ?a2 ?a3 ?a4).mono ?a5; (case a1 => (simp; omega)); (case a2 => (simp; omega)); (case a3 => exact al_below HA.out HN.out (by go_grown) hh); (case a4 => exact al_below HA'.out HN'.out (by go_grown) hh'); rintro e w1 ⟨rfl, hB'⟩; simp only [World.size_alloc] at hB'; obtain ⟨L1, L2, B3⟩ := two_lay hB'; have r5 := L1.1 5; have r5' := L2.1 5; have KB := Lib.hid B3; simp at r5 r5'; clear L1 L2 B3 hB'))
    | (go_at_call 44; go_loud (refine (HI.out _ K K' kc kc' kb kb' ko ko' lo hi lo' hi' HK.out HK'.out (Nat.le_trans hh KB.out.size) (Nat.le_trans hh' KB.out.size) (FoAt.below HK.out HF.out KB.out hh) (FoAt.below HK'.out HF'.out KB.out hh')).mono ?_; rintro e w2 ⟨rfl, hB2⟩; have KB2 := Lib.hid hB2; clear hB2)))
  go_ret
  exact ⟨rfl, KB.out.trans (KB2.out.mono KB.out.size)⟩
theorem eqNodeS_lt : ∀ (N : Nat) (F : Fo), F.nodes < N → EqOK F := by
  intro N
  induction N with
  | zero => intro F hF; omega
  | succ N IH =>
  intro F hF w A A' c c' b b' o o' lo hi lo' hi' hA hA' hh hh' hFo hFo'
  have hlen := hA.1
  unfold maxLen at hlen
  have HA := Lib.hid hA
  have HS := Lib.hid hFo
  have HA' := Lib.hid hA'
  have HS' := Lib.hid hFo'
  have HF := Lib.hid hF
  have HI := Lib.hid IH
  clear hA hFo hF IH hA' hFo'
  go_enter Tryz.func44, Tryz.ntmps44
  go_wp2
  go_loopw [5] (fun i wr => ∃ (k : Nat) (suf : Fo), i = .int .i64 (k : Int) ∧ k + suf.len = F.len ∧
    Hid (FoAt w lo hi b (o + k * 6) suf ∧ FoAt w lo' hi' b' (o' + k * 6) suf ∧ Below w.heap.size w wr ∧ suf.nodes < N + 1)) (fun i wr => F.len - (intOf i).toNat)
  case atStart => exact ⟨0, F, rfl, by omega, Lib.hid ⟨by simpa using HS.out, by simpa using HS'.out, Below.refl _ _, HF.out⟩⟩
  case round =>
    obtain ⟨k, suf, rfl, hk, HH⟩ := hrel
    cases suf with
    | nil =>
      have hkl : k = F.len := by simpa [Fo.len] using hk
      clear hk
      subst hkl
      go_wp2
      go_ret
      exact ⟨rfl, HH.out.2.2.1⟩
    | cons xk xs xn xt xa kids r =>
      have hkl : k < F.len := by simp [Fo.len] at hk; omega
      obtain ⟨⟨⟨s0, s1, s2, s3, z2, z3⟩, ⟨A4, c4, b4, o4, s4, r4, a4⟩, ⟨A5, c5, b5, o5, s5, r5, a5⟩, sr⟩, ⟨⟨s0', s1', s2', s3', _, _⟩, ⟨A4', c4', b4', o4', s4', r4', a4'⟩, ⟨A5', c5', b5', o5', s5', r5', a5'⟩, sr'⟩, hB, hnd⟩ := HH.out
      replace r4 := r4.2
      replace r5 := r5.2
      replace r4' := r4'.2
      replace r5' := r5'.2
      obtain ⟨rfl, hlo, hhi⟩ := HA.out.2 (by omega)
      obtain ⟨rfl, hlo', hhi'⟩ := HA'.out.2 (by omega)
      have hb : b < w.heap.size := by omega
      have hb' : b' < w.heap.size := by omega
      have t0 := (hB.cell (p := ⟨b, _, none⟩) hb).trans s0
      have t1 := (hB.cell (p := ⟨b, _, none⟩) hb).trans s1
      have t2 := (hB.cell (p := ⟨b, _, none⟩) hb).trans s2
      have t3 := (hB.cell (p := ⟨b, _, none⟩) hb).trans s3
      have t4 := (hB.cell (p := ⟨b, _, none⟩) hb).trans s4
      have t5 := (hB.cell (p := ⟨b, _, none⟩) hb).trans s5
      have t0' := (hB.cell (p := ⟨b', _, none⟩) hb').trans s0'
      have t1' := (hB.cell (p := ⟨b', _, none⟩) hb').trans s1'
      have t2' := (hB.cell (p := ⟨b', _, none⟩) hb').trans s2'
      have t3' := (hB.cell (p := ⟨b', _, none⟩) hb').trans s3'
      have t4' := (hB.cell (p := ⟨b', _, none⟩) hb').trans s4'
      have t5' := (hB.cell (p := ⟨b', _, none⟩) hb').trans s5'
      have HR := Lib.hid sr
      have HR' := Lib.hid sr'
      have HB := Lib.hid hB
      have H4 := Lib.hid (And.intro a4 a4')
      have H5 := Lib.hid (And.intro a5 a5')
      have R4 := Lib.hid (And.intro r4 r4')
      have R5 := Lib.hid (And.intro r5 r5')
      have HND := Lib.hid hnd
      have HK := Lib.hid hk
      clear HH s0 s1 s2 s3 s4 s5 sr s0' s1' s2' s3' s4' s5' sr' hB hnd a4 a5 r4 r5 a4' a5' r4' r5' hk
      go_wp2
      go_region_with (go_at_call 57; go_loud (refine (eqNode_same xk xs xn xt xa kids (HI.out kids (by have := HND.out; simp [Fo.nodes] at this; omega)) _ A4 A5 A4' A5' c4 c5 c4' c5' b4 o4 b5 o5 b4' o4' b5' o5' lo hi lo' hi' R4.out.1 (al_below R4.out.1 H4.out.1 HB.out.drew hh) R5.out.1 (FoAt.below R5.out.1 H5.out.1 HB.out.drew hh) (Nat.le_trans hh HB.out.size) R4.out.2 (al_below R4.out.2 H4.out.2 HB.out.drew hh') R5.out.2 (FoAt.below R5.out.2 H5.out.2 HB.out.drew hh') (Nat.le_trans hh' HB.out.size)).mono ?_; rintro e w' ⟨rfl, hB'⟩; have HB' := Lib.hid hB'; clear hB'))
      all_goals (
        go_wp2
        go_roundw
        case rel => exact ⟨k + 1, r, by go_num, by have := HK.out; simp [Fo.len] at this; omega, Lib.hid ⟨by rw [show o + (k + 1) * 6 = o + k * 6 + 6 by omega]; exact HR.out, by rw [show o' + (k + 1) * 6 = o' + k * 6 + 6 by omega]; exact HR'.out, HB.out.drew.trans (HB'.out.mono HB.out.size), by have := HND.out; simp [Fo.nodes] at this; omega⟩⟩
        case measure => simp [intOf]; omega)
theorem eqNodeS_same (F : Fo) : EqOK F := eqNodeS_lt (F.nodes + 1) F (Nat.lt_succ_self _)
end Go.Proofs.YtpennadfomnenaaGreatDoor
namespace Go.Proofs.YtpennadfomnenaaGreatDoor
open Go.ChangeShapes Go.WideShapes Go.ChangeAt Go.RowKit Go.Deep

theorem str_ext {a b : ByteArray} (h : a.toList = b.toList) : a = b := by
  rw [ByteArray.toList_eq, ByteArray.toList_eq] at h
  obtain ⟨⟨x⟩⟩ := a
  obtain ⟨⟨y⟩⟩ := b
  simp at h
  subst h
  rfl
theorem str_ne {a b : ByteArray} (h : ¬ a = b) : (a.toList == b.toList) = false := by
  rw [beq_eq_false_iff_ne]; exact fun e => h (str_ext e)
theorem AsAt.get {w : World} {b : Nat} : ∀ {al : List (ByteArray × ByteArray)} {o : Nat}, AsAt w b o al → ∀ i (h : i < al.length), w.cell? ⟨b, o + i * 2, none⟩ = some (.string al[i].1) ∧ w.cell? ⟨b, o + i * 2 + 1, none⟩ = some (.string al[i].2) ∧ al[i].1.size ≤ maxLen ∧ al[i].2.size ≤ maxLen
  | x :: r, o, ⟨h1, h2, h3, h4, h5⟩, 0, _ => ⟨by simpa using h1, by simpa using h2, h3, h4⟩
  | x :: r, o, ⟨h1, h2, h3, h4, h5⟩, i + 1, h => by
    have := AsAt.get h5 i (by simpa using h)
    rw [show o + (i + 1) * 2 = o + 2 + i * 2 by omega]
    simpa using this
theorem below_drewN {B : Nat} {w w' : World} (h : Below B w w') (n : Nat) : Below B w (w'.drewN n) := by
  induction n with
  | zero => exact h
  | succ n ih => exact ih.drew
/-- a right attribute, by itself -/
def AttrIs (x : ByteArray × ByteArray) : Prop := namedB small tagB x.1 = true ∧ x.2.size ≤ 40
/-- right up to place k -/
def AlTo (al : List (ByteArray × ByteArray)) (k : Nat) : Prop := ∀ i (h : i < al.length), i < k → AttrIs al[i] ∧ ∀ j (hj : j < i), al[j].1 ≠ al[i].1
def AlOK (al : List (ByteArray × ByteArray)) : Prop := al.length ≤ 6 ∧ AlTo al al.length
open Classical in
noncomputable def alB (al : List (ByteArray × ByteArray)) : Bool := decide (AlOK al)
theorem alB_true {al : List (ByteArray × ByteArray)} (h : AlOK al) : true = alB al := by simp [alB, h]
theorem alB_false {al : List (ByteArray × ByteArray)} (h : ¬ AlOK al) : false = alB al := by simp [alB, h]
theorem l03Attrs_any (al : List (ByteArray × ByteArray)) (w : World) (A : Option Addr) (c b o lo hi : Nat) (hA : RowAt lo hi A al.length b o) (hh : hi ≤ w.heap.size) (hal : AsAt w b o al) :
    Calls Tryz.prog 154 #[.slice A al.length c] w fun e w' => e = .returned (.bool (alB al)) ∧ Below w.heap.size w w' := by
  have hlen := hA.1
  unfold maxLen at hlen
  by_cases h6 : al.length ≤ 6
  · have HA := Lib.hid hA
    have HS := Lib.hid hal.get
    have HAL := Lib.hid hal
    clear hA hal
    go_enter Tryz.func154, Tryz.ntmps154
    go_wp2
    go_loopw [3] (fun i wr => ∃ (k : Nat), i = .int .i64 (k : Int) ∧ k ≤ al.length ∧ Hid (AlTo al k ∧ Below w.heap.size w wr)) (fun i wr => al.length - (intOf i).toNat)
    case atStart => exact ⟨0, rfl, Nat.zero_le _, Lib.hid ⟨fun i _ h => absurd h (Nat.not_lt_zero _), Below.refl _ _⟩⟩
    case round =>
      obtain ⟨k, rfl, hk, HH⟩ := hrel
      by_cases hlt : k < al.length
      · obtain ⟨rfl, hlo, hhi⟩ := HA.out.2 (by omega)
        have hB := HH.out.2
        obtain ⟨s1, s2, s3, s4⟩ := HS.out k hlt
        have t1 := (hB.cell (p := ⟨b, o + k * 2, none⟩) (by show b < _; omega)).trans s1
        have t2 := (hB.cell (p := ⟨b, o + k * 2 + 1, none⟩) (by show b < _; omega)).trans s2
        have HB := Lib.hid hB
        clear hB s1 s2
        generalize hx : al[k] = x at *
        obtain ⟨n, v⟩ := x
        simp only at t1 t2 s3 s4
        have HX := Lib.hid hx
        clear hx
        by_cases hn : namedB small tagB n = true
        · by_cases hv : v.size ≤ 40
          · go_wp2_with (go_at_call 76; go_loud (refine (l01Tag_any n _ s3).mono ?_; rintro e w' ⟨rfl, rfl⟩; rw [hn]))
            go_loopw [4] (fun j wq => ∃ (m : Nat), j = .int .i64 (m : Int) ∧ m ≤ k ∧ Hid ((∀ j (hj : j < m) (hj' : j < al.length), al[j].1 ≠ n) ∧ Below w.heap.size w wq)) (fun j wq => k - (intOf j).toNat)
            case atStart => exact ⟨0, rfl, Nat.zero_le _, Lib.hid ⟨fun j hj => absurd hj (Nat.not_lt_zero _), HB.out⟩⟩
            case round =>
              obtain ⟨m, rfl, hm, HM⟩ := hrel
              by_cases hmk : m < k
              · obtain ⟨q1, _, q3, _⟩ := HS.out m (by omega)
                have hQ := HM.out.2
                have p1 := (hQ.cell (p := ⟨b, o + m * 2, none⟩) (by show b < _; omega)).trans q1
                obtain ⟨r1, _, _, _⟩ := HS.out k hlt
                have p2 := (hQ.cell (p := ⟨b, o + k * 2, none⟩) (by show b < _; omega)).trans r1
                rw [HX.out] at p2
                simp only at p2
                generalize hy : al[m].1 = y at *
                have HQ := Lib.hid hQ
                have HY := Lib.hid hy
                clear hQ q1 r1 hy
                by_cases he : y = n
                · subst he
                  go_wp2
                  go_quiet (fail)
                  go_wp2
                  go_ret
                  exact ⟨ret_bool (alB_false fun h => (h.2 k hlt hlt).2 m hmk (by rw [HX.out, HY.out])), below_drewN HQ.out _⟩
                · have he' := str_ne he
                  go_wp2
                  go_quiet (fail)
                  go_wp2
                  go_roundw
                  case rel => exact ⟨m + 1, by go_num, by omega, Lib.hid ⟨fun j hj hj' => by
                    by_cases e : j = m
                    · subst e; rw [HY.out]; exact he
                    · exact HM.out.1 j (by omega) hj', below_drewN HQ.out _⟩⟩
                  case measure => simp [intOf]; omega
              · obtain rfl : m = k := by omega
                go_wp2
                go_roundw
                case rel => exact ⟨m + 1, by go_num, by omega, Lib.hid ⟨fun i hi hik => by
                  by_cases e : i = m
                  · subst e; rw [HX.out]; exact ⟨⟨hn, hv⟩, fun j hj => HM.out.1 j hj (by omega)⟩
                  · exact HH.out.1 i hi (by omega), HM.out.2⟩⟩
                case measure => simp [intOf]; omega
          · go_wp2_with (go_at_call 76; go_loud (refine (l01Tag_any n _ s3).mono ?_; rintro e w' ⟨rfl, rfl⟩; rw [hn]))
            go_ret
            exact ⟨ret_bool (alB_false fun h => hv (by have := (h.2 k hlt hlt).1.2; rw [HX.out] at this; exact this)), HB.out⟩
        · go_wp2_with (go_at_call 76; go_loud (refine (l01Tag_any n _ s3).mono ?_; rintro e w' ⟨rfl, rfl⟩; rw [Bool.eq_false_iff.2 hn]))
          go_ret
          exact ⟨ret_bool (alB_false fun h => hn (by have := (h.2 k hlt hlt).1.1; rw [HX.out] at this; exact this)), HB.out⟩
      · obtain rfl : k = al.length := by omega
        go_wp2
        go_ret
        exact ⟨ret_bool (alB_true ⟨h6, HH.out.1⟩), HH.out.2⟩
  · clear hal hA
    go_enter Tryz.func154, Tryz.ntmps154
    go_wp2
    go_ret
    exact ⟨ret_bool (alB_false fun h => h6 h.1), Below.refl _ _⟩
end Go.Proofs.YtpennadfomnenaaGreatDoor
namespace Go.Proofs.YtpennadfomnenaaGreatDoor
open Go.ChangeShapes Go.WideShapes Go.ChangeAt Go.RowKit Go.Deep

/-- a node, but for its kids -/
structure Nd where
  k : Int
  sp : Int
  n : ByteArray
  t : ByteArray
  al : List (ByteArray × ByteArray)
/-- a node, its place beside the others, and its kids -/
abbrev NP := Nd × Nat × Fo
/-- a visitor that asks no places -/
def bare {σ α : Type} (f : σ → List Nd → α) : σ → List NP → α := fun s ch => f s (ch.map Prod.fst)
/-! ### as the model looks at it: a node with its kids -/
end Go.Proofs.YtpennadfomnenaaGreatDoor
namespace Go.Proofs.YtpennadfomnenaaGreatDoor
open Go.ChangeShapes Go.WideShapes Go.ChangeAt Go.RowKit Go.Deep

/-- what was there stays, but for the blocks of C -/
structure But (C : Nat → Prop) (w w' : World) : Prop where
  os : w'.os = w.os
  tape : w'.tape = w.tape
  output : w'.output = w.output
  size : w.heap.size ≤ w'.heap.size
  block : ∀ k, k < w.heap.size → ¬ C k → w'.heap[k]? = w.heap[k]?
theorem But.refl (C : Nat → Prop) (w : World) : But C w w := ⟨rfl, rfl, rfl, Nat.le_refl _, fun _ _ _ => rfl⟩
theorem But.trans {C D : Nat → Prop} {a b c : World} (h : But C a b) (k : But D b c) (hD : ∀ i, D i → C i ∨ a.heap.size ≤ i) : But C a c :=
  ⟨k.os.trans h.os, k.tape.trans h.tape, k.output.trans h.output, Nat.le_trans h.size k.size, fun i hi hC =>
    (k.block i (Nat.lt_of_lt_of_le hi h.size) fun d => (hD i d).elim hC fun x => absurd hi (Nat.not_lt.2 x)).trans (h.block i hi hC)⟩
theorem But.mono {C D : Nat → Prop} {w w' : World} (h : But C w w') (hs : ∀ k, C k → D k) : But D w w' := ⟨h.os, h.tape, h.output, h.size, fun k hk hd => h.block k hk fun c => hd (hs k c)⟩
theorem But.of_below {C : Nat → Prop} {w w' : World} (h : Below w.heap.size w w') : But C w w' := ⟨h.os, h.tape, h.output, h.size, fun k hk _ => h.block k hk⟩
theorem But.below {C : Nat → Prop} {w w' : World} {B : Nat} (h : But C w w') (hC : ∀ k, C k → B ≤ k) (hB : B ≤ w.heap.size) : Below B w w' :=
  ⟨h.os, h.tape, h.output, h.size, fun k hk => h.block k (Nat.lt_of_lt_of_le hk hB) fun c => absurd hk (Nat.not_lt.2 (hC k c))⟩
theorem But.drew {C : Nat → Prop} {a w : World} (h : But C a w) : But C a w.drew := ⟨h.os, h.tape, h.output, h.size, h.block⟩
theorem But.cell {C : Nat → Prop} {w w' : World} (h : But C w w') {p : Addr} (hp : p.block < w.heap.size) (hC : ¬ C p.block) : w'.cell? p = w.cell? p := World.cell?_of_block (w := w) (h.block p.block hp hC)
theorem But.setCell {C : Nat → Prop} {a w : World} (h : But C a w) {p : Addr} (hp : C p.block ∨ a.heap.size ≤ p.block) (u : Value) : But C a (w.setCell p u) :=
  ⟨h.os, h.tape, h.output, by rw [World.size_setCell]; exact h.size, fun k hk hC => (Below.heap_setCell w p u k (by rintro rfl; rcases hp with c | c; exact hC c; omega)).trans (h.block k hk hC)⟩
theorem But.alloc {C : Nat → Prop} {a w : World} (h : But C a w) (o : Obj) : But C a (w.alloc o) :=
  ⟨h.os, h.tape, h.output, by have := h.size; simp; omega, fun k hk hC => (Below.heap_alloc w o k (Nat.lt_of_lt_of_le hk h.size)).trans (h.block k hk hC)⟩
def No (_ : Nat) : Prop := False
theorem But.no {w w' : World} (h : Below w.heap.size w w') : But No w w' := But.of_below h
theorem FoAt.but {C : Nat → Prop} {w w' : World} {lo hi : Nat} {A : Option Addr} {F : Fo} {b o : Nat} (hA : RowAt lo hi A F.len b o) (h : FoAt w lo hi b o F) (hB : But C w w') (hh : hi ≤ w.heap.size) (hC : ∀ k, C k → hi ≤ k) : FoAt w' lo hi b o F :=
  h.carry (Nat.le_refl _) (Nat.le_refl _) (fun b o _ h2 => hB.cell (p := ⟨b, o, none⟩) (by show b < _; omega) (fun c => by have := hC _ c; simp at this; omega))
    (fun j hj => hB.cell (p := ⟨b, o + j, none⟩) (by have := (hA.2 (by omega)).2.2; show b < _; omega) (fun c => by have := hC _ c; have := (hA.2 (by omega)).2.2; simp at *; omega))
/-- a node stands at ⟨b, o⟩, but for its kids -/
def NdAt (w : World) (lo hi b o : Nat) (x : Nd) : Prop :=
  (w.cell? ⟨b, o, none⟩ = some (.int .i64 x.k) ∧ w.cell? ⟨b, o + 1, none⟩ = some (.int .i64 x.sp) ∧ w.cell? ⟨b, o + 2, none⟩ = some (.string x.n) ∧ w.cell? ⟨b, o + 3, none⟩ = some (.string x.t) ∧ x.n.size ≤ maxLen ∧ x.t.size ≤ maxLen) ∧
    (∃ A c b' o', w.cell? ⟨b, o + 4, none⟩ = some (.slice A x.al.length c) ∧ RowC lo hi A x.al.length c b' o' ∧ AsAt w b' o' x.al)
theorem AsAt.but {C : Nat → Prop} {w w' : World} {lo hi b o : Nat} {A : Option Addr} {al : List (ByteArray × ByteArray)} (hA : RowAt lo hi A al.length b o) (h : AsAt w b o al) (hB : But C w w') (hh : hi ≤ w.heap.size) (hC : ∀ k, C k → hi ≤ k) : AsAt w' b o al := by
  cases al with
  | nil => trivial
  | cons x r => exact h.carry fun o => hB.cell (p := ⟨b, o, none⟩) (by have := (hA.2 (by simp)).2.2; show b < _; omega) (fun c => by have := hC _ c; have := (hA.2 (by simp)).2.2; simp at *; omega)
end Go.Proofs.YtpennadfomnenaaGreatDoor
namespace Go.Proofs.YtpennadfomnenaaGreatDoor
open Go.ChangeShapes Go.WideShapes Go.ChangeAt Go.RowKit Go.Deep

/-- a cell that may be written -/
def CellW (w : World) (g o : Nat) (v : Value) : Prop := w.cell? ⟨g, o, none⟩ = some v ∧ w.frozen? ⟨g, o, none⟩ = false
theorem CellW.same {w w' : World} {g o : Nat} {v : Value} (h : CellW w g o v) (hb : w'.heap[g]? = w.heap[g]?) : CellW w' g o v :=
  ⟨(World.cell?_of_block (w := w) (a := ⟨g, o, none⟩) hb).trans h.1, (World.frozen?_of_block (w := w) (a := ⟨g, o, none⟩) hb).trans h.2⟩
theorem CellW.lt {w : World} {g o : Nat} {v : Value} (h : CellW w g o v) : g < w.heap.size := World.block_lt_of_cell? w ⟨g, o, none⟩ h.1
theorem CellW.put {w : World} {g o : Nat} {v : Value} (h : CellW w g o v) (u : Value) : CellW (w.setCell ⟨g, o, none⟩ u) g o u :=
  ⟨World.cell?_setCell_same _ _ _ h.1, by rw [World.frozen?_setCell]; exact h.2⟩
theorem CellW.set {w : World} {g o : Nat} {v : Value} (h : CellW w g o v) {g' o' : Nat} (hne : g' ≠ g ∨ o' ≠ o) (u : Value) : CellW (w.setCell ⟨g', o', none⟩ u) g o v :=
  ⟨by rw [World.cell?_setCell_other (h := fun e => by injection e with e1 e2; rcases hne with h | h; exact h e1; exact h e2)]; exact h.1, by rw [World.frozen?_setCell]; exact h.2⟩
/-- attributes in a row that may be written -/
def AlLay (w : World) (a : Nat) : Nat → List (ByteArray × ByteArray) → Prop
  | _, [] => True
  | o, x :: r => CellW w a o (.string x.1) ∧ CellW w a (o + 1) (.string x.2) ∧ x.1.size ≤ maxLen ∧ x.2.size ≤ maxLen ∧ AlLay w a (o + 2) r
theorem AlLay.same {w w' : World} {a : Nat} (hb : w'.heap[a]? = w.heap[a]?) : ∀ {al : List (ByteArray × ByteArray)} {o : Nat}, AlLay w a o al → AlLay w' a o al
  | [], _, _ => trivial
  | _ :: _, _, ⟨h1, h2, h3, h4, h5⟩ => ⟨h1.same hb, h2.same hb, h3, h4, AlLay.same hb h5⟩
theorem AlLay.at {w : World} {a : Nat} : ∀ {al : List (ByteArray × ByteArray)} {o : Nat}, AlLay w a o al → AsAt w a o al
  | [], _, _ => trivial
  | _ :: _, _, ⟨h1, h2, h3, h4, h5⟩ => ⟨h1.1, h2.1, h3, h4, AlLay.at h5⟩
/-- .. with the block that it has, if it has one -/
def AlRow (w : World) (A : Option Addr) (al : List (ByteArray × ByteArray)) (ba : List Nat) : Prop := (al = [] ∧ ba = []) ∨ ∃ a, A = some ⟨a, 0, none⟩ ∧ ba = [a] ∧ AlLay w a 0 al
theorem AlRow.same {w w' : World} {A : Option Addr} {al : List (ByteArray × ByteArray)} {ba : List Nat} (h : AlRow w A al ba) (hb : ∀ k ∈ ba, w'.heap[k]? = w.heap[k]?) : AlRow w' A al ba := by
  rcases h with h | ⟨a, h1, h2, h3⟩
  · exact Or.inl h
  · subst h2; exact Or.inr ⟨a, h1, rfl, h3.same (hb a (by simp))⟩
/-- a forest's cells in block g from o on; bl: the blocks of all that it leads to. All may be written. -/
def FoLay (w : World) (g : Nat) : Nat → Fo → List Nat → Prop
  | _, .nil, bl => bl = []
  | o, .cons k sp n t al kids rest, bl => ∃ (A K : Option Addr) (ca ck : Nat) (ba bk br : List Nat), bl = ba ++ bk ++ br ∧
    (CellW w g o (.int .i64 k) ∧ CellW w g (o + 1) (.int .i64 sp) ∧ CellW w g (o + 2) (.string n) ∧ CellW w g (o + 3) (.string t) ∧ n.size ≤ maxLen ∧ t.size ≤ maxLen) ∧
    (CellW w g (o + 4) (.slice A al.length ca) ∧ al.length ≤ ca ∧ al.length ≤ maxLen ∧ AlRow w A al ba) ∧
    (CellW w g (o + 5) (.slice K kids.len ck) ∧ kids.len ≤ ck ∧ kids.len ≤ maxLen ∧ ((kids.len = 0 ∧ bk = []) ∨ ∃ c b', K = some ⟨c, 0, none⟩ ∧ bk = c :: b' ∧ FoLay w c 0 kids b')) ∧
    FoLay w g (o + 6) rest br
theorem FoLay.same {w w' : World} : ∀ {F : Fo} {g o : Nat} {bl : List Nat}, FoLay w g o F bl → w'.heap[g]? = w.heap[g]? → (∀ k ∈ bl, w'.heap[k]? = w.heap[k]?) → FoLay w' g o F bl
  | .nil, _, _, _, h, _, _ => h
  | .cons k sp n t al kids rest, g, o, bl, ⟨A, K, ca, ck, ba, bk, br, hbl, ⟨c0, c1, c2, c3, z2, z3⟩, ⟨c4, h4, m4, r4⟩, ⟨c5, h5, m5, r5⟩, hr⟩, hg, hb => by
    subst hbl
    refine ⟨A, K, ca, ck, ba, bk, br, rfl, ⟨c0.same hg, c1.same hg, c2.same hg, c3.same hg, z2, z3⟩, ⟨c4.same hg, h4, m4, r4.same fun k hk => hb k (by simp [hk])⟩, ⟨c5.same hg, h5, m5, ?_⟩, hr.same hg fun k hk => hb k (by simp [hk])⟩
    rcases r5 with r5 | ⟨c, b', e1, e2, e3⟩
    · exact Or.inl r5
    · subst e2
      exact Or.inr ⟨c, b', e1, rfl, FoLay.same e3 (hb c (by simp)) fun k hk => hb k (by simp [hk])⟩
/-- as it is read -/
theorem FoLay.at {w : World} {lo hi : Nat} : ∀ {F : Fo} {g o : Nat} {bl : List Nat}, FoLay w g o F bl → (∀ k ∈ bl, lo ≤ k ∧ k < hi) → FoAt w lo hi g o F
  | .nil, _, _, _, _, _ => trivial
  | .cons k sp n t al kids rest, g, o, bl, ⟨A, K, ca, ck, ba, bk, br, hbl, ⟨c0, c1, c2, c3, z2, z3⟩, ⟨c4, h4, m4, r4⟩, ⟨c5, h5, m5, r5⟩, hr⟩, hb => by
    subst hbl
    refine ⟨⟨c0.1, c1.1, c2.1, c3.1, z2, z3⟩, ?_, ?_, hr.at fun k hk => hb k (by simp [hk])⟩
    · rcases r4 with ⟨e1, e2⟩ | ⟨a, e1, e2, e3⟩
      · subst e1
        exact ⟨A, ca, 0, 0, c4.1, ⟨h4, m4, fun h => absurd h (Nat.lt_irrefl _)⟩, trivial⟩
      · subst e2
        have := hb a (by simp)
        exact ⟨A, ca, a, 0, c4.1, ⟨h4, m4, fun _ => ⟨e1, this.1, this.2⟩⟩, e3.at⟩
    · rcases r5 with ⟨e1, e2⟩ | ⟨c, b', e1, e2, e3⟩
      · cases kids with
        | cons _ _ _ _ _ _ _ => simp [Fo.len] at e1
        | nil => exact ⟨K, ck, 0, 0, c5.1, ⟨h5, m5, fun h => absurd h (Nat.lt_irrefl _)⟩, trivial⟩
      · subst e2
        have := hb c (by simp)
        exact ⟨K, ck, c, 0, c5.1, ⟨h5, m5, fun _ => ⟨e1, this.1, this.2⟩⟩, FoLay.at e3 fun k hk => hb k (by simp [hk])⟩
theorem FoLay.app {w : World} : ∀ {F G : Fo} {g o : Nat} {b1 b2 : List Nat}, FoLay w g o F b1 → FoLay w g (o + 6 * F.len) G b2 → FoLay w g o (F.app G) (b1 ++ b2)
  | .nil, G, g, o, b1, b2, h, hG => by
    have h : b1 = [] := h
    subst h; simpa [Fo.app, Fo.len] using hG
  | .cons k sp n t al kids r, G, g, o, b1, b2, ⟨A, K, ca, ck, ba, bk, br, hbl, h1, h2, h3, h4⟩, hG => by
    subst hbl
    refine ⟨A, K, ca, ck, ba, bk, br ++ b2, by simp [List.append_assoc], h1, h2, h3, FoLay.app h4 ?_⟩
    simp only [Fo.len] at hG
    rw [show o + 6 + 6 * r.len = o + 6 * (r.len + 1) by omega]; exact hG
end Go.Proofs.YtpennadfomnenaaGreatDoor
