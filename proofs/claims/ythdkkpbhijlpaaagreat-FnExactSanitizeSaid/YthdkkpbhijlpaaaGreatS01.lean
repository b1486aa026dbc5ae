import Derived.WalkSmall
import Derived.Test.YthdkkpbhijlpaaaGreatS00
set_option linter.unusedVariables false
namespace Go.Proofs.YthdkkpbhijlpaaaGreat
open Go.ChangeShapes Go.WideShapes Go.ChangeAt Go.RowKit Go.Deep

/-- what is left behind n, or -1 -/
def left (l n : Nat) : Int := if n ≤ l then (l : Int) - n else -1
theorem left_le {l n : Nat} (h : n ≤ l) : left l n = (l : Int) - n := if_pos h
theorem left_gt {l n : Nat} (h : ¬ n ≤ l) : left l n = -1 := if_neg h
def asSize : List (ByteArray × ByteArray) → Nat
  | [] => 0
  | x :: r => x.1.size + x.2.size + asSize r
/-- all the bytes and all the lengths of a forest, but its own length -/
def Fo.size : Fo → Nat
  | .nil => 0
  | .cons _ _ n t al kids rest => n.size + t.size + (al.length + asSize al) + (kids.len + kids.size) + rest.size
theorem szAttr_any (x : ByteArray × ByteArray) (l : Nat) (w : World) (hl : l ≤ 1048576) (h1 : x.1.size ≤ maxLen) (h2 : x.2.size ≤ maxLen) :
    Calls Tryz.prog 113 #[.agg #[.string x.1, .string x.2], .int .i64 (l : Int)] w fun e w' => e = .returned (.int .i64 (left l (x.1.size + x.2.size))) ∧ Below w.heap.size w w' := by
  obtain ⟨n, v⟩ := x
  simp only at h1 h2 ⊢
  unfold maxLen at h1 h2
  have hg := (Below.refl w.heap.size w).alloc (Nat.le_refl _) (.cells #[.string n, .string v] 149)
  by_cases c1 : n.size ≤ l
  · by_cases c2 : n.size + v.size ≤ l
    · have HL := Lib.hid (left_le c2)
      go_enter Tryz.func113, Tryz.ntmps113
      go_wp2
      go_ret
      exact ⟨by rw [HL.out]; go_num, hg⟩
    · have HL := Lib.hid (left_gt c2)
      go_enter Tryz.func113, Tryz.ntmps113
      go_wp2
      go_ret
      exact ⟨by rw [HL.out]; rfl, hg⟩
  · have HL := Lib.hid (left_gt (l := l) (n := n.size + v.size) (by omega))
    go_enter Tryz.func113, Tryz.ntmps113
    go_wp2
    go_ret
    exact ⟨by rw [HL.out]; rfl, hg⟩
/-- attributes stand where they stood -/
theorem al_below {w w' : World} {B lo hi b o : Nat} {A : Option Addr} {al : List (ByteArray × ByteArray)} (hA : RowAt lo hi A al.length b o) (h : AsAt w b o al) (hB : Below B w w') (hh : hi ≤ B) : AsAt w' b o al := by
  cases al with
  | nil => trivial
  | cons x r => exact h.carry fun o => hB.cell (p := ⟨b, o, none⟩) (by have := (hA.2 (by simp)).2.2; show b < _; omega)
theorem szAttrS_any (al : List (ByteArray × ByteArray)) (l : Nat) (w : World) (A : Option Addr) (c b o hi : Nat) (hl : l ≤ 1048576) (hA : RowAt 0 hi A al.length b o) (hh : hi ≤ w.heap.size) (hal : AsAt w b o al) :
    Calls Tryz.prog 68 #[.slice A al.length c, .int .i64 (l : Int)] w fun e w' => e = .returned (.int .i64 (left l (al.length + asSize al))) ∧ Below w.heap.size w w' := by
  have hlen := hA.1
  unfold maxLen at hlen
  by_cases c1 : al.length ≤ l
  · have HA := Lib.hid hA
    have HS := Lib.hid hal
    clear hA hal
    go_enter Tryz.func68, Tryz.ntmps68
    go_wp2
    go_loopw [1, 5] (fun x i wr => ∃ (k m : Nat) (suf : List (ByteArray × ByteArray)), x = .int .i64 (m : Int) ∧ i = .int .i64 (k : Int) ∧ k + suf.length = al.length ∧ m ≤ l ∧ l + asSize suf = m + (al.length + asSize al) ∧ Hid (AsAt w b (o + k * 2) suf ∧ Below w.heap.size w wr)) (fun x i wr => al.length - (intOf i).toNat)
    case atStart => exact ⟨0, l - al.length, al, by go_num, rfl, by omega, by omega, by omega, Lib.hid ⟨by simpa using HS.out, Below.refl _ _⟩⟩
    case round =>
      obtain ⟨k, m, suf, rfl, rfl, hk, hml, hm, HH⟩ := hrel
      cases suf with
      | nil =>
        simp [asSize] at hk hm
        have HL := Lib.hid (left_le (l := l) (n := al.length + asSize al) (by omega))
        go_wp2
        go_ret
        exact ⟨by rw [HL.out, show (m : Int) = (l : Int) - ((al.length + asSize al : Nat) : Int) by omega]; rfl, HH.out.2⟩
      | cons x r =>
        obtain ⟨⟨s1, s2, s3, s4, s5⟩, hB⟩ := HH.out
        obtain ⟨rfl, hlo, hhi⟩ := HA.out.2 (by simp at hk; omega)
        have t1 := (hB.cell (p := ⟨b, o + k * 2, none⟩) (by show b < _; omega)).trans s1
        have t2 := (hB.cell (p := ⟨b, o + k * 2 + 1, none⟩) (by show b < _; omega)).trans s2
        have H5 := Lib.hid s5
        have HB := Lib.hid hB
        simp [asSize] at hk hm
        clear HH s1 s2 s5 hB
        by_cases c2 : x.1.size + x.2.size ≤ m
        · have HL := Lib.hid (left_le c2)
          go_wp2_with (go_at_call 113; go_loud (refine (szAttr_any x m _ (by omega) s3 s4).mono ?_; rintro e w' ⟨rfl, hB'⟩; rw [HL.out]))
          go_roundw
          case rel => exact ⟨k + 1, m - (x.1.size + x.2.size), r, by go_num, by go_num, by omega, by omega, by omega, Lib.hid ⟨by rw [show o + (k + 1) * 2 = o + k * 2 + 2 by omega]; exact H5.out, HB.out.trans (hB'.mono HB.out.size)⟩⟩
          case measure => simp [intOf]; omega
        · have HL := Lib.hid (left_gt c2)
          have HM := Lib.hid (left_gt (l := l) (n := al.length + asSize al) (by omega))
          go_wp2_with (go_at_call 113; go_loud (refine (szAttr_any x m _ (by omega) s3 s4).mono ?_; rintro e w' ⟨rfl, hB'⟩; rw [HL.out]))
          go_ret
          exact ⟨by rw [HM.out]; rfl, HB.out.trans (hB'.mono HB.out.size)⟩
  · have HL := Lib.hid (left_gt (l := l) (n := al.length + asSize al) (by omega))
    go_enter Tryz.func68, Tryz.ntmps68
    go_wp2
    go_ret
    exact ⟨by rw [HL.out]; rfl, Below.refl _ _⟩
/-- how many nodes -/
def Fo.nodes : Fo → Nat
  | .nil => 0
  | .cons _ _ _ _ _ kids rest => kids.nodes + rest.nodes + 1
def SzOK (F : Fo) : Prop := ∀ (l : Nat) (w : World) (A : Option Addr) (c b o hi : Nat), l ≤ 1048576 → RowAt 0 hi A F.len b o → hi ≤ w.heap.size → FoAt w 0 hi b o F →
    Calls Tryz.prog 8 #[.slice A F.len c, .int .i64 (l : Int)] w fun e w' => e = .returned (.int .i64 (left l (F.len + F.size))) ∧ Below w.heap.size w w'
theorem szNode_any (k sp : Int) (n t : ByteArray) (al : List (ByteArray × ByteArray)) (kids : Fo) (ih : SzOK kids) (l : Nat) (w : World) (A K : Option Addr) (c kc b o kb ko hi : Nat) (hl : l ≤ 1048576)
    (h1 : n.size ≤ maxLen) (h2 : t.size ≤ maxLen) (hA : RowAt 0 hi A al.length b o) (hal : AsAt w b o al) (hK : RowAt 0 hi K kids.len kb ko) (hk : FoAt w 0 hi kb ko kids) (hh : hi ≤ w.heap.size) :
    Calls Tryz.prog 30 #[.agg #[.int .i64 k, .int .i64 sp, .string n, .string t, .slice A al.length c, .slice K kids.len kc], .int .i64 (l : Int)] w fun e w' =>
      e = .returned (.int .i64 (left l (n.size + t.size + (al.length + asSize al) + (kids.len + kids.size)))) ∧ Below w.heap.size w w' := by
  have hg := (Below.refl w.heap.size w).alloc (Nat.le_refl _) (.cells #[.int .i64 k, .int .i64 sp, .string n, .string t, .slice A al.length c, .slice K kids.len kc] 64)
  have hal' : AsAt (w.alloc (.cells #[.int .i64 k, .int .i64 sp, .string n, .string t, .slice A al.length c, .slice K kids.len kc] 64)) b o al := by
    cases al with
    | nil => trivial
    | cons x r => exact hal.carry fun o => hg.cell (p := ⟨b, o, none⟩) (by have := (hA.2 (by simp)).2.2; show b < _; omega)
  have hsz : w.heap.size ≤ (w.alloc (.cells #[.int .i64 k, .int .i64 sp, .string n, .string t, .slice A al.length c, .slice K kids.len kc] 64)).heap.size := hg.size
  have HG := Lib.hid hg
  have HN := Lib.hid hal'
  have HF := Lib.hid hk
  have HI := Lib.hid ih
  have HSZ := Lib.hid hsz
  clear hg hal' hal ih hsz hk
  unfold maxLen at h1 h2
  by_cases c1 : n.size ≤ l
  · by_cases c2 : n.size + t.size ≤ l
    · by_cases c3 : al.length + asSize al ≤ l - (n.size + t.size)
      · by_cases c4 : kids.len + kids.size ≤ l - (n.size + t.size + (al.length + asSize al))
        · have HL3 := Lib.hid (left_le c3)
          have HL4 := Lib.hid (left_le c4)
          have HM := Lib.hid (left_le (l := l) (n := n.size + t.size + (al.length + asSize al) + (kids.len + kids.size)) (by omega))
          go_enter Tryz.func30, Tryz.ntmps30
          go_wp2_with (first
            | (go_at_call 68; rw [show (l : Int) - (n.size : Int) - (t.size : Int) = ((l - (n.size + t.size) : Nat) : Int) by omega]; go_loud (refine (szAttrS_any al (l - (n.size + t.size)) _ A c b o hi (by omega) hA (Nat.le_trans hh HSZ.out) HN.out).mono ?_; rintro e w' ⟨rfl, hB'⟩; rw [HL3.out]; have hc5 := box_cell hB' (j := 5) rfl; have HB' := Lib.hid hB'; clear hB'))
            | (go_at_call 8; go_loud (rw [show ((l - (n.size + t.size) : Nat) : Int) - ((al.length : Int) + (asSize al : Int)) = ((l - (n.size + t.size + (al.length + asSize al)) : Nat) : Int) by omega]; refine (HI.out (l - (n.size + t.size + (al.length + asSize al))) _ K kc kb ko hi (by omega) hK (Nat.le_trans hh (Nat.le_trans HSZ.out HB'.out.size)) (FoAt.below hK (FoAt.below hK HF.out HG.out hh) HB'.out (Nat.le_trans hh HSZ.out))).mono ?_; rintro e w'' ⟨rfl, hB''⟩; rw [HL4.out]; have HB'' := Lib.hid hB''; clear hB'')))
          go_ret
          exact ⟨by rw [HM.out]; go_num, (HG.out.trans (HB'.out.mono HSZ.out)).trans (HB''.out.mono (Nat.le_trans HSZ.out HB'.out.size))⟩
        · have HL3 := Lib.hid (left_le c3)
          have HL4 := Lib.hid (left_gt c4)
          have HM := Lib.hid (left_gt (l := l) (n := n.size + t.size + (al.length + asSize al) + (kids.len + kids.size)) (by omega))
          go_enter Tryz.func30, Tryz.ntmps30
          go_wp2_with (first
            | (go_at_call 68; rw [show (l : Int) - (n.size : Int) - (t.size : Int) = ((l - (n.size + t.size) : Nat) : Int) by omega]; go_loud (refine (szAttrS_any al (l - (n.size + t.size)) _ A c b o hi (by omega) hA (Nat.le_trans hh HSZ.out) HN.out).mono ?_; rintro e w' ⟨rfl, hB'⟩; rw [HL3.out]; have hc5 := box_cell hB' (j := 5) rfl; have HB' := Lib.hid hB'; clear hB'))
            | (go_at_call 8; go_loud (rw [show ((l - (n.size + t.size) : Nat) : Int) - ((al.length : Int) + (asSize al : Int)) = ((l - (n.size + t.size + (al.length + asSize al)) : Nat) : Int) by omega]; refine (HI.out (l - (n.size + t.size + (al.length + asSize al))) _ K kc kb ko hi (by omega) hK (Nat.le_trans hh (Nat.le_trans HSZ.out HB'.out.size)) (FoAt.below hK (FoAt.below hK HF.out HG.out hh) HB'.out (Nat.le_trans hh HSZ.out))).mono ?_; rintro e w'' ⟨rfl, hB''⟩; rw [HL4.out]; have HB'' := Lib.hid hB''; clear hB'')))
          go_ret
          exact ⟨by rw [HM.out]; rfl, (HG.out.trans (HB'.out.mono HSZ.out)).trans (HB''.out.mono (Nat.le_trans HSZ.out HB'.out.size))⟩
      · have HL3 := Lib.hid (left_gt c3)
        have HM := Lib.hid (left_gt (l := l) (n := n.size + t.size + (al.length + asSize al) + (kids.len + kids.size)) (by omega))
        go_enter Tryz.func30, Tryz.ntmps30
        go_wp2_with (go_at_call 68; rw [show (l : Int) - (n.size : Int) - (t.size : Int) = ((l - (n.size + t.size) : Nat) : Int) by omega]; go_loud (refine (szAttrS_any al (l - (n.size + t.size)) _ A c b o hi (by omega) hA (Nat.le_trans hh HSZ.out) HN.out).mono ?_; rintro e w' ⟨rfl, hB'⟩; rw [HL3.out]))
        go_ret
        exact ⟨by rw [HM.out]; rfl, HG.out.trans (hB'.mono HSZ.out)⟩
    · have HM := Lib.hid (left_gt (l := l) (n := n.size + t.size + (al.length + asSize al) + (kids.len + kids.size)) (by omega))
      go_enter Tryz.func30, Tryz.ntmps30
      go_wp2
      go_ret
      exact ⟨by rw [HM.out]; rfl, HG.out⟩
  · have HM := Lib.hid (left_gt (l := l) (n := n.size + t.size + (al.length + asSize al) + (kids.len + kids.size)) (by omega))
    go_enter Tryz.func30, Tryz.ntmps30
    go_wp2
    go_ret
    exact ⟨by rw [HM.out]; rfl, HG.out⟩
theorem szNodeS_lt : ∀ (N : Nat) (F : Fo), F.nodes < N → SzOK F := by
  intro N
  induction N with
  | zero => intro F hF; omega
  | succ N IH =>
    intro F hF l w A c b o hi hl hA hh hFo
    have hlen := hA.1
    unfold maxLen at hlen
    have HF := Lib.hid hF
    have HI := Lib.hid IH
    clear hF IH
    generalize hn : F.len = len at *
    by_cases c1 : len ≤ l
    · have HA := Lib.hid hA
      have HS := Lib.hid hFo
      have HN := Lib.hid hn
      clear hA hFo hn
      go_enter Tryz.func8, Tryz.ntmps8
      go_wp2
      go_loopw [1, 5] (fun x i wr => ∃ (k m : Nat) (suf : Fo), x = .int .i64 (m : Int) ∧ i = .int .i64 (k : Int) ∧ k + suf.len = len ∧ m ≤ l ∧ l + suf.size = m + (len + F.size) ∧ Hid (FoAt w 0 hi b (o + k * 6) suf ∧ Below w.heap.size w wr ∧ suf.nodes < N + 1)) (fun x i wr => len - (intOf i).toNat)
      case atStart => exact ⟨0, l - len, F, by go_num, rfl, by simp [HN.out], by omega, by omega, Lib.hid ⟨by simpa using HS.out, Below.refl _ _, HF.out⟩⟩
      case round =>
        obtain ⟨k, m, suf, rfl, rfl, hk, hml, hm, HH⟩ := hrel
        cases suf with
        | nil =>
          simp [Fo.size, Fo.len] at hk hm
          have HL := Lib.hid (left_le (l := l) (n := len + F.size) (by omega))
          go_wp2
          go_ret
          exact ⟨by rw [HL.out, show (m : Int) = (l : Int) - ((len + F.size : Nat) : Int) by omega]; rfl, HH.out.2.1⟩
        | cons xk xs xn xt xa kids r =>
          obtain ⟨⟨⟨s0, s1, s2, s3, z2, z3⟩, ⟨A4, c4, b4, o4, s4, r4, a4⟩, ⟨A5, c5, b5, o5, s5, r5, a5⟩, sr⟩, hB, hnd⟩ := HH.out
          replace r4 := r4.2
          replace r5 := r5.2
          obtain ⟨rfl, hlo, hhi⟩ := HA.out.2 (by simp [Fo.len] at hk; omega)
          have hb : b < w.heap.size := by omega
          have t0 := (hB.cell (p := ⟨b, _, none⟩) hb).trans s0
          have t1 := (hB.cell (p := ⟨b, _, none⟩) hb).trans s1
          have t2 := (hB.cell (p := ⟨b, _, none⟩) hb).trans s2
          have t3 := (hB.cell (p := ⟨b, _, none⟩) hb).trans s3
          have t4 := (hB.cell (p := ⟨b, _, none⟩) hb).trans s4
          have t5 := (hB.cell (p := ⟨b, _, none⟩) hb).trans s5
          have HR := Lib.hid sr
          have HB := Lib.hid hB
          have H4 := Lib.hid a4
          have H5 := Lib.hid a5
          have HND := Lib.hid hnd
          simp [Fo.size, Fo.len] at hk hm
          clear HH s0 s1 s2 s3 s4 s5 sr hB hnd a4 a5
          by_cases c2 : xn.size + xt.size + (xa.length + asSize xa) + (kids.len + kids.size) ≤ m
          · have HL := Lib.hid (left_le c2)
            go_wp2_with (go_at_call 30; go_loud (refine (szNode_any xk xs xn xt xa kids (HI.out kids (by have := HND.out; simp [Fo.nodes] at this; omega)) m _ A4 A5 c4 c5 b4 o4 b5 o5 hi (by omega) z2 z3 r4 (al_below r4 H4.out HB.out hh) r5 (FoAt.below r5 H5.out HB.out hh) (Nat.le_trans hh HB.out.size)).mono ?_; rintro e w' ⟨rfl, hB'⟩; rw [HL.out]; have HB' := Lib.hid hB'; clear hB'))
            go_roundw
            case rel => exact ⟨k + 1, m - (xn.size + xt.size + (xa.length + asSize xa) + (kids.len + kids.size)), r, by go_num, by go_num, by omega, by omega, by omega, Lib.hid ⟨by rw [show o + (k + 1) * 6 = o + k * 6 + 6 by omega]; exact HR.out, HB.out.trans (HB'.out.mono HB.out.size), by have := HND.out; simp [Fo.nodes] at this; omega⟩⟩
            case measure => simp [intOf]; omega
          · have HL := Lib.hid (left_gt c2)
            have HM := Lib.hid (left_gt (l := l) (n := len + F.size) (by omega))
            go_wp2_with (go_at_call 30; go_loud (refine (szNode_any xk xs xn xt xa kids (HI.out kids (by have := HND.out; simp [Fo.nodes] at this; omega)) m _ A4 A5 c4 c5 b4 o4 b5 o5 hi (by omega) z2 z3 r4 (al_below r4 H4.out HB.out hh) r5 (FoAt.below r5 H5.out HB.out hh) (Nat.le_trans hh HB.out.size)).mono ?_; rintro e w' ⟨rfl, hB'⟩; rw [HL.out]; have HB' := Lib.hid hB'; clear hB'))
            go_ret
            exact ⟨by rw [HM.out]; rfl, HB.out.trans (HB'.out.mono HB.out.size)⟩
    · have HL := Lib.hid (left_gt (l := l) (n := len + F.size) (by omega))
      go_enter Tryz.func8, Tryz.ntmps8
      go_wp2
      go_ret
      exact ⟨by rw [HL.out]; rfl, Below.refl _ _⟩
theorem szNodeS_any (F : Fo) : SzOK F := szNodeS_lt (F.nodes + 1) F (Nat.lt_succ_self _)
end Go.Proofs.YthdkkpbhijlpaaaGreat
