import Derived.Test.YtpennadfomnenaaGreatDoorQ35
import Derived.Test.YtpennadfomnenaaGreatDoorQ23
set_option linter.unusedVariables false
namespace Go.Proofs.YtpennadfomnenaaGreatDoor
open Go.ChangeShapes Go.WideShapes Go.ChangeAt Go.RowKit Go.Deep

/-- the stack's last entry -/
theorem BS.top {w : World} {B bb : Nat} {F : Fo} {x : Fr} {up : List Fr} {c : Nat} {sv nv : Value} {nvs : List Value} {bl : List Nat} (h : BS w B bb ⟨F, x :: up, c⟩ sv nv nvs bl) :
    ∃ gs caps, sv = .slice (some ⟨gs, 0, none⟩) (up.length + 1) caps ∧ gs < w.heap.size ∧ w.cell? ⟨gs, up.length * 2, none⟩ = some (.string x.n) ∧ w.cell? ⟨gs, up.length * 2 + 1, none⟩ = some (.int .i64 x.sp) := by
  obtain ⟨gs, caps, hsv⟩ : ∃ gs caps, sv = .slice (some ⟨gs, 0, none⟩) (up.length + 1) caps := by
    rcases h.srow.2 with ⟨_, h0⟩ | ⟨g, cap, cur, e, _⟩
    · exact absurd h0 (by simp)
    · exact ⟨g, cap, e⟩
  have hsr := h.srow
  have hlt := (World.ownsRow.lt hsr gs (by rw [hsv]; rfl)).2
  rw [hsv, opensOf_cons, osVals_snoc] at hsr
  have hl : (osVals (opensOf up)).length = up.length * 2 := by rw [osVals_len, opensOf_len]
  refine ⟨gs, caps, hsv, hlt, ?_, ?_⟩
  · rw [hsr.cellAt _ (by omega), List.getElem?_append_right (by omega), hl, Nat.sub_self]; rfl
  · rw [hsr.cellAt _ (by omega), List.getElem?_append_right (by omega), hl, Nat.add_sub_cancel_left]; rfl
set_option maxHeartbeats 1000000 in
set_option maxRecDepth 100000 in
theorem rawS_any (B bb : Nat) (z : Zi) (sv nv : Value) (nvs : List Value) (bl : List Nat) (w : World) (h : BS w B bb z sv nv nvs bl) :
    Calls Tryz.prog 138 #[.pointer (some ⟨bb, 0, none⟩)] w fun e w' => e = .returned (.string z.raw) ∧ Below w.heap.size w w' := by
  have p0 : w.cell? ⟨bb, 0, none⟩ = some sv := h.lay.1 0
  have hm10 := h.fit.2.2.1
  obtain ⟨F, up, c⟩ := z
  cases up with
  | nil =>
    obtain ⟨s0, d0, hsv⟩ : ∃ s0 d0, sv = .slice s0 0 d0 := by
      rcases h.srow.2 with ⟨e, _⟩ | ⟨g, cap, cur, e, _⟩
      · exact ⟨none, 0, e⟩
      · exact ⟨_, _, e⟩
    rw [hsv] at p0
    clear h
    have E : Hid ((⟨F, [], c⟩ : Zi).raw = ⟨#[]⟩) := Lib.hid (by
      simp only [Zi.raw, rawIn, opensOf, List.map_nil, List.reverse_nil, topOf_nil]
      rw [if_neg (by simp only [inL, ByteArray.toList_eq]; decide)])
    go_enter Tryz.func138, Tryz.ntmps138
    go_wp2
    go_ret
    exact ⟨by rw [E.out]; rfl, Below.refl _ _⟩
  | cons x up =>
    obtain ⟨gs, caps, hsv, hlt, t0, t1⟩ := h.top
    rw [hsv] at p0
    simp only [List.length_cons] at hm10
    have hix : ((up.length : Nat) : Int) < ((up.length : Nat) : Int) + 1 := by omega
    have hpos : ((up.length : Nat) : Int) + 1 > 0 := by omega
    have hbb := (h.lt bb (Or.inl rfl)).2
    clear h hsv
    by_cases hs : x.sp = 0
    · have hs' : (x.sp == 0) = true := by simpa using hs
      cases hr : inL rawL x.n with
      | true =>
        have E : Hid ((⟨F, x :: up, c⟩ : Zi).raw = x.n) := Lib.hid (by
          simp only [Zi.raw, rawIn, topOf_cons]
          rw [if_pos (by rw [hs', hr]; rfl)])
        have HR := Lib.hid hr
        rw [hs] at t1
        clear hr hs hs'
        go_enter Tryz.func138, Tryz.ntmps138
        go_wp2_with (go_at_call 67; refine (l01Raw_any x.n _).mono ?_; rintro e w1 ⟨rfl, hB⟩; rw [HR.out]; have q0 := (hB.cell (p := ⟨bb, 0, none⟩) hbb).trans p0; have u0 := (hB.cell (p := ⟨gs, up.length * 2, none⟩) hlt).trans t0; have HB := Lib.hid hB; clear hB)
        go_ret
        exact ⟨by rw [E.out]; rfl, HB.out⟩
      | false =>
        have E : Hid ((⟨F, x :: up, c⟩ : Zi).raw = ⟨#[]⟩) := Lib.hid (by
          simp only [Zi.raw, rawIn, topOf_cons]
          rw [if_neg (by rw [hr]; simp)])
        have HR := Lib.hid hr
        rw [hs] at t1
        clear hr hs hs'
        go_enter Tryz.func138, Tryz.ntmps138
        go_wp2_with (go_at_call 67; refine (l01Raw_any x.n _).mono ?_; rintro e w1 ⟨rfl, hB⟩; rw [HR.out]; have HB := Lib.hid hB; clear hB)
        go_ret
        exact ⟨by rw [E.out]; rfl, HB.out⟩
    · have hs' : (x.sp == 0) = false := by simpa using hs
      have E : Hid ((⟨F, x :: up, c⟩ : Zi).raw = ⟨#[]⟩) := Lib.hid (by
        simp only [Zi.raw, rawIn, topOf_cons]
        rw [if_neg (by rw [hs']; simp)])
      clear hs
      go_enter Tryz.func138, Tryz.ntmps138
      go_wp2
      go_ret
      exact ⟨by rw [E.out]; rfl, Below.refl _ _⟩
end Go.Proofs.YtpennadfomnenaaGreatDoor
namespace Go.Proofs.YtpennadfomnenaaGreatDoor
open Go.ChangeShapes Go.WideShapes Go.ChangeAt Go.RowKit Go.Deep

theorem NodS.names {w : World} {B : Nat} : ∀ {up : List Fr} {F : Fo} {nvs : List Value} {bl : List Nat}, NodS w B up F nvs bl → ∀ x ∈ up, x.n.size ≤ maxLen
  | [], _, _, _, _, x, hx => by cases hx
  | y :: up, F, nvs, bl, ⟨v, bF, A, ca, ba, nvs', bl', h1, h2, h3, h4, h5, h6⟩, x, hx => by
    rcases List.mem_cons.1 hx with rfl | hx
    · exact h3.1
    · exact NodS.names h5 x hx
/-- the model's stack, as its functions read it -/
theorem BS.os {w : World} {B bb : Nat} {z : Zi} {sv nv : Value} {nvs : List Value} {bl : List Nat} (h : BS w B bb z sv nv nvs bl) : ∃ A c b, sv = .slice A (opensOf z.up).length c ∧ OsIn w A b 0 (opensOf z.up) := by
  have hr : ORow w B sv (opensOf z.up) := by
    have := h.srow
    unfold ORow
    rw [opensOf_len]
    exact this
  have hn : ∀ x ∈ opensOf z.up, x.1.size ≤ maxLen := fun x hx => by
    unfold opensOf at hx
    rw [List.mem_reverse, List.mem_map] at hx
    obtain ⟨y, hy, rfl⟩ := hx
    exact h.nod.names y hy
  obtain ⟨A, c, b, h1, h2⟩ := hr.stk hn (by rw [opensOf_len]; have := h.fit.2.2.1; omega)
  exact ⟨A, c, b, h1, h2.2.2.1⟩
/-- what pop does (XSpL shows it) -/
def PopC (B bb : Nat) : Prop := ∀ (k : Nat) (z : Zi) (sv nv : Value) (nvs : List Value) (bl : List Nat) (w : World), BS w B bb z sv nv nvs bl → k ≤ z.up.length →
  Calls Tryz.prog 139 #[.pointer (some ⟨bb, 0, none⟩), .int .i64 (k : Int)] w fun e w' => e = .returned (.tuple #[]) ∧ BSOut B bb (FpS bb sv nv bl) w (z.to k) w'
end Go.Proofs.YtpennadfomnenaaGreatDoor
namespace Go.Proofs.YtpennadfomnenaaGreatDoor
open Go.ChangeShapes Go.WideShapes Go.ChangeAt Go.RowKit Go.Deep

set_option maxHeartbeats 4000000 in
set_option maxRecDepth 100000 in
/-- an element that would stand too deep -/
theorem open_deep (B bb : Nat) (hP : PopC B bb) (z : Zi) (sv nv : Value) (nvs : List Value) (bl : List Nat) (tk : Int) (ta tl : Nat) (tn tt : ByteArray) (tal : List (ByteArray × ByteArray)) (ts : Bool) (TA : Option Addr) (tc : Nat) (w : World) (h : BS w B bb z sv nv nvs bl)
    (hd : 10 ≤ leftOf (opensOf z.up) tn) :
    Calls Tryz.prog 141 #[.pointer (some ⟨bb, 0, none⟩), .agg #[.int .i64 tk, .int .i64 (ta : Int), .int .i64 (tl : Int), .string tn, .string tt, .slice TA tal.length tc, .bool ts]] w
      fun e w' => e = .returned (.tuple #[]) ∧ w'.cell? ⟨bb, 3, none⟩ = some (.int .i64 11) ∧ Below B w w' := by
  have hbb := (h.lt bb (Or.inl rfl)).2
  have hB := h.le
  have hm10 := h.fit.2.2.1
  have hle : leftOf (opensOf z.up) tn ≤ z.up.length := by have := leftOf_le (opensOf z.up) tn; rw [opensOf_len] at this; exact this
  have p0 : w.cell? ⟨bb, 0, none⟩ = some sv := h.lay.1 0
  obtain ⟨A, c, b, hsv, hos⟩ := h.os
  rw [hsv, opensOf_len] at p0
  generalize hK : leftOf (opensOf z.up) tn = K at hd hle
  have A1 := Lib.hid ((Below.refl w.heap.size w).alloc (Nat.le_refl _) (.cells #[.int .i64 tk, .int .i64 (ta : Int), .int .i64 (tl : Int), .string tn, .string tt, .slice TA tal.length tc, .bool ts] 29))
  have L1 := Lib.hid (Lay.new w #[.int .i64 tk, .int .i64 (ta : Int), .int .i64 (tl : Int), .string tn, .string tt, .slice TA tal.length tc, .bool ts] 29)
  have HS := Lib.hid h
  have HOS := Lib.hid hos
  have HK := Lib.hid hK
  have HPC := Lib.hid hP
  have HI : Hid (∀ W, Below w.heap.size w W → Calls Tryz.prog 195 #[.slice A z.up.length c, .string tn] W fun e w' => e = .returned (.int .i64 ((z.up.length : Int) - (K : Nat))) ∧ Below w.heap.size w w' ∧ Below W.heap.size W w') := Lib.hid fun W hW => by
    have := l05Implied_any (opensOf z.up) tn W A c b 0 (HOS.out.next hW)
    rw [opensOf_len, HK.out] at this
    exact this.mono fun e w' ⟨h1, h2⟩ => ⟨h1, hW.trans (h2.mono hW.size), h2⟩
  have hw1 : IntKind.i64.wrap (((z.up.length : Nat) : Int) - (((z.up.length : Nat) : Int) - ((K : Nat) : Int))) = (K : Int) := by rw [show ((z.up.length : Nat) : Int) - (((z.up.length : Nat) : Int) - ((K : Nat) : Int)) = (K : Int) by omega]; exact IntWalk.i64_in _ (by omega)
  clear h hos hsv hK hP
  go_enter Tryz.func141, Tryz.ntmps141
  go_wp2_with fail
  have q0 := (A1.out.drew.cell (p := ⟨bb, 0, none⟩) hbb).trans p0
  have q3 : (w.alloc (.cells #[.int .i64 tk, .int .i64 (ta : Int), .int .i64 (tl : Int), .string tn, .string tt, .slice TA tal.length tc, .bool ts] 29)).drew.cell? ⟨w.heap.size, 3, none⟩ = some (.string tn) := L1.out.1 3
  go_region_held3 (fun w' => w'.cell? ⟨bb, 0, none⟩ = some (.slice A z.up.length c) ∧ w'.cell? ⟨w.heap.size, 3, none⟩ = some (.string tn)) (first | exact And.intro q0 q3 | exact And.intro y0 y3 | go_keep) (first | (go_at_call 195; refine (HI.out _ A1.out.drew).mono ?_; rintro e w1 ⟨rfl, hB1, hB2⟩; have y3 := (hB2.cell (p := ⟨w.heap.size, 3, none⟩) (by simp)).trans q3; have HL1 := Lib.hid (lay_same L1.out (hB2.block w.heap.size (by simp))); clear hB2; have y0 := (hB1.cell (p := ⟨bb, 0, none⟩) hbb).trans p0; have HB1 := Lib.hid hB1; clear hB1))
  have hno : ¬ FpS bb sv nv bl w.heap.size := fun hf => absurd (HS.out.lt _ hf).2 (Nat.lt_irrefl _)
  have hxw : w.heap.size < w1.heap.size := World.block_lt_of_cell? w1 ⟨w.heap.size, 3, none⟩ y3
  have HNO := Lib.hid (And.intro hno hxw)
  clear hno hxw q0 q3
  go_wp2_with (go_at_call 139; refine (HPC.out K z sv nv nvs bl _ (HS.out.next HB1.out) hle).mono ?_; rintro e w2 ⟨rfl, hO⟩; have HO := Lib.hid hO; clear hO; have y3 := (HO.out.1.cell (p := ⟨w.heap.size, 3, none⟩) HNO.out.2 HNO.out.1).trans y3)
  obtain ⟨hB2, sv2, nv2, nvs2, bl2, hS2, hq2⟩ := HO.out
  have hyl := Zi.to_len z K hle
  generalize z.to K = y at HO hS2 hyl
  obtain ⟨A2, c2, b2, hsv2, hos2⟩ := hS2.os
  obtain ⟨gn, cap, _, _, _, hnv2, _⟩ := hS2.kids
  have r0 : w2.cell? ⟨bb, 0, none⟩ = some sv2 := hS2.lay.1 0
  have r1 : w2.cell? ⟨bb, 1, none⟩ = some nv2 := hS2.lay.1 1
  have f3 : w2.frozen? ⟨bb, 3, none⟩ = false := hS2.lay.2 3
  have r3 : w2.cell? ⟨bb, 3, none⟩ = some (.int .i64 0) := hS2.lay.1 3
  rw [hsv2, opensOf_len, hyl] at r0
  rw [hnv2, hyl] at r1
  have HSP : Hid (∀ W, (w2.drew = W ∨ w2 = W) → Calls Tryz.prog 196 #[.slice A2 K c2, .string tn] W fun e w' => e = .returned (.int .i64 (spcOf (opensOf y.up) tn)) ∧ W = w') := Lib.hid fun W hW => by
    have h2 : Below w2.heap.size w2 W := by
      rcases hW with rfl | rfl
      · exact (Below.refl _ _).drew
      · exact Below.refl _ _
    have := l05Space_any (opensOf y.up) tn W A2 c2 b2 0 (hos2.next h2)
    rw [opensOf_len, hyl] at this
    exact this
  have HB2 := Lib.hid (And.intro hB2 hS2)
  clear hB2 hS2 hq2 hsv2 hos2 hnv2 y0 HO
  have hd' : ((K : Nat) : Int) + 1 > 10 := by omega
  go_region_held3 (fun w' => w'.cell? ⟨bb, 0, none⟩ = some (.slice A2 K c2) ∧ w'.cell? ⟨w.heap.size, 3, none⟩ = some (.string tn)) (first | exact And.intro r0 y3 | go_keep) (first | (go_at_call 196; refine (HSP.out _ (Or.inl rfl)).mono ?_; rintro e w3 ⟨rfl, rfl⟩))
  go_wp2
  refine bodyPost_ret (results_none rfl _ _ _) rfl ?_
  have hB0 : Below B w w2 := (HB1.out.mono (by have := (HS.out.lt bb (Or.inl rfl)).2; omega)).trans (HB2.out.1.below (fun q hq => (HS.out.lt q hq).1) (by have := HNO.out.2; omega))
  exact ⟨rfl, World.cell?_setCell_same _ _ _ r3, (hB0.setCell (p := ⟨bb, 3, none⟩) hB _).drew⟩
end Go.Proofs.YtpennadfomnenaaGreatDoor
namespace Go.Proofs.YtpennadfomnenaaGreatDoor
open Go.ChangeShapes Go.WideShapes Go.ChangeAt Go.RowKit Go.Deep

set_option maxHeartbeats 4000000 in
set_option maxRecDepth 100000 in
/-- one element too many -/
theorem open_many (B bb : Nat) (hP : PopC B bb) (z : Zi) (sv nv : Value) (nvs : List Value) (bl : List Nat) (tk : Int) (ta tl : Nat) (tn tt : ByteArray) (tal : List (ByteArray × ByteArray)) (ts : Bool) (TA : Option Addr) (tc : Nat) (w : World) (h : BS w B bb z sv nv nvs bl)
    (hd : ¬ 10 ≤ leftOf (opensOf z.up) tn) (hc : 60 ≤ z.c) :
    Calls Tryz.prog 141 #[.pointer (some ⟨bb, 0, none⟩), .agg #[.int .i64 tk, .int .i64 (ta : Int), .int .i64 (tl : Int), .string tn, .string tt, .slice TA tal.length tc, .bool ts]] w
      fun e w' => e = .returned (.tuple #[]) ∧ w'.cell? ⟨bb, 3, none⟩ = some (.int .i64 6) ∧ Below B w w' := by
  have hbb := (h.lt bb (Or.inl rfl)).2
  have hB := h.le
  have hm10 := h.fit.2.2.1
  have hle : leftOf (opensOf z.up) tn ≤ z.up.length := by have := leftOf_le (opensOf z.up) tn; rw [opensOf_len] at this; exact this
  have p0 : w.cell? ⟨bb, 0, none⟩ = some sv := h.lay.1 0
  obtain ⟨A, c, b, hsv, hos⟩ := h.os
  rw [hsv, opensOf_len] at p0
  generalize hK : leftOf (opensOf z.up) tn = K at hd hle
  have A1 := Lib.hid ((Below.refl w.heap.size w).alloc (Nat.le_refl _) (.cells #[.int .i64 tk, .int .i64 (ta : Int), .int .i64 (tl : Int), .string tn, .string tt, .slice TA tal.length tc, .bool ts] 29))
  have L1 := Lib.hid (Lay.new w #[.int .i64 tk, .int .i64 (ta : Int), .int .i64 (tl : Int), .string tn, .string tt, .slice TA tal.length tc, .bool ts] 29)
  have HS := Lib.hid h
  have HOS := Lib.hid hos
  have HK := Lib.hid hK
  have HPC := Lib.hid hP
  have HI : Hid (∀ W, Below w.heap.size w W → Calls Tryz.prog 195 #[.slice A z.up.length c, .string tn] W fun e w' => e = .returned (.int .i64 ((z.up.length : Int) - (K : Nat))) ∧ Below w.heap.size w w' ∧ Below W.heap.size W w') := Lib.hid fun W hW => by
    have := l05Implied_any (opensOf z.up) tn W A c b 0 (HOS.out.next hW)
    rw [opensOf_len, HK.out] at this
    exact this.mono fun e w' ⟨h1, h2⟩ => ⟨h1, hW.trans (h2.mono hW.size), h2⟩
  have hw1 : IntKind.i64.wrap (((z.up.length : Nat) : Int) - (((z.up.length : Nat) : Int) - ((K : Nat) : Int))) = (K : Int) := by rw [show ((z.up.length : Nat) : Int) - (((z.up.length : Nat) : Int) - ((K : Nat) : Int)) = (K : Int) by omega]; exact IntWalk.i64_in _ (by omega)
  clear h hos hsv hK hP
  go_enter Tryz.func141, Tryz.ntmps141
  go_wp2_with fail
  have q0 := (A1.out.drew.cell (p := ⟨bb, 0, none⟩) hbb).trans p0
  have q3 : (w.alloc (.cells #[.int .i64 tk, .int .i64 (ta : Int), .int .i64 (tl : Int), .string tn, .string tt, .slice TA tal.length tc, .bool ts] 29)).drew.cell? ⟨w.heap.size, 3, none⟩ = some (.string tn) := L1.out.1 3
  go_region_held3 (fun w' => w'.cell? ⟨bb, 0, none⟩ = some (.slice A z.up.length c) ∧ w'.cell? ⟨w.heap.size, 3, none⟩ = some (.string tn)) (first | exact And.intro q0 q3 | exact And.intro y0 y3 | go_keep) (first | (go_at_call 195; refine (HI.out _ A1.out.drew).mono ?_; rintro e w1 ⟨rfl, hB1, hB2⟩; have y3 := (hB2.cell (p := ⟨w.heap.size, 3, none⟩) (by simp)).trans q3; have HL1 := Lib.hid (lay_same L1.out (hB2.block w.heap.size (by simp))); clear hB2; have y0 := (hB1.cell (p := ⟨bb, 0, none⟩) hbb).trans p0; have HB1 := Lib.hid hB1; clear hB1))
  have hno : ¬ FpS bb sv nv bl w.heap.size := fun hf => absurd (HS.out.lt _ hf).2 (Nat.lt_irrefl _)
  have hxw : w.heap.size < w1.heap.size := World.block_lt_of_cell? w1 ⟨w.heap.size, 3, none⟩ y3
  have HNO := Lib.hid (And.intro hno hxw)
  clear hno hxw q0 q3
  go_wp2_with (go_at_call 139; refine (HPC.out K z sv nv nvs bl _ (HS.out.next HB1.out) hle).mono ?_; rintro e w2 ⟨rfl, hO⟩; have HO := Lib.hid hO; clear hO; have y3 := (HO.out.1.cell (p := ⟨w.heap.size, 3, none⟩) HNO.out.2 HNO.out.1).trans y3)
  obtain ⟨hB2, sv2, nv2, nvs2, bl2, hS2, hq2⟩ := HO.out
  have hyl := Zi.to_len z K hle
  have hyc : (z.to K).c = z.c := Zi.pops_c _ _
  generalize z.to K = y at HO hS2 hyl hyc
  obtain ⟨A2, c2, b2, hsv2, hos2⟩ := hS2.os
  obtain ⟨gn, cap, _, _, _, hnv2, _⟩ := hS2.kids
  have r0 : w2.cell? ⟨bb, 0, none⟩ = some sv2 := hS2.lay.1 0
  have r1 : w2.cell? ⟨bb, 1, none⟩ = some nv2 := hS2.lay.1 1
  have f3 : w2.frozen? ⟨bb, 3, none⟩ = false := hS2.lay.2 3
  have r3 : w2.cell? ⟨bb, 3, none⟩ = some (.int .i64 0) := hS2.lay.1 3
  rw [hsv2, opensOf_len, hyl] at r0
  rw [hnv2, hyl] at r1
  have HMO := Lib.hid (more_bad B bb y.c w2.drew (hS2.lay.1 2) (hS2.lay.2 2) r3 f3 (by omega) hS2.fit.2.1 hB)
  have HSP : Hid (∀ W, (w2.drew = W ∨ w2 = W) → Calls Tryz.prog 196 #[.slice A2 K c2, .string tn] W fun e w' => e = .returned (.int .i64 (spcOf (opensOf y.up) tn)) ∧ W = w') := Lib.hid fun W hW => by
    have h2 : Below w2.heap.size w2 W := by
      rcases hW with rfl | rfl
      · exact (Below.refl _ _).drew
      · exact Below.refl _ _
    have := l05Space_any (opensOf y.up) tn W A2 c2 b2 0 (hos2.next h2)
    rw [opensOf_len, hyl] at this
    exact this
  have HB2 := Lib.hid (And.intro hB2 hS2)
  clear hB2 hS2 hq2 hsv2 hos2 hnv2 y0 HO
  have hd' : ¬ ((K : Nat) : Int) + 1 > 10 := by omega
  go_region_held3 (fun w' => w'.cell? ⟨bb, 0, none⟩ = some (.slice A2 K c2) ∧ w'.cell? ⟨w.heap.size, 3, none⟩ = some (.string tn)) (first | exact And.intro r0 y3 | go_keep) (first | (go_at_call 196; refine (HSP.out _ (Or.inl rfl)).mono ?_; rintro e w3 ⟨rfl, rfl⟩))
  go_wp2_with (go_at_call 193; refine HMO.out.mono ?_; rintro e w4 ⟨rfl, hw1, hw2⟩; have HW4 := Lib.hid hw2; clear hw2)
  refine bodyPost_ret (results_none rfl _ _ _) rfl ?_
  have hB0 : Below B w w2 := (HB1.out.mono (by have := (HS.out.lt bb (Or.inl rfl)).2; omega)).trans (HB2.out.1.below (fun q hq => (HS.out.lt q hq).1) (by have := HNO.out.2; omega))
  exact ⟨rfl, hw1, hB0.drew.trans HW4.out⟩
end Go.Proofs.YtpennadfomnenaaGreatDoor
