import Derived.Test.YtgkkmoliobhpiaaPth2
import Derived.IntWalk
namespace Go.Proofs.Ytgkkmoliobhpiaa
open Go.ChangeShapes Go.WideShapes Go.ChangeAt Go.RowKit Go.Deep

/-- a node that is handed back from a variable, and one value more -/
theorem ret_node2 {fn : Func} {p q : Tmp} {R : Ending → World → Prop} {a : Act} {W : World} {g : Nat} {v0 v1 v2 v3 v4 v5 u : Value} (hres : fn.results = #[.cell p 37, .tmp q])
    (hL : Lay W g #[v0, v1, v2, v3, v4, v5]) (hp : a.tmps.getD p undef = .pointer (some ⟨g, 0, none⟩)) (hq : a.tmps.getD q undef = u) (hd : a.defers = []) (hR : R (.returned (.tuple #[.agg #[v0, v1, v2, v3, v4, v5], u])) W) : bodyPost Try.prog fn R .ret a W := by
  refine bodyPost_ret (v := .tuple #[.agg #[v0, v1, v2, v3, v4, v5], u]) ?_ hd hR
  have hp' : a.tmps[p]?.getD undef = .pointer (some ⟨g, 0, none⟩) := by simpa using hp
  have hq' : a.tmps[q]?.getD undef = u := by simpa using hq
  have h0 := hL.1
  simp [results, hres, hp', hq', go_sem, h0]
/-- the node that a way leads to, in the model's words -/
def Found3 (F : Fo) (l : List Int) (w : World) (lo hi : Nat) (e : Ending) (w' : World) : Prop :=
  Below w.heap.size w w' ∧ ((F.path l .nil = .nil ∧ ∃ (k sp : Int) (n t : ByteArray) (A : Option Addr) (la ca : Nat) (K : Option Addr) (lk ck : Nat), e = .returned (.tuple #[.agg #[.int .i64 k, .int .i64 sp, .string n, .string t, .slice A la ca, .slice K lk ck], .bool false])) ∨
    ∃ (k sp : Int) (n t : ByteArray) (al : List (ByteArray × ByteArray)) (kids : Fo) (A K : Option Addr) (ca ck : Nat), F.path l .nil = .one k sp n t al kids ∧ (Fo.one k sp n t al kids).small ∧ (n.size ≤ maxLen ∧ t.size ≤ maxLen) ∧
      e = .returned (.tuple #[.agg #[.int .i64 k, .int .i64 sp, .string n, .string t, .slice A al.length ca, .slice K kids.len ck], .bool true]) ∧
      (∃ b o, RowC lo hi A al.length ca b o ∧ AsAt w b o al) ∧ ∃ b o, RowC lo hi K kids.len ck b o ∧ FoAt w lo hi b o kids)
theorem l01In_q (n a b : Int) (v : Bool) (hv : (decide (a ≤ n) && decide (n ≤ b)) = v) (w : World) (m : Nat) :
    Calls Try.prog 49 #[.int .i64 n, .int .i64 a, .int .i64 b] (w.drewN m) fun e w' => e = .returned (.bool v) ∧ w' = w.drewN m :=
  (l01In_any n a b (w.drewN m)).mono fun _ _ h => ⟨by rw [h.1, hv], h.2.symm⟩
theorem Lay.put6 {w : World} {g : Nat} {u0 u1 u2 u3 u4 u5 v0 v1 v2 v3 v4 v5 : Value} (h : Lay w g #[u0, u1, u2, u3, u4, u5]) : Lay ((((((w.setCell ⟨g, 0, none⟩ v0).setCell ⟨g, 1, none⟩ v1).setCell ⟨g, 2, none⟩ v2).setCell ⟨g, 3, none⟩ v3).setCell ⟨g, 4, none⟩ v4).setCell ⟨g, 5, none⟩ v5) g #[v0, v1, v2, v3, v4, v5] := by
  have := (((((h.set 0 v0).set 1 v1).set 2 v2).set 3 v3).set 4 v4).set 5 v5
  simpa using this
theorem Lay.away6 {w : World} {g g' : Nat} {cs : Array Value} {v0 v1 v2 v3 v4 v5 : Value} (h : Lay w g cs) (hg : g' ≠ g) : Lay ((((((w.setCell ⟨g', 0, none⟩ v0).setCell ⟨g', 1, none⟩ v1).setCell ⟨g', 2, none⟩ v2).setCell ⟨g', 3, none⟩ v3).setCell ⟨g', 4, none⟩ v4).setCell ⟨g', 5, none⟩ v5) g cs :=
  (((((h.setOther hg 0 v0).setOther hg 1 v1).setOther hg 2 v2).setOther hg 3 v3).setOther hg 4 v4).setOther hg 5 v5
theorem below_put6 {B : Nat} {w0 w : World} {g : Nat} (v0 v1 v2 v3 v4 v5 : Value) (h : Below B w0 w) (hg : B ≤ g) : Below B w0 ((((((w.setCell ⟨g, 0, none⟩ v0).setCell ⟨g, 1, none⟩ v1).setCell ⟨g, 2, none⟩ v2).setCell ⟨g, 3, none⟩ v3).setCell ⟨g, 4, none⟩ v4).setCell ⟨g, 5, none⟩ v5) := by
  have h0 := h.setCell (p := ⟨g, 0, none⟩) hg v0
  have h1 := h0.setCell (p := ⟨g, 1, none⟩) hg v1
  have h2 := h1.setCell (p := ⟨g, 2, none⟩) hg v2
  have h3 := h2.setCell (p := ⟨g, 3, none⟩) hg v3
  have h4 := h3.setCell (p := ⟨g, 4, none⟩) hg v4
  have h5 := h4.setCell (p := ⟨g, 5, none⟩) hg v5
  exact h5
theorem Lay.drew {w : World} {g : Nat} {cs : Array Value} (h : Lay w g cs) : Lay w.drew g cs := ⟨h.1, h.2⟩
theorem size6 {w : World} {g : Nat} {v0 v1 v2 v3 v4 v5 : Value} : ((((((w.setCell ⟨g, 0, none⟩ v0).setCell ⟨g, 1, none⟩ v1).setCell ⟨g, 2, none⟩ v2).setCell ⟨g, 3, none⟩ v3).setCell ⟨g, 4, none⟩ v4).setCell ⟨g, 5, none⟩ v5).drew.heap.size = w.heap.size := by
  have hd : ∀ x : World, x.drew.heap.size = x.heap.size := fun _ => rfl
  rw [hd]
  simp only [World.size_setCell]
/-- what stands in the box on the way -/
def OnWay (F : Fo) (l suf : List Int) (w wr : World) (lo hi k : Nat) : Prop :=
  ∃ (xk xs : Int) (xn xt : ByteArray) (xa : List (ByteArray × ByteArray)) (G fo : Fo) (A T : Option Addr) (ca tc : Nat), Lay wr (w.heap.size + 1) #[.int .i64 xk, .int .i64 xs, .string xn, .string xt, .slice A xa.length ca, .slice T G.len tc] ∧
    (∃ b o, RowC lo hi A xa.length ca b o ∧ AsAt w b o xa) ∧ (∃ b o, RowC lo hi T G.len tc b o ∧ FoAt w lo hi b o G) ∧ (G.small ∧ G.len ≤ 1048576) ∧ F.path l .nil = G.path suf fo ∧ (xn.size ≤ maxLen ∧ xt.size ≤ maxLen) ∧
    ((fo = .nil ∧ k = 0) ∨ (0 < k ∧ fo = .one xk xs xn xt xa G ∧ fo.small))

set_option maxHeartbeats 2000000 in
theorem l03At_any (F : Fo) (l : List Int) (w : World) (A A' : Option Addr) (c c' b o b' o' lo hi : Nat) (hsm : F.small) (hl : F.len ≤ 1048576) (hll : l.length ≤ 1048576) (hA : RowC lo hi A F.len c b o) (hF : FoAt w lo hi b o F) (hh : hi ≤ w.heap.size) (hi' : IntsIn w A' b' o' l) :
    Calls Try.prog 33 #[.slice A F.len c, .slice A' l.length c'] w (Found3 F l w lo hi) := by
  have H' := Lib.hid hi'
  have HH0 := Lib.hid (And.intro hsm (And.intro hA hF))
  clear hi' hsm hA hF
  go_enter Try.func33, Try.ntmps33
  go_wp2
  go_loopw [7] (fun i wr => ∃ (k : Nat) (suf : List Int), i = .int .i64 (k : Int) ∧ k + suf.length = l.length ∧ Hid (OnWay F l suf w wr lo hi k ∧ IsAt w b' (o' + k) suf ∧ Below w.heap.size w wr ∧ Lay wr w.heap.size #[.int .i64 0, .int .i64 0, .string ⟨#[]⟩, .string ⟨#[]⟩, .slice none 0 0, .slice none 0 0] ∧ w.heap.size + 1 < wr.heap.size)) (fun i wr => l.length - (intOf i).toNat)
  case atStart =>
    have L1 := Lay.new w #[.int .i64 0, .int .i64 0, .string ⟨#[]⟩, .string ⟨#[]⟩, .slice none 0 0, .slice none 0 0] 37
    have L2 := Lay.new (w.alloc (.cells #[.int .i64 0, .int .i64 0, .string ⟨#[]⟩, .string ⟨#[]⟩, .slice none 0 0, .slice none 0 0] 37)) #[.int .i64 0, .int .i64 0, .string ⟨#[]⟩, .string ⟨#[]⟩, .slice none 0 0, .slice A F.len c] 37
    rw [World.size_alloc] at L2
    exact ⟨0, l, rfl, by omega, Lib.hid ⟨⟨0, 0, ⟨#[]⟩, ⟨#[]⟩, [], F, .nil, none, A, 0, c, L2, ⟨0, 0, ⟨Nat.le_refl _, Nat.zero_le _, fun h => absurd h (Nat.lt_irrefl _)⟩, trivial⟩, ⟨b, o, HH0.out.2.1, HH0.out.2.2⟩, ⟨HH0.out.1, hl⟩, rfl, ⟨Nat.zero_le _, Nat.zero_le _⟩, Or.inl ⟨rfl, rfl⟩⟩, by simpa using H'.out.2, ((Below.refl _ _).alloc (Nat.le_refl _) _).alloc (by simp) _, L1.alloc (by simp) _, by simp⟩⟩
  case round =>
    obtain ⟨k, suf, rfl, hk, HH⟩ := hrel
    obtain ⟨⟨xk, xs, xn, xt, xa, G, fo, A4, T, ca, tc, hL, hAl, ⟨tb, to, hT, hFT⟩, ⟨hsmG, hGl⟩, hpath, hz, hfo⟩, hints, hB, hR, hsz⟩ := HH.out
    cases suf with
    | nil =>
      have hkl : k = l.length := by simpa using hk
      clear hk
      subst hkl
      obtain ⟨p0, p1, p2, p3, p4, p5⟩ := lay6 hL
      have n0 := hR.1
      have n1 := hR.2
      have HL := Lib.hid (And.intro hB (And.intro hpath (And.intro hfo (And.intro hAl (And.intro hz hT)))))
      have HF := Lib.hid hFT
      clear HH hL hAl hT hFT hpath hfo hints hB hR hz hsmG
      go_wp2
      (try simp only [Exit.inBlock, Exit.then])
      have M2 : Lay wr w.heap.size _ := ⟨n0, n1⟩
      have M3 := ((((((M2.set 0 (.int .i64 xk)).set 1 (.int .i64 xs)).set 2 (.string xn)).set 3 (.string xt)).set 4 (.slice A4 xa.length ca)).set 5 (.slice T G.len tc))
      obtain ⟨hB, hpath, hfo, hAl, hz, hT⟩ := HL.out
      refine ret_node2 rfl M3 rfl rfl rfl ⟨(((((hB.setCell (p := ⟨w.heap.size, 0, none⟩) (Nat.le_refl _) _).setCell (p := ⟨w.heap.size, 1, none⟩) (Nat.le_refl _) _).setCell (p := ⟨w.heap.size, 2, none⟩) (Nat.le_refl _) _).setCell (p := ⟨w.heap.size, 3, none⟩) (Nat.le_refl _) _).setCell (p := ⟨w.heap.size, 4, none⟩) (Nat.le_refl _) _).setCell (p := ⟨w.heap.size, 5, none⟩) (Nat.le_refl _) _, ?_⟩
      rw [Fo.path] at hpath
      rcases hfo with ⟨h1, h2⟩ | ⟨h1, h2, h3⟩
      · exact Or.inl ⟨by rw [hpath, h1], _, _, _, _, _, _, _, _, _, _, by rw [show decide (0 < l.length) = false by simp [h2]]; rfl⟩
      · exact Or.inr ⟨xk, xs, xn, xt, xa, G, A4, T, ca, tc, by rw [hpath, h2], by rw [← h2]; exact h3, hz, by rw [show decide (0 < l.length) = true by simp [h1]]; rfl, hAl, tb, to, hT, HF.out⟩
    | cons p ps =>
      obtain ⟨s1, s5⟩ := hints
      simp only [List.length_cons] at hk
      obtain ⟨rfl, hlo, hhi⟩ := H'.out.1.2 (by omega)
      have hkl : k < l.length := by omega
      have t1 := (hB.cell (p := ⟨b', o' + k, none⟩) hhi).trans s1
      obtain ⟨p0, p1, p2, p3, p4, p5⟩ := lay6 hL
      have n0 := hR.1
      have n1 := hR.2
      have HLR := Lib.hid (And.intro hL hR)
      have H5 := Lib.hid s5
      have HB := Lib.hid hB
      have HT := Lib.hid (And.intro hT (And.intro hFT hsmG))
      have HP := Lib.hid hpath
      clear HH s1 s5 hB hT hFT hpath hfo hAl hz hsmG hL hR
      have hw : IntKind.i64.wrap ((G.len : Int) - 1) = (G.len : Int) - 1 := IntWalk.i64_in _ (by omega)
      by_cases hin : 0 ≤ p ∧ p < G.len
      · have hv : (decide ((0 : Int) ≤ p) && decide (p ≤ (G.len : Int) - 1)) = true := by simp; omega
        have HV := Lib.hid hv
        obtain ⟨q, rfl⟩ : ∃ q : Nat, p = (q : Int) := ⟨p.toNat, by omega⟩
        have hq : q < G.len := by omega
        obtain ⟨yk, ys, yn, yt, ya, kids, hn⟩ := Fo.nth_some G q hq
        have hx := FoAt.nth q HT.out.2.1 hq
        have hsx := Fo.nth_small G q HT.out.2.2
        rw [hn] at hx hsx
        obtain ⟨rfl, hlo2, hhi2⟩ := HT.out.1.2.2 (by omega)
        obtain ⟨⟨s0, s1, s2, s3, z2, z3⟩, ⟨B4, c4, b4, o4, s4, r4, a4⟩, ⟨B5, c5, b5, o5, s5, r5, a5⟩, _⟩ := hx
        have hbt : tb < w.heap.size := Nat.lt_of_lt_of_le hhi2 hh
        have t0 := (HB.out.cell (p := ⟨tb, to + q * 6, none⟩) hbt).trans s0
        have t2 := (HB.out.cell (p := ⟨tb, to + q * 6 + 1, none⟩) hbt).trans s1
        have t3 := (HB.out.cell (p := ⟨tb, to + q * 6 + 2, none⟩) hbt).trans s2
        have t4 := (HB.out.cell (p := ⟨tb, to + q * 6 + 3, none⟩) hbt).trans s3
        have t5 := (HB.out.cell (p := ⟨tb, to + q * 6 + 4, none⟩) hbt).trans s4
        have t6 := (HB.out.cell (p := ⟨tb, to + q * 6 + 5, none⟩) hbt).trans s5
        have HZ := Lib.hid (And.intro z2 z3)
        have HS := Lib.hid hsx
        have H45 := Lib.hid (And.intro (And.intro r4 a4) (And.intro r5 a5))
        have HQ : Hid (G.path ((q : Int) :: ps) fo = kids.path ps (.one yk ys yn yt ya kids)) := Lib.hid (by rw [Fo.path_in hin, Int.toNat_natCast, hn]; rfl)
        clear hn hsx s0 s1 s2 s3 s4 s5 r4 a4 r5 a5 hv z2 z3
        go_wp2
        go_quiet ((go_at_call 49; exact Calls.quiet_of_same (l01In_q _ _ _ _ HV.out _ _)))
        go_wp2
        have BW : Hid (Below w.heap.size w (wr.drewN nq)) := Lib.hid (below_drewN HB.out nq)
        have LW : Hid (Lay (wr.drewN nq) (w.heap.size + 1) #[.int .i64 xk, .int .i64 xs, .string xn, .string xt, .slice A4 xa.length ca, .slice (some ⟨tb, to, none⟩) G.len tc] ∧ Lay (wr.drewN nq) w.heap.size #[.int .i64 0, .int .i64 0, .string ⟨#[]⟩, .string ⟨#[]⟩, .slice none 0 0, .slice none 0 0]) := Lib.hid ⟨HLR.out.1.below (below_drewN (Below.refl wr.heap.size wr) nq) hsz, HLR.out.2.below (below_drewN (Below.refl wr.heap.size wr) nq) (by omega)⟩
        have hszW : w.heap.size + 1 < (wr.drewN nq).heap.size := hsz
        have t1' : (wr.drewN nq).cell? ⟨b', o' + k, none⟩ = some (.int .i64 (q : Int)) := t1
        have t0' : (wr.drewN nq).cell? ⟨tb, to + q * 6, none⟩ = some (.int .i64 yk) := t0
        have t2' : (wr.drewN nq).cell? ⟨tb, to + q * 6 + 1, none⟩ = some (.int .i64 ys) := t2
        have t3' : (wr.drewN nq).cell? ⟨tb, to + q * 6 + 2, none⟩ = some (.string yn) := t3
        have t4' : (wr.drewN nq).cell? ⟨tb, to + q * 6 + 3, none⟩ = some (.string yt) := t4
        have t5' : (wr.drewN nq).cell? ⟨tb, to + q * 6 + 4, none⟩ = some (.slice B4 ya.length c4) := t5
        have t6' : (wr.drewN nq).cell? ⟨tb, to + q * 6 + 5, none⟩ = some (.slice B5 kids.len c5) := t6
        clear t0 t1 t2 t3 t4 t5 t6 p0 p1 p2 p3 p4 p5 n0 n1 hsz HB HLR
        generalize wr.drewN nq = W at BW LW hszW t0' t1' t2' t3' t4' t5' t6' ⊢
        obtain ⟨p0, p1, p2, p3, p4, p5⟩ := lay6 LW.out.1
        have g0 := LW.out.1.2 0
        have g1 := LW.out.1.2 1
        have g2 := LW.out.1.2 2
        have g3 := LW.out.1.2 3
        have g4 := LW.out.1.2 4
        have g5 := LW.out.1.2 5
        go_wp2
        go_region
        go_wp2
        go_roundw
        case rel =>
          have M3 := (LW.out.1.put6 (v0 := .int .i64 yk) (v1 := .int .i64 ys) (v2 := .string yn) (v3 := .string yt) (v4 := .slice B4 ya.length c4) (v5 := .slice B5 kids.len c5)).drew
          have M4 := (LW.out.2.away6 (g' := w.heap.size + 1) (v0 := .int .i64 yk) (v1 := .int .i64 ys) (v2 := .string yn) (v3 := .string yt) (v4 := .slice B4 ya.length c4) (v5 := .slice B5 kids.len c5) (by omega)).drew
          have M5 := (below_put6 (g := w.heap.size + 1) (.int .i64 yk) (.int .i64 ys) (.string yn) (.string yt) (.slice B4 ya.length c4) (.slice B5 kids.len c5) BW.out (Nat.le_succ _)).drew
          have hs5 := HS.out
          have hon : OnWay F l ps w _ lo hi (k + 1) := ⟨yk, ys, yn, yt, ya, kids, .one yk ys yn yt ya kids, B4, B5, c4, c5, M3, ⟨b4, o4, H45.out.1⟩, ⟨b5, o5, H45.out.2⟩, ⟨hs5.2.2.1, hs5.2.1⟩, by rw [HP.out, HQ.out], HZ.out, Or.inr ⟨Nat.succ_pos _, rfl, hs5⟩⟩
          have hint : IsAt w b' (o' + (k + 1)) ps := by rw [show o' + (k + 1) = o' + k + 1 by omega]; exact H5.out
          exact ⟨k + 1, ps, by go_num, by omega, Lib.hid ⟨hon, hint, M5, M4, by rw [size6]; exact hszW⟩⟩
        case measure => simp [intOf]; omega
      · have hv : (decide ((0 : Int) ≤ p) && decide (p ≤ (G.len : Int) - 1)) = false := by simp; omega
        have HV := Lib.hid hv
        have HQ := Lib.hid (Fo.path_out (G := G) (p := p) (ps := ps) (f := fo) hin)
        clear hv
        go_wp2
        go_quiet ((go_at_call 49; exact Calls.quiet_of_same (l01In_q _ _ _ _ HV.out _ _)))
        go_wp2
        have BW : Hid (Below w.heap.size w (wr.drewN nq)) := Lib.hid (below_drewN HB.out nq)
        have LW : Hid (Lay (wr.drewN nq) w.heap.size #[.int .i64 0, .int .i64 0, .string ⟨#[]⟩, .string ⟨#[]⟩, .slice none 0 0, .slice none 0 0]) := Lib.hid (HLR.out.2.below (below_drewN (Below.refl wr.heap.size wr) nq) (by omega))
        clear t1 p0 p1 p2 p3 p4 p5 n0 n1 hsz HB HLR
        generalize wr.drewN nq = W at BW LW ⊢
        have n0 := LW.out.1
        have n1 := LW.out.2
        go_wp2
        (try simp only [Exit.inBlock, Exit.then])
        have M2 : Lay W w.heap.size _ := ⟨n0, n1⟩
        exact ret_node2 rfl M2.put6 rfl rfl rfl ⟨below_put6 _ _ _ _ _ _ BW.out (Nat.le_refl _), Or.inl ⟨by rw [HP.out, HQ.out], _, _, _, _, _, _, _, _, _, _, rfl⟩⟩
end Go.Proofs.Ytgkkmoliobhpiaa
