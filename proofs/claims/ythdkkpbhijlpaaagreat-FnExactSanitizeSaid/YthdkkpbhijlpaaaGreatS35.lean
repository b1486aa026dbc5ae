import Derived.Shelf.Abstract
import Derived.Test.YthdkkpbhijlpaaaGreatS34
import Derived.Test.YthdkkpbhijlpaaaGreatS25
set_option linter.unusedVariables false
namespace Go.Proofs.YthdkkpbhijlpaaaGreat
open Go.ChangeShapes Go.WideShapes Go.ChangeAt Go.RowKit Go.Deep

theorem named_sizeZ {s : ByteArray} (h : namedB small tagB s = true) : s.size ≤ 12 := by
  have : Named small tagB s := by simpa [namedB] using h
  exact this.2.1
theorem asSize_leZ : ∀ (al : List (ByteArray × ByteArray)), (∀ x ∈ al, x.1.size ≤ 12 ∧ x.2.size ≤ 40) → asSize al ≤ 52 * al.length
  | [], _ => Nat.zero_le _
  | x :: r, h => by
    have h1 := h x (by simp)
    have h2 := asSize_leZ r fun y hy => h y (by simp [hy])
    simp only [asSize, List.length_cons]
    omega
theorem node_sizeZ {x : Nd} (h : NodeIs x) : x.n.size + x.t.size + (x.al.length + asSize x.al) ≤ 500 := by
  have hw : WordsIs x → x.n.size + x.t.size + (x.al.length + asSize x.al) ≤ 500 := fun ⟨h1, _, h3, h4⟩ => by
    have : x.al = [] := List.length_eq_zero_iff.1 h4
    rw [this]
    simp only [asSize, List.length_nil]
    omega
  rcases h with ⟨_, h1, _, _, h4, h5, h6⟩ | ⟨_, _, h⟩ | ⟨_, h⟩
  · have hn := named_sizeZ h1
    have ha := asSize_leZ x.al fun y hy => by
      obtain ⟨i, hi, rfl⟩ := List.getElem_of_mem hy
      have := (h6 i hi hi).1
      exact ⟨named_sizeZ this.1, this.2⟩
    omega
  · exact hw h
  · exact hw h
theorem sfine_sizeZ : ∀ (F : Fo), SFine F → F.len + F.size ≤ 502 * F.nodes
  | .nil, _ => Nat.zero_le _
  | .cons k sp n t al kids rest, ⟨h1, _, h3, h4⟩ => by
    have e1 := node_sizeZ h1
    have e2 := sfine_sizeZ kids h3
    have e3 := sfine_sizeZ rest h4
    simp only [Fo.len, Fo.size, Fo.nodes] at e1 e2 e3 ⊢
    omega
theorem alOK_sizes {al : List (ByteArray × ByteArray)} (h : AlOK al) : ∀ x ∈ al, x.1.size ≤ 65536 ∧ x.2.size ≤ 65536 := fun y hy => by
  obtain ⟨i, hi, rfl⟩ := List.getElem_of_mem hy
  have := (h.2 i hi hi).1
  have h1 := named_sizeZ this.1
  have h2 := this.2
  omega
/-- what comes into a node's place -/
theorem l08Node_any (X : Cf) (V : CfV) (k sp : Int) (n t : ByteArray) (al : List (ByteArray × ByteArray)) (kids : Fo) (ca ck b4 o4 b5 o5 lo hi : Nat) (A K : Option Addr) (w : World) (h : CfIn w X V) (hh : hi ≤ w.heap.size) (hn : NodeIs ⟨k, sp, n, t, al⟩) (hf : SFine kids) (hd : kids.nodes ≤ 60) (hA : RowAt lo hi A al.length b4 o4) (hal : AsAt w b4 o4 al) (hK : RowAt lo hi K kids.len b5 o5) (hF : FoAt w lo hi b5 o5 kids)
    (hT : ∀ W, CfIn W X V → hi ≤ W.heap.size → FoAt W lo hi b5 o5 kids → Calls Tryz.prog 34 #[.agg #[.bool X.ha, .bool X.hb, .slice V.a1 X.al.length V.c1, .slice V.a2 X.rm.length V.c2, .slice V.a3 X.uw.length V.c3, .slice V.a4 X.at_.length V.c4, .slice V.a5 X.dp.length V.c5, .bool X.cm, .bool X.da], .slice K kids.len ck] W (RowOut (kids.san X) W)) :
    Calls Tryz.prog 72 #[.agg #[.bool X.ha, .bool X.hb, .slice V.a1 X.al.length V.c1, .slice V.a2 X.rm.length V.c2, .slice V.a3 X.uw.length V.c3, .slice V.a4 X.at_.length V.c4, .slice V.a5 X.dp.length V.c5, .bool X.cm, .bool X.da], .agg #[.int .i64 k, .int .i64 sp, .string n, .string t, .slice A al.length ca, .slice K kids.len ck]] w (RowOut ((Fo.one k sp n t al kids).san X) w) := by
  rw [Fo.san_one]
  rcases hn with ⟨hk, h1, h2, h3, h4, h5⟩ | ⟨hk, h0, h1, _⟩ | ⟨hk, h1, _⟩
  · have hk : k = 1 := hk
    subst hk
    rw [if_neg (by decide), if_neg (by decide)]
    have hs := sfine_sizeZ kids hf
    have hwl := Fo.words_le kids
    have hn12 := named_sizeZ h1
    simp only at hn12
    exact l08Node_el X V sp n t al kids ca ck b4 o4 b5 o5 lo hi A K w h hh (by unfold maxLen; omega) hA hal h5.1 (alOK_sizes h5) hK hF ⟨hd, by omega, by omega⟩ hT
  · have hk : k = 2 := hk
    subst hk
    have h1 : t.size ≤ 120 := h1
    rw [if_pos rfl]
    exact l08Node_text X V sp n t al kids ca ck A K w (by unfold maxLen; omega)
  · have hk : k = 3 := hk
    subst hk
    have h1 : t.size ≤ 120 := h1
    rw [if_neg (by decide), if_pos rfl]
    exact l08Node_com X V sp n t al kids ca ck A K w (by omega)
/-- a whole row of nodes put behind another one: the run -/
theorem run_push_row {w : World} (base bx : Nat) (v vx : Value) (F G : Fo) (bl bg : List Nat) (ty : TypeId) (hF : GRow w base v F bl) (hG : GRow w bx vx G bg) (hd : ∀ q, (v.ownBlock = some q ∨ q ∈ bl) → q < bx)
    (hbase : base ≤ w.heap.size) (hbx : base ≤ bx) (hl : F.len ≤ 1048576) (hl2 : G.len ≤ 1048576) :
    ∃ v' w' bl', (Builtin.append_ #[29, 29] ty #[v, vx]).run Tryz.prog w = .ok v' w' ∧ GRow w' base v' (F.app G) bl' ∧ Below base w w' := by
  obtain ⟨i0, hi0, hz0, hz1, hz2⟩ := info_of infoNode
  have hF0 := hF
  obtain ⟨xs, ho', hvv, hnd, hbl, hg⟩ := hF
  obtain ⟨ys, hoy, hvy, hndy, hbly, hgy⟩ := hG
  have hcy := fun g hg => World.ownsRow.cells hoy (g := g) hg
  obtain ⟨hly, hoy'⟩ := hoy
  rcases hoy' with ⟨rfl, h0⟩ | ⟨gx, cap, cur, rfl, hbs, hblk, hle, _, _, _⟩
  · have hGn : G = .nil := by
      cases G with
      | nil => rfl
      | cons _ _ _ _ _ _ _ => simp [Fo.len] at h0
    subst hGn
    refine ⟨v, w, bl, ?_, by rw [Fo.app_nil]; exact hF0, Below.refl _ _⟩
    rcases ho'.2 with ⟨rfl, _⟩ | ⟨g, cap, cur, rfl, _, _, hnc, _⟩
    · simp [Builtin.append_, run_underlying Tryz.underlying29, sizeOf, typeInfo, hi0, Builtin.lenOf, Builtin.firstCells]
    · simp [Builtin.append_, run_underlying Tryz.underlying29, sizeOf, typeInfo, hi0, Builtin.lenOf, Builtin.firstCells, storeCells, Nat.not_lt.2 hnc]
  · obtain ⟨v', w', hrun, hown, hgrow, _, hat⟩ := run_append_own_at (P := Tryz.prog) w base 29 ty 71 i0 _ 6 96 Tryz.underlying29 hi0 hz0 hz1 hz2 rfl (by omega) v F.len xs ho' ⟨gx, 0, none⟩ G.len cap ys hvy.len (hcy gx rfl) (foVals_one hvy) (by unfold maxLen; omega) (by omega) hbase
    refine ⟨v', w', bl ++ bg, hrun, grow_app (bx := bx) hvv hvy (fun q hq => ?_) ?_ (fun q hq hm => ?_) hown (fun q h1 h2 => hgrow.block q h1 (fun e => h2 e.symm)) hgrow.size ?_, (Below.refl base w).grown hgrow hbase fun q hq => (World.ownsRow.lt ho' q hq).1⟩
    · rcases List.mem_append.1 hq with hq | hq
      · exact hbl q hq
      · exact ⟨Nat.le_trans hbx (hbly q hq).1, (hbly q hq).2⟩
    · refine List.nodup_append.2 ⟨hnd, hndy, fun p hp q hq e => ?_⟩
      subst e
      have := hd p (Or.inr hp)
      have := (hbly p hq).1
      omega
    · rcases List.mem_append.1 hm with hm | hm
      · exact hg q hq hm
      · have := hd q (Or.inl hq)
        have := (hbly q hm).1
        omega
    · rcases hat with h | h
      · exact Or.inl h
      · exact Or.inr ⟨_, h, Nat.le_refl _⟩
theorem step_push_row {ops : Array Oper} {o : Oper} {a : Act} {K : Act → World → Prop} {Q : Exit → Act → World → Prop} {E : Prop} {w : World} {base bx : Nat} {v vx : Value} {F G : Fo} {bl bg : List Nat} (hgd : o.guard = none) (s y : Operand)
    (ho : o.op = .call { callee := .builtin .append, args := #[s, y], argTypes := #[29, 29] }) (hs : a.eval s = v) (hy : a.eval y = vx)
    (hF : GRow w base v F bl) (hG : GRow w bx vx G bg) (hd : ∀ q, (v.ownBlock = some q ∨ q ∈ bl) → q < bx) (hbase : base ≤ w.heap.size) (hbx : base ≤ bx) (hl : F.len ≤ 1048576) (hl2 : G.len ≤ 1048576)
    (h : ∀ v' w' bl', GRow w' base v' (F.app G) bl' → Below base w w' → K (a.put o.dst v') w') :
    if Region.wanted o (yielded ops a.tmps) = true then Oper.wp Tryz.prog o a w K Q else E := by
  have hw : Region.wanted o (yielded ops a.tmps) = true := by simp [Region.wanted, hgd]
  rw [if_pos hw]
  obtain ⟨v', w', bl', hr, h2, h3⟩ := run_push_row base bx v vx F G bl bg o.type hF hG hd hbase hbx hl hl2
  unfold Oper.wp execOp
  simp only [ho, resolve, invoke, builtin, Sem.run_bind, Sem.run_pure, Result.andThen_ok, List.map_toArray, List.map_cons, List.map_nil, hs, hy, hr]
  exact h v' w' bl' h2 h3
def SanOK (X : Cf) (V : CfV) (F : Fo) : Prop := ∀ (w : World) (A : Option Addr) (c b o lo hi : Nat), SFine F → F.nodes ≤ 60 → CfIn w X V → RowAt lo hi A F.len b o → hi ≤ w.heap.size → FoAt w lo hi b o F →
    Calls Tryz.prog 34 #[.agg #[.bool X.ha, .bool X.hb, .slice V.a1 X.al.length V.c1, .slice V.a2 X.rm.length V.c2, .slice V.a3 X.uw.length V.c3, .slice V.a4 X.at_.length V.c4, .slice V.a5 X.dp.length V.c5, .bool X.cm, .bool X.da], .slice A F.len c] w (RowOut (F.san X) w)
set_option maxHeartbeats 4000000 in
set_option maxRecDepth 100000 in
theorem l08Tree_lt (X : Cf) (V : CfV) : ∀ (N : Nat) (F : Fo), F.nodes < N → SanOK X V F := by
  intro N
  induction N with
  | zero => intro F hF; omega
  | succ N IH =>
  intro F hFN w A c b o lo hi hsf hnd hC hA hh hFo
  have hlen := hA.1
  unfold maxLen at hlen
  have hln := Fo.len_le_nodes F
  have HA := Lib.hid hA
  have HS := Lib.hid hFo
  have HFN := Lib.hid (And.intro hFN hnd)
  have HSF := Lib.hid hsf
  have HI := Lib.hid IH
  have HC := Lib.hid hC
  have BW : Hid (Below w.heap.size w (w.alloc (.cells #[.bool X.ha, .bool X.hb, .slice V.a1 X.al.length V.c1, .slice V.a2 X.rm.length V.c2, .slice V.a3 X.uw.length V.c3, .slice V.a4 X.at_.length V.c4, .slice V.a5 X.dp.length V.c5, .bool X.cm, .bool X.da] 35))) := Lib.hid ((Below.refl w.heap.size w).alloc (Nat.le_refl _) _)
  have LC : Hid (Lay (w.alloc (.cells #[.bool X.ha, .bool X.hb, .slice V.a1 X.al.length V.c1, .slice V.a2 X.rm.length V.c2, .slice V.a3 X.uw.length V.c3, .slice V.a4 X.at_.length V.c4, .slice V.a5 X.dp.length V.c5, .bool X.cm, .bool X.da] 35)) w.heap.size #[.bool X.ha, .bool X.hb, .slice V.a1 X.al.length V.c1, .slice V.a2 X.rm.length V.c2, .slice V.a3 X.uw.length V.c3, .slice V.a4 X.at_.length V.c4, .slice V.a5 X.dp.length V.c5, .bool X.cm, .bool X.da]) := Lib.hid (Lay.new w #[.bool X.ha, .bool X.hb, .slice V.a1 X.al.length V.c1, .slice V.a2 X.rm.length V.c2, .slice V.a3 X.uw.length V.c3, .slice V.a4 X.at_.length V.c4, .slice V.a5 X.dp.length V.c5, .bool X.cm, .bool X.da] 35)
  have hWs : (w.alloc (.cells #[.bool X.ha, .bool X.hb, .slice V.a1 X.al.length V.c1, .slice V.a2 X.rm.length V.c2, .slice V.a3 X.uw.length V.c3, .slice V.a4 X.at_.length V.c4, .slice V.a5 X.dp.length V.c5, .bool X.cm, .bool X.da] 35)).heap.size = w.heap.size + 1 := by simp
  have O0 : Hid (GRow ((w.alloc (.cells #[.bool X.ha, .bool X.hb, .slice V.a1 X.al.length V.c1, .slice V.a2 X.rm.length V.c2, .slice V.a3 X.uw.length V.c3, .slice V.a4 X.at_.length V.c4, .slice V.a5 X.dp.length V.c5, .bool X.cm, .bool X.da] 35)).alloc (.cells #[] 71)) (w.heap.size + 1) (.slice (some ⟨w.heap.size + 1, 0, none⟩) 0 0) .nil []) := Lib.hid (by have := GRow.lit (w := (w.alloc (.cells #[.bool X.ha, .bool X.hb, .slice V.a1 X.al.length V.c1, .slice V.a2 X.rm.length V.c2, .slice V.a3 X.uw.length V.c3, .slice V.a4 X.at_.length V.c4, .slice V.a5 X.dp.length V.c5, .bool X.cm, .bool X.da] 35))) (base := w.heap.size + 1) (by simp); rwa [hWs] at this)
  have B0 : Hid (Below (w.heap.size + 1) (w.alloc (.cells #[.bool X.ha, .bool X.hb, .slice V.a1 X.al.length V.c1, .slice V.a2 X.rm.length V.c2, .slice V.a3 X.uw.length V.c3, .slice V.a4 X.at_.length V.c4, .slice V.a5 X.dp.length V.c5, .bool X.cm, .bool X.da] 35)) ((w.alloc (.cells #[.bool X.ha, .bool X.hb, .slice V.a1 X.al.length V.c1, .slice V.a2 X.rm.length V.c2, .slice V.a3 X.uw.length V.c3, .slice V.a4 X.at_.length V.c4, .slice V.a5 X.dp.length V.c5, .bool X.cm, .bool X.da] 35)).alloc (.cells #[] 71))) := Lib.hid ((Below.refl _ _).alloc (by simp) _)
  have HWS := Lib.hid hWs
  clear hA hFo hFN hnd hsf IH hC hWs
  go_enter Tryz.func34, Tryz.ntmps34
  go_wp2
  go_loopw [5, 6] (fun v i wr => ∃ (j : Nat) (vv : Value) (pre suf : Fo) (bl : List Nat), vv = v ∧ i = .int .i64 (j : Int) ∧ j + suf.len = F.len ∧ Hid (pre.app suf = F ∧ GRow wr (w.heap.size + 1) vv (pre.san X) bl ∧ Below (w.heap.size + 1) (w.alloc (.cells #[.bool X.ha, .bool X.hb, .slice V.a1 X.al.length V.c1, .slice V.a2 X.rm.length V.c2, .slice V.a3 X.uw.length V.c3, .slice V.a4 X.at_.length V.c4, .slice V.a5 X.dp.length V.c5, .bool X.cm, .bool X.da] 35)) wr ∧ FoAt w lo hi b (o + j * 6) suf ∧ SFine suf)) (fun _ i _ => F.len - (intOf i).toNat)
  case atStart => exact ⟨0, _, .nil, F, [], rfl, rfl, by omega, Lib.hid ⟨rfl, O0.out, B0.out, by simpa using HS.out, HSF.out⟩⟩
  case round =>
    clear O0 B0
    obtain ⟨j, vv, pre, suf, bl, hvv, rfl, hj, HH⟩ := hrel
    subst hvv
    obtain ⟨hpre, hG, hB, hsuf, hfine⟩ := HH.out
    clear HH
    have hsb := hB.size
    have hwr : w.heap.size + 1 ≤ wr.heap.size := by have := HWS.out; omega
    obtain ⟨p0, p1, p2, p3, p4, p5, p6, p7, p8⟩ := lay9 (lay_sameZ LC.out (hB.block w.heap.size (Nat.lt_succ_self _)))
    have BWR := Lib.hid (BW.out.trans (hB.mono (Nat.le_succ _)))
    have HB := Lib.hid hB
    have HG := Lib.hid hG
    have HPR := Lib.hid hpre
    clear hB hG hpre hsb
    cases suf with
    | nil =>
      have hjl : j = F.len := by simpa [Fo.len] using hj
      clear hj
      subst hjl
      go_wp2
      go_ret
      exact ⟨_, bl, rfl, BWR.out, by have h1 := HPR.out; rw [Fo.app_nil] at h1; rw [← h1]; exact HG.out.low (Nat.le_succ _)⟩
    | cons xk xs xn xt xa kids r =>
      obtain ⟨⟨⟨s0, s1, s2, s3, z2, z3⟩, ⟨A4, c4, b4, o4, s4, r4, a4⟩, ⟨A5, c5, b5, o5, s5, r5, a5⟩, sr⟩, hf1⟩ := And.intro hsuf hfine
      obtain ⟨hn1, hk1, hs1, hs2⟩ := hf1
      obtain ⟨rfl, hlo, hhi⟩ := HA.out.2 (by simp [Fo.len] at hj; omega)
      have hjl : j < F.len := by simp [Fo.len] at hj; omega
      have cell : ∀ {p : Addr} {u : Value}, p.block = b → w.cell? p = some u → wr.cell? p = some u := fun hp e => (BWR.out.cell (by rw [hp]; show b < _; omega)).trans e
      have t0 := cell rfl s0
      have t1 := cell rfl s1
      have t2 := cell rfl s2
      have t3 := cell rfl s3
      have t4 := cell rfl s4
      have t5 := cell rfl s5
      have HNQ : Hid (F.nodes = pre.nodes + (kids.nodes + r.nodes + 1)) := Lib.hid (by
          rw [← HPR.out]
          have hna : ∀ P S : Fo, (P.app S).nodes = P.nodes + S.nodes := by
            intro P
            induction P with
            | nil => intro S; simp [Fo.app, Fo.nodes]
            | cons _ _ _ _ _ _ _ _ ih => intro S; simp only [Fo.app, Fo.nodes, ih S]; omega
          rw [hna]; rfl)
      have HNN := Lib.hid (show kids.nodes < N ∧ kids.nodes ≤ 60 by have h1 := HFN.out; have h2 := HNQ.out; omega)
      have HND : Hid (∀ W, Below wr.heap.size wr W → Calls Tryz.prog 72 #[.agg #[.bool X.ha, .bool X.hb, .slice V.a1 X.al.length V.c1, .slice V.a2 X.rm.length V.c2, .slice V.a3 X.uw.length V.c3, .slice V.a4 X.at_.length V.c4, .slice V.a5 X.dp.length V.c5, .bool X.cm, .bool X.da], .agg #[.int .i64 xk, .int .i64 xs, .string xn, .string xt, .slice A4 xa.length c4, .slice A5 kids.len c5]] W (RowOut ((Fo.one xk xs xn xt xa kids).san X) W)) := Lib.hid fun W hW => by
        have hb := BWR.out.trans (hW.mono BWR.out.size)
        exact l08Node_any X V xk xs xn xt xa kids c4 c5 b4 o4 b5 o5 lo hi A4 A5 W (HC.out.next hb) (Nat.le_trans hh hb.size) hn1 hs1 HNN.out.2 r4.2 (al_below r4.2 a4 hb hh) r5.2 (FoAt.below r5.2 a5 hb hh) fun W' h1 h2 h3 => HI.out kids HNN.out.1 W' A5 c5 b5 o5 lo hi hs1 HNN.out.2 h1 r5.2 h2 h3
      have HREL := Lib.hid (And.intro sr hs2)
      have HLT : Hid (∀ q, (vv.ownBlock = some q ∨ q ∈ bl) → q < wr.heap.size) := Lib.hid fun q hq => by
        obtain ⟨_, ho, _, _, hb, _⟩ := HG.out
        rcases hq with hq | hq
        · exact (World.ownsRow.lt ho q hq).2
        · exact (hb q hq).2
      have HLN : Hid ((pre.san X).len ≤ 1048576 ∧ ((Fo.one xk xs xn xt xa kids).san X).len ≤ 1048576) := Lib.hid (by
        have h1 := Fo.len_le_nodes (pre.san X)
        have h2 := Fo.san_nodes X pre
        have h3 := Fo.len_le_nodes ((Fo.one xk xs xn xt xa kids).san X)
        have h4 := Fo.san_nodes X (Fo.one xk xs xn xt xa kids)
        have h5 : F.nodes = pre.nodes + (kids.nodes + r.nodes + 1) := HNQ.out
        have h6 := HFN.out.2
        have h7 : (Fo.one xk xs xn xt xa kids).nodes = kids.nodes + 1 := by simp [Fo.one, Fo.nodes]
        omega)
      clear s0 s1 s2 s3 s4 s5 hsuf hfine r4 r5 a4 a5 sr hn1 hk1 hs1 hs2 cell
      go_wp2_with fail
      have hbsz := BWR.out.size
      refine wp_region_held_drew (S := fun w' => w'.cell? ⟨w.heap.size, 0, none⟩ = some (.bool X.ha) ∧ w'.cell? ⟨w.heap.size, 1, none⟩ = some (.bool X.hb) ∧ w'.cell? ⟨w.heap.size, 2, none⟩ = some (.slice V.a1 X.al.length V.c1) ∧ w'.cell? ⟨w.heap.size, 3, none⟩ = some (.slice V.a2 X.rm.length V.c2) ∧ w'.cell? ⟨w.heap.size, 4, none⟩ = some (.slice V.a3 X.uw.length V.c3) ∧ w'.cell? ⟨w.heap.size, 5, none⟩ = some (.slice V.a4 X.at_.length V.c4) ∧ w'.cell? ⟨w.heap.size, 6, none⟩ = some (.slice V.a5 X.dp.length V.c5) ∧ w'.cell? ⟨w.heap.size, 7, none⟩ = some (.bool X.cm) ∧ w'.cell? ⟨w.heap.size, 8, none⟩ = some (.bool X.da) ∧ w'.cell? ⟨b, o + j * 6, none⟩ = some (.int .i64 xk) ∧ w'.cell? ⟨b, o + j * 6 + 1, none⟩ = some (.int .i64 xs) ∧ w'.cell? ⟨b, o + j * 6 + 2, none⟩ = some (.string xn) ∧ w'.cell? ⟨b, o + j * 6 + 3, none⟩ = some (.string xt) ∧ w'.cell? ⟨b, o + j * 6 + 4, none⟩ = some (.slice A4 xa.length c4) ∧ w'.cell? ⟨b, o + j * 6 + 5, none⟩ = some (.slice A5 kids.len c5)) (by kernel_rfl) ⟨p0, p1, p2, p3, p4, p5, p6, p7, p8, t0, t1, t2, t3, t4, t5⟩ (fun hHeld => ?_)
      refine wpAnyH_take (i := 0) (v := vv) rfl (by kernel_rfl) (by kernel_rfl) (by kernel_rfl) (fun _ _ _ h => h) (Or.inl ⟨by rfl, fun w hSw => by (try dsimp only at hSw); go_simp⟩) (by assumption) ?_; (try simp only [Act.put, List.setIfInBounds_toArray, List.set_cons_zero, List.set_cons_succ, List.getElem_toArray, List.getElem_cons_zero])
      refine wpAnyH_take (i := 1) (v := .agg #[.bool X.ha, .bool X.hb, .slice V.a1 X.al.length V.c1, .slice V.a2 X.rm.length V.c2, .slice V.a3 X.uw.length V.c3, .slice V.a4 X.at_.length V.c4, .slice V.a5 X.dp.length V.c5, .bool X.cm, .bool X.da]) rfl (by kernel_rfl) (by kernel_rfl) (by kernel_rfl) (fun _ _ _ h => h) (Or.inl ⟨by rfl, fun w hSw => by (try dsimp only at hSw); go_simp⟩) (by assumption) ?_; (try simp only [Act.put, List.setIfInBounds_toArray, List.set_cons_zero, List.set_cons_succ, List.getElem_toArray, List.getElem_cons_zero, List.getElem_cons_succ])
      refine wpAnyH_take (i := 2) (v := .slice (some ⟨b, o, none⟩) F.len c) rfl (by kernel_rfl) (by kernel_rfl) (by kernel_rfl) (fun _ _ _ h => h) (Or.inl ⟨by rfl, fun w hSw => by (try dsimp only at hSw); go_simp⟩) (by assumption) ?_; (try simp only [Act.put, List.setIfInBounds_toArray, List.set_cons_zero, List.set_cons_succ, List.getElem_toArray, List.getElem_cons_zero, List.getElem_cons_succ])
      refine wpAnyH_take (i := 3) (v := .int .i64 (j : Int)) rfl (by kernel_rfl) (by kernel_rfl) (by kernel_rfl) (fun _ _ _ h => h) (Or.inl ⟨by rfl, fun w hSw => by (try dsimp only at hSw); go_simp⟩) (by assumption) ?_; (try simp only [Act.put, List.setIfInBounds_toArray, List.set_cons_zero, List.set_cons_succ, List.getElem_toArray, List.getElem_cons_zero, List.getElem_cons_succ])
      refine wpAnyH_take (i := 4) (v := .pointer (some ⟨b, o + j * 6, none⟩)) rfl (by kernel_rfl) (by kernel_rfl) (by kernel_rfl) (fun _ _ _ h => h) (Or.inl ⟨by rfl, fun w hSw => by (try dsimp only at hSw); go_simp⟩) (by assumption) ?_; (try simp only [Act.put, List.setIfInBounds_toArray, List.set_cons_zero, List.set_cons_succ, List.getElem_toArray, List.getElem_cons_zero, List.getElem_cons_succ])
      refine wpAnyH_take (i := 5) (v := .agg #[.int .i64 xk, .int .i64 xs, .string xn, .string xt, .slice A4 xa.length c4, .slice A5 kids.len c5]) rfl (by kernel_rfl) (by kernel_rfl) (by kernel_rfl) (fun _ _ _ h => h) (Or.inl ⟨by rfl, fun w hSw => by (try dsimp only at hSw); go_simp⟩) (by assumption) ?_; (try simp only [Act.put, List.setIfInBounds_toArray, List.set_cons_zero, List.set_cons_succ, List.getElem_toArray, List.getElem_cons_zero, List.getElem_cons_succ])
      refine wpAnyH_ready (rs := [6]) (by kernel_rfl) (by simp) ?_; refine AllReadyH.cons rfl (fun K hK => ?_) AllReadyH.nil
      go_simp; (go_at_call 72; refine (HND.out _ (Below.refl _ _).drew).mono ?_; rintro e w2 ⟨v2, bl2, rfl, hB2, hG2⟩; have hs2 := hB2.size; have Y2 : (fun w' => w'.cell? ⟨w.heap.size, 0, none⟩ = some (.bool X.ha) ∧ w'.cell? ⟨w.heap.size, 1, none⟩ = some (.bool X.hb) ∧ w'.cell? ⟨w.heap.size, 2, none⟩ = some (.slice V.a1 X.al.length V.c1) ∧ w'.cell? ⟨w.heap.size, 3, none⟩ = some (.slice V.a2 X.rm.length V.c2) ∧ w'.cell? ⟨w.heap.size, 4, none⟩ = some (.slice V.a3 X.uw.length V.c3) ∧ w'.cell? ⟨w.heap.size, 5, none⟩ = some (.slice V.a4 X.at_.length V.c4) ∧ w'.cell? ⟨w.heap.size, 6, none⟩ = some (.slice V.a5 X.dp.length V.c5) ∧ w'.cell? ⟨w.heap.size, 7, none⟩ = some (.bool X.cm) ∧ w'.cell? ⟨w.heap.size, 8, none⟩ = some (.bool X.da) ∧ w'.cell? ⟨b, o + j * 6, none⟩ = some (.int .i64 xk) ∧ w'.cell? ⟨b, o + j * 6 + 1, none⟩ = some (.int .i64 xs) ∧ w'.cell? ⟨b, o + j * 6 + 2, none⟩ = some (.string xn) ∧ w'.cell? ⟨b, o + j * 6 + 3, none⟩ = some (.string xt) ∧ w'.cell? ⟨b, o + j * 6 + 4, none⟩ = some (.slice A4 xa.length c4) ∧ w'.cell? ⟨b, o + j * 6 + 5, none⟩ = some (.slice A5 kids.len c5)) w2 := ⟨(hB2.cell (p := ⟨w.heap.size, 0, none⟩) (by show w.heap.size < wr.heap.size; omega)).trans p0, (hB2.cell (p := ⟨w.heap.size, 1, none⟩) (by show w.heap.size < wr.heap.size; omega)).trans p1, (hB2.cell (p := ⟨w.heap.size, 2, none⟩) (by show w.heap.size < wr.heap.size; omega)).trans p2, (hB2.cell (p := ⟨w.heap.size, 3, none⟩) (by show w.heap.size < wr.heap.size; omega)).trans p3, (hB2.cell (p := ⟨w.heap.size, 4, none⟩) (by show w.heap.size < wr.heap.size; omega)).trans p4, (hB2.cell (p := ⟨w.heap.size, 5, none⟩) (by show w.heap.size < wr.heap.size; omega)).trans p5, (hB2.cell (p := ⟨w.heap.size, 6, none⟩) (by show w.heap.size < wr.heap.size; omega)).trans p6, (hB2.cell (p := ⟨w.heap.size, 7, none⟩) (by show w.heap.size < wr.heap.size; omega)).trans p7, (hB2.cell (p := ⟨w.heap.size, 8, none⟩) (by show w.heap.size < wr.heap.size; omega)).trans p8, (hB2.cell (p := ⟨b, o + j * 6, none⟩) (by show b < wr.heap.size; omega)).trans t0, (hB2.cell (p := ⟨b, o + j * 6 + 1, none⟩) (by show b < wr.heap.size; omega)).trans t1, (hB2.cell (p := ⟨b, o + j * 6 + 2, none⟩) (by show b < wr.heap.size; omega)).trans t2, (hB2.cell (p := ⟨b, o + j * 6 + 3, none⟩) (by show b < wr.heap.size; omega)).trans t3, (hB2.cell (p := ⟨b, o + j * 6 + 4, none⟩) (by show b < wr.heap.size; omega)).trans t4, (hB2.cell (p := ⟨b, o + j * 6 + 5, none⟩) (by show b < wr.heap.size; omega)).trans t5⟩; have B2 := Lib.hid hB2; have G2 := Lib.hid hG2; clear hB2 hG2); (try go_wp2_with fail); refine hK.out _ _ Y2 (fun hHeld => ?_); clear hK K; (try simp only [Act.put, List.setIfInBounds_toArray, List.set_cons_zero, List.set_cons_succ, List.getElem_toArray, List.getElem_cons_zero, List.getElem_cons_succ])
      refine wpAnyH_ready (rs := [7]) (by kernel_rfl) (by simp) ?_; refine AllReadyH.cons rfl (fun K hK => ?_) AllReadyH.nil
      refine step_push_row (base := w.heap.size + 1) (bx := wr.heap.size) (F := pre.san X) (G := (Fo.one xk xs xn xt xa kids).san X) (by rfl) _ _ (by rfl) (by rfl) (by rfl) (HG.out.next ((Below.refl _ _).drew.trans (by exact B2.out))) G2.out HLT.out (Nat.le_trans hwr B2.out.size) hwr HLN.out.1 HLN.out.2 (fun v3 w3 bl3 hG3 hB3 => ?_)
      have B3 := Lib.hid hB3
      have G3 := Lib.hid hG3
      have Y3 : (fun w' => w'.cell? ⟨w.heap.size, 0, none⟩ = some (.bool X.ha) ∧ w'.cell? ⟨w.heap.size, 1, none⟩ = some (.bool X.hb) ∧ w'.cell? ⟨w.heap.size, 2, none⟩ = some (.slice V.a1 X.al.length V.c1) ∧ w'.cell? ⟨w.heap.size, 3, none⟩ = some (.slice V.a2 X.rm.length V.c2) ∧ w'.cell? ⟨w.heap.size, 4, none⟩ = some (.slice V.a3 X.uw.length V.c3) ∧ w'.cell? ⟨w.heap.size, 5, none⟩ = some (.slice V.a4 X.at_.length V.c4) ∧ w'.cell? ⟨w.heap.size, 6, none⟩ = some (.slice V.a5 X.dp.length V.c5) ∧ w'.cell? ⟨w.heap.size, 7, none⟩ = some (.bool X.cm) ∧ w'.cell? ⟨w.heap.size, 8, none⟩ = some (.bool X.da) ∧ w'.cell? ⟨b, o + j * 6, none⟩ = some (.int .i64 xk) ∧ w'.cell? ⟨b, o + j * 6 + 1, none⟩ = some (.int .i64 xs) ∧ w'.cell? ⟨b, o + j * 6 + 2, none⟩ = some (.string xn) ∧ w'.cell? ⟨b, o + j * 6 + 3, none⟩ = some (.string xt) ∧ w'.cell? ⟨b, o + j * 6 + 4, none⟩ = some (.slice A4 xa.length c4) ∧ w'.cell? ⟨b, o + j * 6 + 5, none⟩ = some (.slice A5 kids.len c5)) w3 := ⟨(hB3.cell (p := ⟨w.heap.size, 0, none⟩) (by show w.heap.size < w.heap.size + 1; omega)).trans Y2.1, (hB3.cell (p := ⟨w.heap.size, 1, none⟩) (by show w.heap.size < w.heap.size + 1; omega)).trans Y2.2.1, (hB3.cell (p := ⟨w.heap.size, 2, none⟩) (by show w.heap.size < w.heap.size + 1; omega)).trans Y2.2.2.1, (hB3.cell (p := ⟨w.heap.size, 3, none⟩) (by show w.heap.size < w.heap.size + 1; omega)).trans Y2.2.2.2.1, (hB3.cell (p := ⟨w.heap.size, 4, none⟩) (by show w.heap.size < w.heap.size + 1; omega)).trans Y2.2.2.2.2.1, (hB3.cell (p := ⟨w.heap.size, 5, none⟩) (by show w.heap.size < w.heap.size + 1; omega)).trans Y2.2.2.2.2.2.1, (hB3.cell (p := ⟨w.heap.size, 6, none⟩) (by show w.heap.size < w.heap.size + 1; omega)).trans Y2.2.2.2.2.2.2.1, (hB3.cell (p := ⟨w.heap.size, 7, none⟩) (by show w.heap.size < w.heap.size + 1; omega)).trans Y2.2.2.2.2.2.2.2.1, (hB3.cell (p := ⟨w.heap.size, 8, none⟩) (by show w.heap.size < w.heap.size + 1; omega)).trans Y2.2.2.2.2.2.2.2.2.1, (hB3.cell (p := ⟨b, o + j * 6, none⟩) (by show b < w.heap.size + 1; omega)).trans Y2.2.2.2.2.2.2.2.2.2.1, (hB3.cell (p := ⟨b, o + j * 6 + 1, none⟩) (by show b < w.heap.size + 1; omega)).trans Y2.2.2.2.2.2.2.2.2.2.2.1, (hB3.cell (p := ⟨b, o + j * 6 + 2, none⟩) (by show b < w.heap.size + 1; omega)).trans Y2.2.2.2.2.2.2.2.2.2.2.2.1, (hB3.cell (p := ⟨b, o + j * 6 + 3, none⟩) (by show b < w.heap.size + 1; omega)).trans Y2.2.2.2.2.2.2.2.2.2.2.2.2.1, (hB3.cell (p := ⟨b, o + j * 6 + 4, none⟩) (by show b < w.heap.size + 1; omega)).trans Y2.2.2.2.2.2.2.2.2.2.2.2.2.2.1, (hB3.cell (p := ⟨b, o + j * 6 + 5, none⟩) (by show b < w.heap.size + 1; omega)).trans Y2.2.2.2.2.2.2.2.2.2.2.2.2.2.2⟩
      clear hG3 hB3
      refine hK.out _ _ Y3 (fun hHeld => ?_); clear hK K; (try simp only [Act.put, List.setIfInBounds_toArray, List.set_cons_zero, List.set_cons_succ, List.getElem_toArray, List.getElem_cons_zero, List.getElem_cons_succ])
      refine wpAnyH_take (i := 8) (v := v3) rfl (by kernel_rfl) (by kernel_rfl) (by kernel_rfl) (fun _ _ _ h => h) (Or.inl ⟨by rfl, fun w hSw => by (try dsimp only at hSw); go_simp⟩) (by assumption) ?_; (try simp only [Act.put, List.setIfInBounds_toArray, List.set_cons_zero, List.set_cons_succ, List.getElem_toArray, List.getElem_cons_zero, List.getElem_cons_succ])
      refine wpAnyH_done (by kernel_rfl) ?_ _
      go_wp2_with fail
      go_roundw
      case rel => exact ⟨j + 1, _, pre.app (.one xk xs xn xt xa kids), r, bl3, rfl, by go_num, by simp [Fo.len] at hj; omega, Lib.hid ⟨by rw [← HPR.out, Fo.app_assoc]; rfl, by rw [Fo.san_app]; exact G3.out, HB.out.trans (((Below.refl _ wr).drew).trans ((B2.out.mono hwr).trans B3.out)), by rw [show o + (j + 1) * 6 = o + j * 6 + 6 by omega]; exact HREL.out.1, HREL.out.2⟩⟩
      case measure => (simp [intOf] <;> omega)
theorem l08Tree_any (X : Cf) (V : CfV) (F : Fo) : SanOK X V F := l08Tree_lt X V (F.nodes + 1) F (Nat.lt_succ_self _)
end Go.Proofs.YthdkkpbhijlpaaaGreat
namespace Go.Proofs.YthdkkpbhijlpaaaGreat
open Go.ChangeShapes Go.WideShapes Go.ChangeAt Go.RowKit Go.Deep

/-- what a function over attributes answers -/
def AtFn (P : Program) (g : Nat) (first cap : Array Value) (p : ByteArray × ByteArray → Bool) (w : World) : Prop :=
  ∀ (x : ByteArray × ByteArray) (W : World), Below w.heap.size w W → x.1.size ≤ maxLen → x.2.size ≤ maxLen →
    Calls P g (first ++ #[.agg #[.string x.1, .string x.2]] ++ cap) W fun e w' => e = .returned (.bool (p x)) ∧ Below W.heap.size W w'
end Go.Proofs.YthdkkpbhijlpaaaGreat
