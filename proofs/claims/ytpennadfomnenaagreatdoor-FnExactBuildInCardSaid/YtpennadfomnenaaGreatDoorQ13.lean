import Derived.Laws.OwnMore
import Derived.OneCell
import Derived.Deep.QuietTactic
import Derived.BigQuiet
import Derived.Test.YtpennadfomnenaaGreatDoorQ11
import Derived.Test.YtpennadfomnenaaGreatDoorQ12
set_option linter.unusedVariables false
namespace Go.Proofs.YtpennadfomnenaaGreatDoor
open Go.ChangeShapes Go.WideShapes Go.ChangeAt Go.RowKit Go.Deep

theorem infoNode : (Tryz.prog.info? 42).map (fun i => (i.zero, i.size, i.bytes)) = some (some (.agg #[.int .i64 0, .int .i64 0, .string ⟨#[]⟩, .string ⟨#[]⟩, .slice none 0 0, .slice none 0 0]), 6, 96) := by kernel_rfl
theorem infoAttr : (Tryz.prog.info? 45).map (fun i => (i.zero, i.size, i.bytes)) = some (some (.agg #[.string ⟨#[]⟩, .string ⟨#[]⟩]), 2, 32) := by kernel_rfl
theorem info_of {x : Option TypeInfo} {z : Value} {s b : Nat} (h : x.map (fun i => (i.zero, i.size, i.bytes)) = some (some z, s, b)) : ∃ i, x = some i ∧ i.zero = some z ∧ i.size = s ∧ i.bytes = b := by
  obtain ⟨i, hi, hz⟩ := Option.map_eq_some_iff.1 h
  simp only [Prod.mk.injEq] at hz
  exact ⟨i, hi, hz.1, hz.2.1, hz.2.2⟩
/-- a forest is empty, or one with a last node -/
theorem Fo.snoc_or : ∀ F : Fo, F = .nil ∨ ∃ (P : Fo) (k sp : Int) (n t : ByteArray) (al : List (ByteArray × ByteArray)) (kids : Fo), F = P.app (.one k sp n t al kids)
  | .nil => Or.inl rfl
  | .cons k sp n t al kids r => Or.inr (by
    rcases Fo.snoc_or r with h | ⟨P, k', sp', n', t', al', kids', h⟩
    · exact ⟨.nil, k, sp, n, t, al, kids, by subst h; rfl⟩
    · exact ⟨.cons k sp n t al kids P, k', sp', n', t', al', kids', by subst h; rfl⟩)
def Fo.last : Fo → Option (Int × ByteArray)
  | .nil => none
  | .cons k _ _ t _ _ r => match r.last with
    | none => some (k, t)
    | some x => some x
def Fo.addText (u : ByteArray) : Fo → Fo
  | .nil => .nil
  | .cons k sp n t al kids r => match r.last with
    | none => .cons k sp n (t ++ u) al kids r
    | some _ => .cons k sp n t al kids (r.addText u)
theorem Fo.last_snoc (k sp : Int) (n t : ByteArray) (al : List (ByteArray × ByteArray)) (kids : Fo) : ∀ P : Fo, (P.app (.one k sp n t al kids)).last = some (k, t)
  | .nil => rfl
  | .cons _ _ _ _ _ _ r => by simp [Fo.app, Fo.last, Fo.last_snoc k sp n t al kids r]
theorem Fo.addText_snoc (u : ByteArray) (k sp : Int) (n t : ByteArray) (al : List (ByteArray × ByteArray)) (kids : Fo) : ∀ P : Fo, (P.app (.one k sp n t al kids)).addText u = P.app (.one k sp n (t ++ u) al kids)
  | .nil => rfl
  | .cons _ _ _ _ _ _ r => by simp [Fo.app, Fo.addText, Fo.last_snoc k sp n t al kids r, Fo.addText_snoc u k sp n t al kids r]
theorem Fo.addText_len (u : ByteArray) : ∀ F : Fo, (F.addText u).len = F.len
  | .nil => rfl
  | .cons k sp n t al kids r => by
    simp only [Fo.addText]
    split
    · rfl
    · simp [Fo.len, Fo.addText_len u r]
theorem Fo.addText_cnt (u : ByteArray) : ∀ F : Fo, (F.addText u).cnt = F.cnt
  | .nil => rfl
  | .cons k sp n t al kids r => by
    simp only [Fo.addText]
    split
    · rfl
    · simp [Fo.cnt, Fo.addText_cnt u r]
theorem FoVals.unapp {w : World} : ∀ {P S : Fo} {xs : List Value} {bl : List Nat}, FoVals w xs (P.app S) bl → ∃ x1 x2 b1 b2, xs = x1 ++ x2 ∧ bl = b1 ++ b2 ∧ FoVals w x1 P b1 ∧ FoVals w x2 S b2
  | .nil, S, xs, bl, h => ⟨[], xs, [], bl, rfl, rfl, ⟨rfl, rfl⟩, h⟩
  | .cons k sp n t al kids r, S, xs, bl, ⟨A, K, ca, ck, ba, bk, br, xr, hx, hbl, hz, h4, h5, hr⟩ => by
    obtain ⟨x1, x2, b1, b2, rfl, rfl, i1, i2⟩ := FoVals.unapp hr
    exact ⟨_ :: _ :: _ :: _ :: _ :: _ :: x1, x2, ba ++ bk ++ b1, b2, by rw [hx]; rfl, by rw [hbl, List.append_assoc (ba ++ bk)], ⟨A, K, ca, ck, ba, bk, b1, x1, rfl, rfl, hz, h4, h5, i1⟩, i2⟩
/-- the last node of a row that may grow: its cells, and a text put behind its own -/
theorem GRow.last {w : World} {base : Nat} {v : Value} {P : Fo} {k sp : Int} {n t : ByteArray} {al : List (ByteArray × ByteArray)} {kids : Fo} {bl : List Nat} (h : GRow w base v (P.app (.one k sp n t al kids)) bl) :
    ∃ g cap, v = .slice (some ⟨g, 0, none⟩) (P.len + 1) cap ∧ P.len + 1 ≤ cap ∧ base ≤ g ∧ g < w.heap.size ∧ CellW w g (P.len * 6) (.int .i64 k) ∧ CellW w g (P.len * 6 + 3) (.string t) ∧
      ∀ u : ByteArray, (t ++ u).size ≤ maxLen → GRow (w.setCell ⟨g, P.len * 6 + 3, none⟩ (.string (t ++ u))) base v (P.app (.one k sp n (t ++ u) al kids)) bl := by
  obtain ⟨xs, ho, hv, hn, hb, hg⟩ := h
  obtain ⟨x1, x2, b1, b2, rfl, rfl, i1, i2⟩ := hv.unapp
  obtain ⟨A, K, ca, ck, ba, bk, br, xr, rfl, rfl, hz, h4, h5, ⟨rfl, rfl⟩⟩ := i2
  have hln : (P.app (.one k sp n t al kids)).len = P.len + 1 := by rw [Fo.len_app]; rfl
  rw [hln] at ho
  have hx1 := i1.len
  have ho2 := ho.2
  rcases ho2 with ⟨_, h0⟩ | ⟨g, cap, cur, rfl, hbs, hblk, hle, _, _, _⟩
  · omega
  · have hgl : g < w.heap.size := (Array.getElem?_eq_some_iff.1 hblk).1
    refine ⟨g, cap, rfl, hle, hbs, hgl, ⟨?_, ho.frozenAt _⟩, ⟨?_, ho.frozenAt _⟩, fun u hu => ?_⟩
    · rw [ho.cellAt _ (by omega), List.getElem?_append_right (by omega), hx1, Nat.sub_self]; rfl
    · rw [ho.cellAt _ (by omega), List.getElem?_append_right (by omega), hx1, Nat.add_sub_cancel_left]; rfl
    · obtain ⟨s1, s2⟩ := ho.stored (P.len * 6 + 3) (.string (t ++ u))
      have hset : (x1 ++ ([Value.int .i64 k, .int .i64 sp, .string n, .string t, .slice A al.length ca, .slice K kids.len ck] : List Value)).set (P.len * 6 + 3) (.string (t ++ u)) = x1 ++ ([Value.int .i64 k, .int .i64 sp, .string n, .string (t ++ u), .slice A al.length ca, .slice K kids.len ck] : List Value) := by
        rw [List.set_append_right _ _ (by omega), hx1, Nat.add_sub_cancel_left]; rfl
      rw [hset] at s1
      have hk : ∀ q ∈ b1 ++ (ba ++ bk ++ []), (w.setCell ⟨g, P.len * 6 + 3, none⟩ (.string (t ++ u))).heap[q]? = w.heap[q]? := fun q hq => s2.block q (hb q hq).2 (fun e => hg g rfl (by injection e with e; subst e; exact hq))
      refine ⟨_, by rw [Fo.len_app]; exact s1, (i1.app (S := .one k sp n (t ++ u) al kids) (b2 := ba ++ bk ++ []) ⟨A, K, ca, ck, ba, bk, [], [], rfl, rfl, ⟨hz.1, hu⟩, h4, h5, rfl, rfl⟩).same hk, hn, fun q hq => ⟨(hb q hq).1, by rw [World.size_setCell]; exact (hb q hq).2⟩, hg⟩
/-- with nothing in it: a literal -/
theorem GRow.lit {w : World} {base : Nat} (hb : base ≤ w.heap.size) : GRow (w.alloc (.cells #[] 42)) base (.slice (some ⟨w.heap.size, 0, none⟩) 0 0) .nil [] :=
  ⟨[], World.ownsRow_lit w #[] 0 hb (Nat.zero_le _) rfl, ⟨rfl, rfl⟩, List.nodup_nil, by simp, by simp⟩
theorem GRow.low {w : World} {base base' : Nat} {v : Value} {F : Fo} {bl : List Nat} (h : GRow w base v F bl) (hb : base' ≤ base) : GRow w base' v F bl := by
  obtain ⟨xs, ⟨h1, h2⟩, hv, hn, hbl, hg⟩ := h
  exact ⟨xs, ⟨h1, h2.imp id fun ⟨g, cap, cur, e1, e2, e3⟩ => ⟨g, cap, cur, e1, Nat.le_trans hb e2, e3⟩⟩, hv, hn, fun k hk => ⟨Nat.le_trans hb (hbl k hk).1, (hbl k hk).2⟩, hg⟩
/-- all of it, and its row -/
theorem GRow.next {w w' : World} {base : Nat} {v : Value} {F : Fo} {bl : List Nat} (h : GRow w base v F bl) (hB : Below w.heap.size w w') : GRow w' base v F bl := by
  obtain ⟨xs, ho, hv, hn, hbl, hg⟩ := h
  have hk : ∀ k ∈ bl, w'.heap[k]? = w.heap[k]? := fun k hk => hB.block k (hbl k hk).2
  refine ⟨xs, ho.kept (row := none) ⟨hB.os, hB.tape, hB.output, hB.size, fun k hk _ => hB.block k hk⟩ ?_, hv.same hk, hn, fun k hk => ⟨(hbl k hk).1, Nat.lt_of_lt_of_le (hbl k hk).2 hB.size⟩, hg⟩
  cases hv : v.ownBlock with
  | none => exact Or.inl rfl
  | some k => exact Or.inr (by simp)
end Go.Proofs.YtpennadfomnenaaGreatDoor
namespace Go.Proofs.YtpennadfomnenaaGreatDoor
open Go.ChangeShapes Go.WideShapes Go.ChangeAt Go.RowKit Go.Deep

theorem asAt_vals {w : World} {b : Nat} : ∀ {al : List (ByteArray × ByteArray)} {o : Nat}, AsAt w b o al → ∀ j u, (alVals al)[j]? = some u → w.cell? ⟨b, o + j, none⟩ = some u
  | [], _, _, j, u, h => by simp [alVals] at h
  | x :: r, o, ⟨h1, h2, _, _, h5⟩, j, u, h => by
    match j, h with
    | 0, h => simp only [alVals, List.getElem?_cons_zero, Option.some.injEq] at h; subst h; exact h1
    | 1, h => simp only [alVals, List.getElem?_cons_succ, List.getElem?_cons_zero, Option.some.injEq] at h; subst h; exact h2
    | j + 2, h =>
      simp only [alVals, List.getElem?_cons_succ] at h
      have := asAt_vals h5 j u h
      rw [show o + (j + 2) = o + 2 + j by omega]; exact this
theorem asAt_sizes {w : World} {b : Nat} : ∀ {al : List (ByteArray × ByteArray)} {o : Nat}, AsAt w b o al → ∀ x ∈ al, x.1.size ≤ maxLen ∧ x.2.size ≤ maxLen
  | [], _, _, x, hx => by simp at hx
  | y :: r, o, ⟨_, _, h3, h4, h5⟩, x, hx => by
    rcases List.mem_cons.1 hx with rfl | hx
    · exact ⟨h3, h4⟩
    · exact asAt_sizes h5 x hx
theorem alVals_one : ∀ (al : List (ByteArray × ByteArray)), ∀ u ∈ alVals al, u.oneCell' = true
  | [], u, h => by simp [alVals] at h
  | x :: r, u, h => by
    simp only [alVals, List.mem_cons] at h
    rcases h with rfl | rfl | h
    · rfl
    · rfl
    · exact alVals_one r u h
section
variable {P : Program}
/-- attributes put behind an empty row of the call's own -/
theorem run_append_al (w : World) (base : Nat) (t ty e : TypeId) (i : TypeInfo) (z : Value) (ht : P.underlying t = some (.slice e)) (hi : P.info? e = some i) (hz : i.zero = some z) (hs : i.size = 2) (hb : i.bytes = 32) (hzs : z.cells.size = 2)
    (v : Value) (hown : w.ownsRow base e 2 v 0 []) (al : List (ByteArray × ByteArray)) (A : Option Addr) (c b o lo hi' : Nat) (hA : RowAt lo hi' A al.length b o) (hal : AsAt w b o al) (hl : al.length ≤ 1048576) (hbase : base ≤ w.heap.size) :
    ∃ v' w', (Builtin.append_ #[t, t] ty #[v, .slice A al.length c]).run P w = .ok v' w' ∧ w'.ownsRow base e 2 v' al.length (alVals al) ∧ w.grownBy w' v.ownBlock := by
  cases A with
  | none =>
    have h0 : al = [] := by
      cases al with
      | nil => rfl
      | cons x r => have := (hA.2 (by simp)).1; cases this
    subst h0
    refine ⟨v, w, ?_, hown, World.grownBy.refl w _⟩
    rcases hown.2 with ⟨rfl, _⟩ | ⟨g, cap, cur, rfl, _, _, hnc, _⟩
    · simp [Builtin.append_, run_underlying ht, sizeOf, typeInfo, hi, Builtin.lenOf, Builtin.firstCells]
    · simp [Builtin.append_, run_underlying ht, sizeOf, typeInfo, hi, Builtin.lenOf, Builtin.firstCells, storeCells]
  | some ad =>
    have hcells : ∀ j u, (alVals al)[j]? = some u → w.cell? (ad.add j) = some u := by
      intro j u hu
      cases al with
      | nil => simp [alVals] at hu
      | cons x r =>
        obtain ⟨h1, _⟩ := hA.2 (by simp)
        injection h1 with h1
        subst h1
        rw [Addr.add_lit]
        exact asAt_vals hal j u hu
    obtain ⟨v', w', hrun, h2, h3, _, _⟩ := run_append_own_at (P := P) w base t ty e i z 2 32 ht hi hz hs hb hzs (by omega) v 0 [] hown ad al.length c (alVals al) (alVals_len al) hcells (alVals_one al) (by unfold maxLen; omega) (by omega) hbase
    rw [Nat.zero_add] at h2
    exact ⟨v', w', hrun, h2, h3⟩
theorem wpList_append_al {ops : Array Oper} {rest : List Oper} {o : Oper} {a : Act} {Q : Exit → Act → World → Prop} {w : World} (hgd : o.guard = none) (s x : Operand) (t : TypeId)
    (ho : o.op = .call { callee := .builtin .append, args := #[s, x], argTypes := #[t, t] })
    (base : Nat) (e : TypeId) (i : TypeInfo) (z : Value) (ht : P.underlying t = some (.slice e)) (hi : P.info? e = some i) (hz : i.zero = some z) (hs : i.size = 2) (hb : i.bytes = 32) (hzs : z.cells.size = 2)
    (v : Value) (hv : a.eval s = v) (hown : w.ownsRow base e 2 v 0 []) (al : List (ByteArray × ByteArray)) (A : Option Addr) (c b oo lo hi' : Nat) (hx : a.eval x = .slice A al.length c) (hA : RowAt lo hi' A al.length b oo) (hal : AsAt w b oo al) (hl : al.length ≤ 1048576) (hbase : base ≤ w.heap.size)
    (h : ∀ v' w', w'.ownsRow base e 2 v' al.length (alVals al) → w.grownBy w' v.ownBlock → wpList P ops Q rest (a.put o.dst v') w') : wpList P ops Q (o :: rest) a w := by
  refine wpList_plain hgd fun K hK => ?_
  obtain ⟨v', w', hr, h2, h3⟩ := run_append_al (P := P) w base t o.type e i z ht hi hz hs hb hzs v hown al A c b oo lo hi' hA hal hl hbase
  unfold Oper.wp execOp
  simp only [ho, resolve, invoke, builtin, Sem.run_bind, Sem.run_pure, Result.andThen_ok, List.map_toArray, List.map_cons, List.map_nil, hv, hx, hr]
  exact hK _ _ (h v' w' h2 h3)
end

theorem cells_new (w : World) (l : List Value) (t : TypeId) : ∀ j u, l[j]? = some u → (w.alloc (.cells l.toArray t)).cell? ((⟨w.heap.size, 0, none⟩ : Addr).add j) = some u := fun j u h => by
  rw [Addr.add_lit, Nat.zero_add, World.cell?_alloc_new]; simpa using h
/-- a node put behind a row that may grow, out of a literal in block g0 -/
theorem wpList_push_node {ops : Array Oper} {rest : List Oper} {o : Oper} {a : Act} {Q : Exit → Act → World → Prop} {w0 w : World} (hgd : o.guard = none) (s x : Operand)
    (ho : o.op = .call { callee := .builtin .append, args := #[s, x], argTypes := #[35, 35] })
    (base g0 : Nat) (v : Value) (F : Fo) (bl : List Nat) (hv : a.eval s = v) (hG : GRow w0 base v F bl) (hB : Below w0.heap.size w0 w) (hbase : base ≤ w0.heap.size) (hF : F.len ≤ 1048576) (hx : a.eval x = .slice (some ⟨g0, 0, none⟩) 1 1)
    (k sp : Int) (n t : ByteArray) (al : List (ByteArray × ByteArray)) (kids : Fo) (A K : Option Addr) (ca ck : Nat) (ba bk : List Nat)
    (hc : ∀ j u, ([.int .i64 k, .int .i64 sp, .string n, .string t, .slice A al.length ca, .slice K kids.len ck] : List Value)[j]? = some u → w.cell? ((⟨g0, 0, none⟩ : Addr).add j) = some u)
    (hz : n.size ≤ maxLen ∧ t.size ≤ maxLen) (h4 : al.length ≤ ca ∧ al.length ≤ maxLen ∧ AlRow w A al ba) (h5 : kids.len ≤ ck ∧ kids.len ≤ maxLen ∧ KRow w K kids bk)
    (hn : (ba ++ bk).Nodup) (hb : ∀ q ∈ ba ++ bk, w0.heap.size ≤ q ∧ q < w.heap.size)
    (h : ∀ v' w' bl', GRow w' base v' (F.app (.one k sp n t al kids)) bl' → Below base w w' → wpList Tryz.prog ops Q rest (a.put o.dst v') w') : wpList Tryz.prog ops Q (o :: rest) a w := by
  obtain ⟨i0, hi0, hz0, hz1, hz2⟩ := info_of infoNode
  obtain ⟨xs, ho', hvv, hnd, hbl, hg⟩ := hG.next hB
  have hlt : ∀ q, v.ownBlock = some q → q < w0.heap.size := by
    obtain ⟨_, ho0, _⟩ := hG
    exact fun q hq => (World.ownsRow.lt ho0 q hq).2
  have hbl0 : ∀ q ∈ bl, q < w0.heap.size := by
    obtain ⟨_, _, _, _, h, _⟩ := hG
    exact fun q hq => (h q hq).2
  have hbw : base ≤ w.heap.size := Nat.le_trans hbase hB.size
  refine wpList_append_own_at w hgd s x 35 ho base 42 i0 _ 6 96 Tryz.underlying35 hi0 hz0 hz1 hz2 rfl (by omega) v F.len xs hv ho' ⟨g0, 0, none⟩ 1 1 _ hx rfl hc (by intro u hu; simp only [List.mem_cons, List.not_mem_nil, or_false] at hu; rcases hu with rfl | rfl | rfl | rfl | rfl | rfl <;> rfl) (by unfold maxLen; omega) (by omega) hbw ?_
  intro v' w' hown hgrow _ hat
  refine h v' w' (bl ++ (ba ++ bk)) (grow_push hvv (fun q hq => ?_) ?_ (fun q hq hm => ?_) hz h4 h5 hown (fun q h1 h2 => hgrow.block q h1 (fun e => h2 e.symm)) hgrow.size ?_) ((Below.refl base w).grown hgrow hbw fun q hq => (World.ownsRow.lt ho' q hq).1)
  · rcases List.mem_append.1 hq with hq | hq
    · exact hbl q hq
    · exact ⟨Nat.le_trans hbase (hb q hq).1, (hb q hq).2⟩
  · refine List.nodup_append.2 ⟨hnd, hn, fun p hp q hq e => ?_⟩
    subst e
    have := hbl0 p hp
    have := (hb p hq).1
    omega
  · rcases List.mem_append.1 hm with hm | hm
    · exact hg q hq hm
    · have := hlt q hq
      have := (hb q hm).1
      omega
  · rcases hat with h | h
    · exact Or.inl h
    · exact Or.inr ⟨_, h, Nat.le_refl _⟩
end Go.Proofs.YtpennadfomnenaaGreatDoor
namespace Go.Proofs.YtpennadfomnenaaGreatDoor
open Go.ChangeShapes Go.WideShapes Go.ChangeAt Go.RowKit Go.Deep

/-- a row of its own comes back -/
def RowOut (G : Fo) (w : World) (e : Ending) (w' : World) : Prop := ∃ v bl, e = .returned v ∧ Below w.heap.size w w' ∧ GRow w' w.heap.size v G bl
def MakesOK (f : FuncId) (G : Fo → Fo) (F : Fo) : Prop := ∀ (w : World) (A : Option Addr) (c b o lo hi : Nat), F.small → F.len ≤ 1048576 → RowAt lo hi A F.len b o → hi ≤ w.heap.size → FoAt w lo hi b o F →
    Calls Tryz.prog f #[.slice A F.len c] w (RowOut (G F) w)
/-- a copied row of attributes, behind block g -/
def Cp (g : Nat) (w : World) (A : Option Addr) (ca : Nat) (al : List (ByteArray × ByteArray)) (ba : List Nat) : Prop := (al.length ≤ ca ∧ al.length ≤ maxLen ∧ AlRow w A al ba) ∧ ba.Nodup ∧ ∀ k ∈ ba, g < k ∧ k < w.heap.size
theorem Cp.of {g base : Nat} {w : World} {v : Value} {al : List (ByteArray × ByteArray)} (h : w.ownsRow base 45 2 v al.length (alVals al)) (hs : ∀ x ∈ al, x.1.size ≤ maxLen ∧ x.2.size ≤ maxLen) (hl : al.length ≤ maxLen) (hg : g < base) : ∃ A ca ba, v = .slice A al.length ca ∧ Cp g w A ca al ba := by
  obtain ⟨A, ca, ba, h1, h2, h3, h4, h5, _⟩ := arow_form h hs
  exact ⟨A, ca, ba, h1, ⟨h2, hl, h3⟩, h4, fun k hk => ⟨by have := (h5 k hk).1; omega, (h5 k hk).2⟩⟩
theorem Cp.set {g : Nat} {w : World} {A : Option Addr} {ca : Nat} {al : List (ByteArray × ByteArray)} {ba : List Nat} (h : Cp g w A ca al ba) (j : Nat) (u : Value) : Cp g (w.setCell ⟨g, j, none⟩ u) A ca al ba :=
  ⟨⟨h.1.1, h.1.2.1, h.1.2.2.same fun k hk => Below.heap_setCell _ _ _ _ (by have := (h.2.2 k hk).1; show k ≠ g; omega)⟩, h.2.1, fun k hk => by rw [World.size_setCell]; exact h.2.2 k hk⟩
theorem Cp.next {g : Nat} {w w' : World} {A : Option Addr} {ca : Nat} {al : List (ByteArray × ByteArray)} {ba : List Nat} (h : Cp g w A ca al ba) (hB : Below w.heap.size w w') : Cp g w' A ca al ba :=
  ⟨⟨h.1.1, h.1.2.1, h.1.2.2.same fun k hk => hB.block k (h.2.2 k hk).2⟩, h.2.1, fun k hk => ⟨(h.2.2 k hk).1, Nat.lt_of_lt_of_le (h.2.2 k hk).2 hB.size⟩⟩
/-- a copied row of nodes, from M on -/
def Kp (M : Nat) (w : World) (K : Option Addr) (ck : Nat) (F : Fo) (bk : List Nat) : Prop := (F.len ≤ ck ∧ F.len ≤ maxLen ∧ KRow w K F bk) ∧ bk.Nodup ∧ ∀ k ∈ bk, M ≤ k ∧ k < w.heap.size
theorem Kp.of {M : Nat} {w : World} {v : Value} {F : Fo} {bl : List Nat} (h : GRow w M v F bl) (hm : F.len ≤ maxLen) : ∃ K ck bk, v = .slice K F.len ck ∧ Kp M w K ck F bk := by
  obtain ⟨K, ck, bk, h1, h2, h3, h4, h5⟩ := h.form
  exact ⟨K, ck, bk, h1, ⟨h2, hm, h3⟩, h4, h5⟩
theorem Kp.set {M g : Nat} {w : World} {K : Option Addr} {ck : Nat} {F : Fo} {bk : List Nat} (h : Kp M w K ck F bk) (hg : g < M) (j : Nat) (u : Value) : Kp M (w.setCell ⟨g, j, none⟩ u) K ck F bk :=
  ⟨⟨h.1.1, h.1.2.1, h.1.2.2.same fun k hk => Below.heap_setCell _ _ _ _ (by have := (h.2.2 k hk).1; show k ≠ g; omega)⟩, h.2.1, fun k hk => by rw [World.size_setCell]; exact h.2.2 k hk⟩
theorem Kp.next {M : Nat} {w w' : World} {K : Option Addr} {ck : Nat} {F : Fo} {bk : List Nat} (h : Kp M w K ck F bk) (hB : Below w.heap.size w w') : Kp M w' K ck F bk :=
  ⟨⟨h.1.1, h.1.2.1, h.1.2.2.same fun k hk => hB.block k (h.2.2 k hk).2⟩, h.2.1, fun k hk => ⟨(h.2.2 k hk).1, Nat.lt_of_lt_of_le (h.2.2 k hk).2 hB.size⟩⟩
/-- behind the append of attributes to a literal of none -/
theorem box_lit {wr w2 : World} {cs : Array Value} {t te : TypeId} (hg : ((wr.alloc (.cells cs t)).alloc (.cells #[] te)).grownBy w2 (some (wr.heap.size + 1))) : Lay w2 wr.heap.size cs ∧ Below wr.heap.size wr w2 ∧ wr.heap.size + 1 < w2.heap.size := by
  have h1 := hg.size
  simp only [World.size_alloc] at h1
  have e : w2.heap[wr.heap.size]? = ((wr.alloc (.cells cs t)).alloc (.cells #[] te)).heap[wr.heap.size]? := hg.block _ (by simp; omega) (by simp)
  have hL := (Lay.new wr cs t).alloc (by simp) (.cells #[] te)
  refine ⟨⟨fun j => (World.cell?_of_block (a := ⟨_, j, none⟩) e).trans (hL.1 j), fun j => (World.frozen?_of_block (a := ⟨_, j, none⟩) e).trans (hL.2 j)⟩, (((Below.refl wr.heap.size wr).alloc (Nat.le_refl _) _).alloc (by simp) _).grown hg (by simp; omega) (fun q hq => by injection hq with hq; omega), by omega⟩
theorem own_lit (wr : World) (cs : Array Value) (t : TypeId) : ((wr.alloc (.cells cs t)).alloc (.cells #[] 45)).ownsRow (wr.heap.size + 1) 45 2 (.slice (some ⟨wr.heap.size + 1, 0, none⟩) 0 0) 0 [] := by
  have := World.ownsRow_lit (base := wr.heap.size + 1) (e := 45) (size := 2) (wr.alloc (.cells cs t)) #[] 0 (by simp) (Nat.zero_le _) rfl
  simpa using this
theorem lay6 {w : World} {g : Nat} {v0 v1 v2 v3 v4 v5 : Value} (h : Lay w g #[v0, v1, v2, v3, v4, v5]) : w.cell? ⟨g, 0, none⟩ = some v0 ∧ w.cell? ⟨g, 1, none⟩ = some v1 ∧ w.cell? ⟨g, 2, none⟩ = some v2 ∧ w.cell? ⟨g, 3, none⟩ = some v3 ∧ w.cell? ⟨g, 4, none⟩ = some v4 ∧ w.cell? ⟨g, 5, none⟩ = some v5 :=
  ⟨h.1 0, h.1 1, h.1 2, h.1 3, h.1 4, h.1 5⟩
set_option maxHeartbeats 2000000 in
set_option maxRecDepth 100000 in
theorem l03Copy_lt : ∀ (N : Nat) (F : Fo), F.nodes < N → MakesOK 72 id F := by
  intro N
  induction N with
  | zero => intro F hF; omega
  | succ N IH =>
  intro F hF w A c b o lo hi hsm hl hA hh hFo
  obtain ⟨ia, hia, hza, hsa, hba⟩ := info_of infoAttr
  have HA := Lib.hid hA
  have HS := Lib.hid hFo
  have HF := Lib.hid hF
  have HI := Lib.hid IH
  have HSM := Lib.hid hsm
  clear hA hFo hF IH hsm
  go_enter Tryz.func72, Tryz.ntmps72
  go_wp2
  go_loopw [3, 4] (fun m i wr => ∃ (k : Nat) (pre suf : Fo), i = .int .i64 (k : Int) ∧ k + suf.len = F.len ∧ Hid (pre.len = k ∧ F = pre.app suf ∧ (∃ bl, GRow wr w.heap.size m pre bl) ∧ FoAt w lo hi b (o + k * 6) suf ∧ Below w.heap.size w wr ∧ suf.nodes < N + 1)) (fun m i wr => F.len - (intOf i).toNat)
  case atStart => exact ⟨0, .nil, F, rfl, by omega, Lib.hid ⟨rfl, rfl, ⟨[], GRow.lit (Nat.le_refl _)⟩, by simpa using HS.out, (Below.refl _ _).alloc (Nat.le_refl _) _, HF.out⟩⟩
  case round =>
    obtain ⟨k, pre, suf, rfl, hk, HH⟩ := hrel
    cases suf with
    | nil =>
      have hkl : k = F.len := by simpa [Fo.len] using hk
      clear hk
      subst hkl
      go_wp2
      go_ret
      obtain ⟨i1, i2, ⟨bl, i3⟩, _, i5, _⟩ := HH.out
      exact ⟨_, bl, rfl, i5, by rw [Fo.app_nil] at i2; rw [show id F = F from rfl, i2]; exact i3⟩
    | cons xk xs xn xt xa kids r =>
      have hkl : k < F.len := by simp [Fo.len] at hk; omega
      obtain ⟨hpl, hp, ⟨bl, hG⟩, ⟨⟨s0, s1, s2, s3, z2, z3⟩, ⟨A4, c4, b4, o4, s4, r4, a4⟩, ⟨A5, c5, b5, o5, s5, r5, a5⟩, sr⟩, hB, hnd⟩ := HH.out
      obtain ⟨rfl, hlo, hhi⟩ := HA.out.2 (by omega)
      have hb : b < w.heap.size := by omega
      have t0 := (hB.cell (p := ⟨b, _, none⟩) hb).trans s0
      have t1 := (hB.cell (p := ⟨b, _, none⟩) hb).trans s1
      have t2 := (hB.cell (p := ⟨b, _, none⟩) hb).trans s2
      have t3 := (hB.cell (p := ⟨b, _, none⟩) hb).trans s3
      have t4 := (hB.cell (p := ⟨b, _, none⟩) hb).trans s4
      have t5 := (hB.cell (p := ⟨b, _, none⟩) hb).trans s5
      have HB := Lib.hid hB
      have HG := Lib.hid hG
      have H4 := Lib.hid (And.intro r4.2 a4)
      have H5 := Lib.hid (And.intro r5.2 a5)
      have HR := Lib.hid sr
      have HP := Lib.hid (And.intro hpl hp)
      have HND : Hid (kids.nodes < N ∧ r.nodes < N + 1) := Lib.hid (by simp [Fo.nodes] at hnd; omega)
      have HSK : Hid (xa.length ≤ 1048576 ∧ kids.len ≤ 1048576 ∧ kids.small ∧ r.small) := by have := HSM.out; rw [hp] at this; exact Lib.hid (Fo.small_app pre this)
      have HZ := Lib.hid (And.intro z2 z3)
      clear HH s0 s1 s2 s3 s4 s5 sr hB hG r4 r5 a4 a5 hpl hp hnd z2 z3
      have hbw : w.heap.size ≤ wr.heap.size := HB.out.size
      go_wp2_with (at_builtin; refine wpList_append_al rfl (.tmp 17) (.tmp 19) 27 rfl (wr.heap.size + 1) 45 ia _ Tryz.underlying27 hia hza hsa hba rfl (.slice (some ⟨wr.heap.size + 1, 0, none⟩) 0 0) rfl (own_lit wr _ _) xa A4 c4 b4 o4 lo hi rfl H4.out.1 (al_below H4.out.1 H4.out.2 ((HB.out.alloc hbw _).alloc (by simp; omega) _) hh) HSK.out.1 (by simp) ?_; intro v2 w2 hown2 hgrow2; obtain ⟨L2, B2, hs2⟩ := box_lit hgrow2; obtain ⟨A', ca, ba, rfl, hC⟩ := Cp.of hown2 (asAt_sizes H4.out.2) (by have := HSK.out.1; unfold maxLen; omega) (Nat.lt_succ_self _); obtain ⟨p0, p1, p2, p3, p4, p5⟩ := lay6 L2; have f4 := L2.2 4; have K2 := Lib.hid L2; have KB2 := Lib.hid B2; have C2 := Lib.hid hC; have C2lt := Lib.hid (show ∀ q ∈ ba, q < w2.heap.size from fun q hq => (hC.2.2 q hq).2); clear hown2 hgrow2 L2 B2 hC)
      have B3 : Hid (Below w.heap.size w (w2.setCell ⟨wr.heap.size, 4, none⟩ (.slice A' xa.length ca))) := Lib.hid ((HB.out.trans (KB2.out.mono hbw)).setCell (p := ⟨wr.heap.size, 4, none⟩) hbw _)
      have C3 := Lib.hid (C2.out.set 4 (.slice A' xa.length ca))
      have K3 := Lib.hid (K2.out.set 4 (.slice A' xa.length ca))
      clear C2 K2 p0 p1 p2 p3 p4 p5 f4
      refine (HI.out kids HND.out.1 _ A5 c5 b5 o5 lo hi HSK.out.2.2.1 HSK.out.2.1 H5.out.1 (Nat.le_trans hh B3.out.size) (FoAt.below H5.out.1 H5.out.2 B3.out hh)).mono ?_
      rintro e w4 ⟨v4, bl4, rfl, hB4, hG4⟩
      obtain ⟨K', ck, bk, rfl, hK⟩ := Kp.of hG4 (by have := HSK.out.2.1; show kids.len ≤ _; unfold maxLen; omega)
      rw [World.size_setCell] at hK
      have hs4 := hB4.size
      rw [World.size_setCell] at hs4
      have L4 := K3.out.below hB4 (by rw [World.size_setCell]; omega)
      have C4 := Lib.hid ((C3.out.next hB4).set 5 (.slice K' kids.len ck))
      have KK := Lib.hid (hK.set (g := wr.heap.size) (by omega) 5 (.slice K' kids.len ck))
      have BW : Hid (Below wr.heap.size wr (w4.setCell ⟨wr.heap.size, 5, none⟩ (.slice K' kids.len ck))) := Lib.hid (((KB2.out.setCell (p := ⟨wr.heap.size, 4, none⟩) (Nat.le_refl _) _).trans (hB4.mono (by rw [World.size_setCell]; omega))).setCell (p := ⟨wr.heap.size, 5, none⟩) (Nat.le_refl _) _)
      obtain ⟨p0, p1, p2, p3, p4, p5⟩ := lay6 L4
      have f5 := L4.2 5
      clear hB4 hG4 hK L4 K3 C3 B3
      have hcn := cells_new (w4.setCell ⟨wr.heap.size, 5, none⟩ (.slice K' kids.len ck)) [.int .i64 xk, .int .i64 xs, .string xn, .string xt, .slice A' xa.length ca, .slice K' kids.len ck] 42
      rw [World.size_setCell] at hcn
      have HCN := Lib.hid hcn
      have hpl : pre.len ≤ 1048576 := by have := HP.out.1; omega
      have HND2 : Hid ((ba ++ bk).Nodup ∧ ∀ q ∈ ba ++ bk, wr.heap.size ≤ q ∧ q < w4.heap.size) := by
        have h1 := C4.out.2
        have h2 := KK.out.2
        simp only [World.size_setCell] at h1 h2
        have h3 := C2lt.out
        refine Lib.hid ⟨List.nodup_append.2 ⟨h1.1, h2.1, fun p hp q hq e => ?_⟩, fun q hq => ?_⟩
        · subst e
          have := h3 p hp
          have := (h2.2 p hq).1
          omega
        · rcases List.mem_append.1 hq with hq | hq
          · exact ⟨by have := (h1.2 q hq).1; omega, (h1.2 q hq).2⟩
          · exact ⟨by have := (h2.2 q hq).1; omega, (h2.2 q hq).2⟩
      clear hcn
      go_wp2_with (at_builtin; refine wpList_push_node rfl (.tmp 26) (.tmp 28) rfl w.heap.size _ _ pre bl rfl HG.out (BW.out.alloc (by simp; omega) _) hbw hpl rfl xk xs xn xt xa kids A' K' ca ck ba bk HCN.out HZ.out (C4.out.next ((Below.refl _ _).alloc (Nat.le_refl _) _)).1 (KK.out.next ((Below.refl _ _).alloc (Nat.le_refl _) _)).1 HND2.out.1 (fun q hq => ⟨(HND2.out.2 q hq).1, by have := (HND2.out.2 q hq).2; simp; omega⟩) ?_; intro v6 w6 bl6 hG6 hB6; have G6 := Lib.hid hG6; have B6 := Lib.hid (HB.out.trans (((BW.out.mono hbw).alloc (by simp; omega) _).trans hB6)); clear hG6 hB6)
      go_roundw
      case rel => exact ⟨k + 1, pre.app (.one xk xs xn xt xa kids), r, by go_num, by simp [Fo.len] at hk; omega, Lib.hid ⟨by rw [Fo.len_app, HP.out.1]; rfl, by rw [HP.out.2, Fo.app_assoc]; rfl, ⟨_, G6.out⟩, by rw [show o + (k + 1) * 6 = o + k * 6 + 6 by omega]; exact HR.out, B6.out, HND.out.2⟩⟩
      case measure => simp [intOf]; omega
theorem l03Copy_any (F : Fo) : MakesOK 72 id F := l03Copy_lt (F.nodes + 1) F (Nat.lt_succ_self _)
end Go.Proofs.YtpennadfomnenaaGreatDoor
