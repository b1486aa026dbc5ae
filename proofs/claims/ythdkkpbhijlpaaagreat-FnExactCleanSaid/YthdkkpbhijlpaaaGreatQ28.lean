import Derived.Laws.OwnMore
import Derived.OneCell
import Derived.Deep.QuietTactic
import Derived.BigQuiet
import Derived.Test.YthdkkpbhijlpaaaGreatQ20
import Derived.Test.YthdkkpbhijlpaaaGreatQ27
set_option linter.unusedVariables false
namespace Go.Proofs.YthdkkpbhijlpaaaGreat
open Go.ChangeShapes Go.WideShapes Go.ChangeAt Go.RowKit Go.Deep

theorem infoNode : (Tryz.prog.info? 71).map (fun i => (i.zero, i.size, i.bytes)) = some (some (.agg #[.int .i64 0, .int .i64 0, .string ⟨#[]⟩, .string ⟨#[]⟩, .slice none 0 0, .slice none 0 0]), 6, 96) := by kernel_rfl
theorem infoAttr : (Tryz.prog.info? 121).map (fun i => (i.zero, i.size, i.bytes)) = some (some (.agg #[.string ⟨#[]⟩, .string ⟨#[]⟩]), 2, 32) := by kernel_rfl
theorem info_of {x : Option TypeInfo} {z : Value} {s b : Nat} (h : x.map (fun i => (i.zero, i.size, i.bytes)) = some (some z, s, b)) : ∃ i, x = some i ∧ i.zero = some z ∧ i.size = s ∧ i.bytes = b := by
  obtain ⟨i, hi, hz⟩ := Option.map_eq_some_iff.1 h
  simp only [Prod.mk.injEq] at hz
  exact ⟨i, hi, hz.1, hz.2.1, hz.2.2⟩
/-- with nothing in it: a literal -/
theorem GRow.lit {w : World} {base : Nat} (hb : base ≤ w.heap.size) : GRow (w.alloc (.cells #[] 71)) base (.slice (some ⟨w.heap.size, 0, none⟩) 0 0) .nil [] :=
  ⟨[], World.ownsRow_lit w #[] 0 hb (Nat.zero_le _) rfl, ⟨rfl, rfl⟩, List.nodup_nil, by simp, by simp⟩
theorem GRow.low {w : World} {base base' : Nat} {v : Value} {F : Fo} {bl : List Nat} (h : GRow w base v F bl) (hb : base' ≤ base) : GRow w base' v F bl := by
  obtain ⟨xs, ⟨h1, h2⟩, hv, hn, hbl, hg⟩ := h
  exact ⟨xs, ⟨h1, h2.imp id fun ⟨g, cap, cur, e1, e2, e3⟩ => ⟨g, cap, cur, e1, Nat.le_trans hb e2, e3⟩⟩, hv, hn, fun k hk => ⟨Nat.le_trans hb (hbl k hk).1, (hbl k hk).2⟩, hg⟩
/-- all of it, and its row -/
theorem GRow.next {w w' : World} {base : Nat} {v : Value} {F : Fo} {bl : List Nat} (h : GRow w base v F bl) (hB : Below w.heap.size w w') : GRow w' base v F bl := by
  obtain ⟨xs, ho, hv, hn, hbl, hg⟩ := h
  have hk : ∀ k ∈ bl, w'.heap[k]? = w.heap[k]? := fun k hk => hB.block k (hbl k hk).2
  refine ⟨xs, ho.kept (row := none) ⟨hB.os, hB.tape, hB.output, hB.size, fun k hk _ => hB.block k hk⟩ ?_, hv.same hk, hn, fun k hk => ⟨(hbl k hk).1, Nat.lt_of_lt_of_le (hbl k hk).2 hB.size⟩, hg⟩
  cases hv : v.ownBlock with
  | none => exact Or.inl rfl
  | some k => exact Or.inr (by simp)
end Go.Proofs.YthdkkpbhijlpaaaGreat
namespace Go.Proofs.YthdkkpbhijlpaaaGreat
open Go.ChangeShapes Go.WideShapes Go.ChangeAt Go.RowKit Go.Deep

theorem asAt_vals {w : World} {b : Nat} : ∀ {al : List (ByteArray × ByteArray)} {o : Nat}, AsAt w b o al → ∀ j u, (alVals al)[j]? = some u → w.cell? ⟨b, o + j, none⟩ = some u
  | [], _, _, j, u, h => by simp [alVals] at h
  | x :: r, o, ⟨h1, h2, _, _, h5⟩, j, u, h => by
    match j, h with
    | 0, h => simp only [alVals, List.getElem?_cons_zero, Option.some.injEq] at h; subst h; exact h1
    | 1, h => simp only [alVals, List.getElem?_cons_succ, List.getElem?_cons_zero, Option.some.injEq] at h; subst h; exact h2
    | j + 2, h =>
      simp only [alVals, List.getElem?_cons_succ] at h
      have := asAt_vals h5 j u h
      rw [show o + (j + 2) = o + 2 + j by omega]; exact this
theorem asAt_sizes {w : World} {b : Nat} : ∀ {al : List (ByteArray × ByteArray)} {o : Nat}, AsAt w b o al → ∀ x ∈ al, x.1.size ≤ maxLen ∧ x.2.size ≤ maxLen
  | [], _, _, x, hx => by simp at hx
  | y :: r, o, ⟨_, _, h3, h4, h5⟩, x, hx => by
    rcases List.mem_cons.1 hx with rfl | hx
    · exact ⟨h3, h4⟩
    · exact asAt_sizes h5 x hx
theorem alVals_one : ∀ (al : List (ByteArray × ByteArray)), ∀ u ∈ alVals al, u.oneCell' = true
  | [], u, h => by simp [alVals] at h
  | x :: r, u, h => by
    simp only [alVals, List.mem_cons] at h
    rcases h with rfl | rfl | h
    · rfl
    · rfl
    · exact alVals_one r u h
section
variable {P : Program}
/-- attributes put behind an empty row of the call's own -/
theorem run_append_al (w : World) (base : Nat) (t ty e : TypeId) (i : TypeInfo) (z : Value) (ht : P.underlying t = some (.slice e)) (hi : P.info? e = some i) (hz : i.zero = some z) (hs : i.size = 2) (hb : i.bytes = 32) (hzs : z.cells.size = 2)
    (v : Value) (hown : w.ownsRow base e 2 v 0 []) (al : List (ByteArray × ByteArray)) (A : Option Addr) (c b o lo hi' : Nat) (hA : RowAt lo hi' A al.length b o) (hal : AsAt w b o al) (hl : al.length ≤ 1048576) (hbase : base ≤ w.heap.size) :
    ∃ v' w', (Builtin.append_ #[t, t] ty #[v, .slice A al.length c]).run P w = .ok v' w' ∧ w'.ownsRow base e 2 v' al.length (alVals al) ∧ w.grownBy w' v.ownBlock := by
  cases A with
  | none =>
    have h0 : al = [] := by
      cases al with
      | nil => rfl
      | cons x r => have := (hA.2 (by simp)).1; cases this
    subst h0
    refine ⟨v, w, ?_, hown, World.grownBy.refl w _⟩
    rcases hown.2 with ⟨rfl, _⟩ | ⟨g, cap, cur, rfl, _, _, hnc, _⟩
    · simp [Builtin.append_, run_underlying ht, sizeOf, typeInfo, hi, Builtin.lenOf, Builtin.firstCells]
    · simp [Builtin.append_, run_underlying ht, sizeOf, typeInfo, hi, Builtin.lenOf, Builtin.firstCells, storeCells]
  | some ad =>
    have hcells : ∀ j u, (alVals al)[j]? = some u → w.cell? (ad.add j) = some u := by
      intro j u hu
      cases al with
      | nil => simp [alVals] at hu
      | cons x r =>
        obtain ⟨h1, _⟩ := hA.2 (by simp)
        injection h1 with h1
        subst h1
        rw [Addr.add_lit]
        exact asAt_vals hal j u hu
    obtain ⟨v', w', hrun, h2, h3, _, _⟩ := run_append_own_at (P := P) w base t ty e i z 2 32 ht hi hz hs hb hzs (by omega) v 0 [] hown ad al.length c (alVals al) (alVals_len al) hcells (alVals_one al) (by unfold maxLen; omega) (by omega) hbase
    rw [Nat.zero_add] at h2
    exact ⟨v', w', hrun, h2, h3⟩
theorem wpList_append_al {ops : Array Oper} {rest : List Oper} {o : Oper} {a : Act} {Q : Exit → Act → World → Prop} {w : World} (hgd : o.guard = none) (s x : Operand) (t : TypeId)
    (ho : o.op = .call { callee := .builtin .append, args := #[s, x], argTypes := #[t, t] })
    (base : Nat) (e : TypeId) (i : TypeInfo) (z : Value) (ht : P.underlying t = some (.slice e)) (hi : P.info? e = some i) (hz : i.zero = some z) (hs : i.size = 2) (hb : i.bytes = 32) (hzs : z.cells.size = 2)
    (v : Value) (hv : a.eval s = v) (hown : w.ownsRow base e 2 v 0 []) (al : List (ByteArray × ByteArray)) (A : Option Addr) (c b oo lo hi' : Nat) (hx : a.eval x = .slice A al.length c) (hA : RowAt lo hi' A al.length b oo) (hal : AsAt w b oo al) (hl : al.length ≤ 1048576) (hbase : base ≤ w.heap.size)
    (h : ∀ v' w', w'.ownsRow base e 2 v' al.length (alVals al) → w.grownBy w' v.ownBlock → wpList P ops Q rest (a.put o.dst v') w') : wpList P ops Q (o :: rest) a w := by
  refine wpList_plain hgd fun K hK => ?_
  obtain ⟨v', w', hr, h2, h3⟩ := run_append_al (P := P) w base t o.type e i z ht hi hz hs hb hzs v hown al A c b oo lo hi' hA hal hl hbase
  unfold Oper.wp execOp
  simp only [ho, resolve, invoke, builtin, Sem.run_bind, Sem.run_pure, Result.andThen_ok, List.map_toArray, List.map_cons, List.map_nil, hv, hx, hr]
  exact hK _ _ (h v' w' h2 h3)
end

theorem cells_new (w : World) (l : List Value) (t : TypeId) : ∀ j u, l[j]? = some u → (w.alloc (.cells l.toArray t)).cell? ((⟨w.heap.size, 0, none⟩ : Addr).add j) = some u := fun j u h => by
  rw [Addr.add_lit, Nat.zero_add, World.cell?_alloc_new]; simpa using h
/-- a node put behind a row that may grow, out of a literal in block g0 -/
theorem wpList_push_node {ops : Array Oper} {rest : List Oper} {o : Oper} {a : Act} {Q : Exit → Act → World → Prop} {w0 w : World} (hgd : o.guard = none) (s x : Operand)
    (ho : o.op = .call { callee := .builtin .append, args := #[s, x], argTypes := #[29, 29] })
    (base g0 : Nat) (v : Value) (F : Fo) (bl : List Nat) (hv : a.eval s = v) (hG : GRow w0 base v F bl) (hB : Below w0.heap.size w0 w) (hbase : base ≤ w0.heap.size) (hF : F.len ≤ 1048576) (hx : a.eval x = .slice (some ⟨g0, 0, none⟩) 1 1)
    (k sp : Int) (n t : ByteArray) (al : List (ByteArray × ByteArray)) (kids : Fo) (A K : Option Addr) (ca ck : Nat) (ba bk : List Nat)
    (hc : ∀ j u, ([.int .i64 k, .int .i64 sp, .string n, .string t, .slice A al.length ca, .slice K kids.len ck] : List Value)[j]? = some u → w.cell? ((⟨g0, 0, none⟩ : Addr).add j) = some u)
    (hz : n.size ≤ maxLen ∧ t.size ≤ maxLen) (h4 : al.length ≤ ca ∧ al.length ≤ maxLen ∧ AlRow w A al ba) (h5 : kids.len ≤ ck ∧ kids.len ≤ maxLen ∧ KRow w K kids bk)
    (hn : (ba ++ bk).Nodup) (hb : ∀ q ∈ ba ++ bk, w0.heap.size ≤ q ∧ q < w.heap.size)
    (h : ∀ v' w' bl', GRow w' base v' (F.app (.one k sp n t al kids)) bl' → Below base w w' → wpList Tryz.prog ops Q rest (a.put o.dst v') w') : wpList Tryz.prog ops Q (o :: rest) a w := by
  obtain ⟨i0, hi0, hz0, hz1, hz2⟩ := info_of infoNode
  obtain ⟨xs, ho', hvv, hnd, hbl, hg⟩ := hG.next hB
  have hlt : ∀ q, v.ownBlock = some q → q < w0.heap.size := by
    obtain ⟨_, ho0, _⟩ := hG
    exact fun q hq => (World.ownsRow.lt ho0 q hq).2
  have hbl0 : ∀ q ∈ bl, q < w0.heap.size := by
    obtain ⟨_, _, _, _, h, _⟩ := hG
    exact fun q hq => (h q hq).2
  have hbw : base ≤ w.heap.size := Nat.le_trans hbase hB.size
  refine wpList_append_own_at w hgd s x 29 ho base 71 i0 _ 6 96 Tryz.underlying29 hi0 hz0 hz1 hz2 rfl (by omega) v F.len xs hv ho' ⟨g0, 0, none⟩ 1 1 _ hx rfl hc (by intro u hu; simp only [List.mem_cons, List.not_mem_nil, or_false] at hu; rcases hu with rfl | rfl | rfl | rfl | rfl | rfl <;> rfl) (by unfold maxLen; omega) (by omega) hbw ?_
  intro v' w' hown hgrow _ hat
  refine h v' w' (bl ++ (ba ++ bk)) (grow_push hvv (fun q hq => ?_) ?_ (fun q hq hm => ?_) hz h4 h5 hown (fun q h1 h2 => hgrow.block q h1 (fun e => h2 e.symm)) hgrow.size ?_) ((Below.refl base w).grown hgrow hbw fun q hq => (World.ownsRow.lt ho' q hq).1)
  · rcases List.mem_append.1 hq with hq | hq
    · exact hbl q hq
    · exact ⟨Nat.le_trans hbase (hb q hq).1, (hb q hq).2⟩
  · refine List.nodup_append.2 ⟨hnd, hn, fun p hp q hq e => ?_⟩
    subst e
    have := hbl0 p hp
    have := (hb p hq).1
    omega
  · rcases List.mem_append.1 hm with hm | hm
    · exact hg q hq hm
    · have := hlt q hq
      have := (hb q hm).1
      omega
  · rcases hat with h | h
    · exact Or.inl h
    · exact Or.inr ⟨_, h, Nat.le_refl _⟩
end Go.Proofs.YthdkkpbhijlpaaaGreat
namespace Go.Proofs.YthdkkpbhijlpaaaGreat
open Go.ChangeShapes Go.WideShapes Go.ChangeAt Go.RowKit Go.Deep

theorem foVals_one {w : World} : ∀ {F : Fo} {xs : List Value} {bl : List Nat}, FoVals w xs F bl → ∀ u ∈ xs, u.oneCell' = true
  | .nil, _, _, h, u, hu => by rw [h.1] at hu; cases hu
  | .cons k sp n t al kids rest, xs, bl, ⟨A, K, ca, ck, ba, bk, br, xr, hx, _, _, _, _, hr⟩, u, hu => by
    subst hx
    simp only [List.mem_cons] at hu
    rcases hu with rfl | rfl | rfl | rfl | rfl | rfl | hu
    · rfl
    · rfl
    · rfl
    · rfl
    · rfl
    · rfl
    · exact foVals_one hr u hu
/-- behind the append of a whole row -/
theorem grow_app {w w1 : World} {base bx : Nat} {v v' : Value} {F G : Fo} {bl bg : List Nat} {xs ys : List Value}
    (hv : FoVals w xs F bl) (hvg : FoVals w ys G bg) (hb : ∀ k ∈ bl ++ bg, base ≤ k ∧ k < w.heap.size) (hn : (bl ++ bg).Nodup) (hg : ∀ k, v.ownBlock = some k → k ∉ bl ++ bg)
    (hown : w1.ownsRow base 71 6 v' (F.len + G.len) (xs ++ ys))
    (hkeep : ∀ k, k < w.heap.size → v.ownBlock ≠ some k → w1.heap[k]? = w.heap[k]?) (hsz : w.heap.size ≤ w1.heap.size) (hat : v'.ownBlock = v.ownBlock ∨ ∃ q, v'.ownBlock = some q ∧ w.heap.size ≤ q) :
    GRow w1 base v' (F.app G) (bl ++ bg) := by
  have hk : ∀ q ∈ bl ++ bg, w1.heap[q]? = w.heap[q]? := fun q hq => hkeep q (hb q hq).2 fun e => hg q e hq
  refine ⟨_, by rw [Fo.len_app]; exact hown, (hv.app hvg).same hk, hn, fun q hq => ⟨(hb q hq).1, Nat.lt_of_lt_of_le (hb q hq).2 hsz⟩, fun q hq hm => ?_⟩
  rcases hat with e | ⟨r, e, hr⟩
  · exact hg q (by rw [← e]; exact hq) hm
  · rw [e] at hq
    injection hq with hq
    have := (hb q hm).2
    omega
/-- a whole row of nodes put behind another one -/
theorem wpList_push_row {ops : Array Oper} {rest : List Oper} {o : Oper} {a : Act} {Q : Exit → Act → World → Prop} {w : World} (hgd : o.guard = none) (s x : Operand)
    (ho : o.op = .call { callee := .builtin .append, args := #[s, x], argTypes := #[29, 29] })
    (base bx : Nat) (v vx : Value) (F G : Fo) (bl bg : List Nat) (hv : a.eval s = v) (hx : a.eval x = vx) (hF : GRow w base v F bl) (hG : GRow w bx vx G bg) (hd : ∀ q, (v.ownBlock = some q ∨ q ∈ bl) → q < bx)
    (hbase : base ≤ w.heap.size) (hbx : base ≤ bx) (hl : F.len ≤ 1048576) (hl2 : G.len ≤ 1048576)
    (h : ∀ v' w' bl', GRow w' base v' (F.app G) bl' → Below base w w' → wpList Tryz.prog ops Q rest (a.put o.dst v') w') : wpList Tryz.prog ops Q (o :: rest) a w := by
  obtain ⟨i0, hi0, hz0, hz1, hz2⟩ := info_of infoNode
  have hF0 := hF
  obtain ⟨xs, ho', hvv, hnd, hbl, hg⟩ := hF
  obtain ⟨ys, hoy, hvy, hndy, hbly, hgy⟩ := hG
  have hcy := fun g hg => World.ownsRow.cells hoy (g := g) hg
  obtain ⟨hly, hoy'⟩ := hoy
  rcases hoy' with ⟨rfl, h0⟩ | ⟨gx, cap, cur, rfl, hbs, hblk, hle, _, _, _⟩
  · have hGn : G = .nil := by
      cases G with
      | nil => rfl
      | cons _ _ _ _ _ _ _ => simp [Fo.len] at h0
    subst hGn
    refine wpList_plain hgd fun K hK => ?_
    have hr : (Builtin.append_ #[29, 29] o.type #[v, .slice none 0 0]).run Tryz.prog w = .ok v w := by
      rcases ho'.2 with ⟨rfl, _⟩ | ⟨g, cap, cur, rfl, _, _, hnc, _⟩
      · simp [Builtin.append_, run_underlying Tryz.underlying29, sizeOf, typeInfo, hi0, Builtin.lenOf, Builtin.firstCells]
      · simp [Builtin.append_, run_underlying Tryz.underlying29, sizeOf, typeInfo, hi0, Builtin.lenOf, Builtin.firstCells, storeCells, Nat.not_lt.2 hnc]
    unfold Oper.wp execOp
    simp only [ho, resolve, invoke, builtin, Sem.run_bind, Sem.run_pure, Result.andThen_ok, List.map_toArray, List.map_cons, List.map_nil, hv, hx, hr]
    exact hK _ _ (h v w bl (by rw [Fo.app_nil]; exact hF0) (Below.refl _ _))
  · refine wpList_append_own_at w hgd s x 29 ho base 71 i0 _ 6 96 Tryz.underlying29 hi0 hz0 hz1 hz2 rfl (by omega) v F.len xs hv ho' ⟨gx, 0, none⟩ G.len cap ys hx hvy.len (hcy gx rfl) (foVals_one hvy) (by unfold maxLen; omega) (by omega) hbase ?_
    intro v' w' hown hgrow _ hat
    have hgm : bx ≤ gx := hbs
    refine h v' w' (bl ++ bg) (grow_app (bx := bx) hvv hvy (fun q hq => ?_) ?_ (fun q hq hm => ?_) hown (fun q h1 h2 => hgrow.block q h1 (fun e => h2 e.symm)) hgrow.size ?_) ((Below.refl base w).grown hgrow hbase fun q hq => (World.ownsRow.lt ho' q hq).1)
    · rcases List.mem_append.1 hq with hq | hq
      · exact hbl q hq
      · exact ⟨Nat.le_trans hbx (hbly q hq).1, (hbly q hq).2⟩
    · refine List.nodup_append.2 ⟨hnd, hndy, fun p hp q hq e => ?_⟩
      subst e
      have := hd p (Or.inr hp)
      have := (hbly p hq).1
      omega
    · rcases List.mem_append.1 hm with hm | hm
      · exact hg q hq hm
      · have := hd q (Or.inl hq)
        have := (hbly q hm).1
        omega
    · rcases hat with h | h
      · exact Or.inl h
      · exact Or.inr ⟨_, h, Nat.le_refl _⟩
end Go.Proofs.YthdkkpbhijlpaaaGreat
namespace Go.Proofs.YthdkkpbhijlpaaaGreat
open Go.ChangeShapes Go.WideShapes Go.ChangeAt Go.RowKit Go.Deep

/-- what is known of the first spot that p tells -/
def stF (p : Nd → Fo → Bool) (s : Option (List NP)) (ch : List NP) : Option (List NP) × Bool :=
  match ch with
  | [] => (s, s.isNone)
  | x :: r => if p x.1 x.2.2 = true then (some (x :: r), false) else (s, s.isNone)
/-- the first node that p tells, with those that it lies within -/
def firstF (p : Nd → Fo → Bool) : Fo → List NP → Nat → Option (List NP)
  | .nil, _, _ => none
  | .cons k sp n t al kids rest, ch, j =>
    if p ⟨k, sp, n, t, al⟩ kids = true then some ((⟨k, sp, n, t, al⟩, j, kids) :: ch)
    else match firstF p kids ((⟨k, sp, n, t, al⟩, j, kids) :: ch) 0 with
      | some c => some c
      | none => firstF p rest ch (j + 1)
theorem trav2_first (p : Nd → Fo → Bool) : ∀ (F : Fo) (ch : List NP) (j : Nat), trav2 (stF p) F ch j none = (firstF p F ch j, (firstF p F ch j).isNone)
  | .nil, _, _ => rfl
  | .cons k sp n t al kids rest, ch, j => by
    rw [trav2, firstF]
    by_cases hp : p ⟨k, sp, n, t, al⟩ kids = true
    · simp [stF, hp]
    · have e : stF p none ((⟨k, sp, n, t, al⟩, j, kids) :: ch) = (none, true) := by simp [stF, hp]
      rw [e, trav2_first p kids]
      simp only [hp, if_true]
      cases firstF p kids ((⟨k, sp, n, t, al⟩, j, kids) :: ch) 0 with
      | some c => simp
      | none => simp [trav2_first p rest]
def isNew (s : Option (List NP)) (_ : List NP) : Prop := s = none
theorem travP2_first (p : Nd → Fo → Bool) : ∀ (F : Fo) (ch : List NP) (j : Nat), travP2 isNew (stF p) F ch j none
  | .nil, _, _ => trivial
  | .cons k sp n t al kids rest, ch, j => by
    refine ⟨rfl, fun h => ?_⟩
    have e : stF p none ((⟨k, sp, n, t, al⟩, j, kids) :: ch) = (none, true) := by
      by_cases hp : p ⟨k, sp, n, t, al⟩ kids = true
      · simp [stF, hp] at h
      · simp [stF, hp]
    rw [e]
    refine ⟨travP2_first p kids _ _, fun h2 => ?_⟩
    rw [trav2_first] at h2 ⊢
    have : firstF p kids ((⟨k, sp, n, t, al⟩, j, kids) :: ch) 0 = none := by simpa using h2
    rw [this]
    exact travP2_first p rest _ _
/-- the chain begins with the node, and is as long as the depth allows -/
theorem firstF_len (p : Nd → Fo → Bool) : ∀ (F : Fo) (ch : List NP) (j : Nat) (c : List NP), firstF p F ch j = some c → c ≠ [] ∧ c.length ≤ ch.length + F.deep
  | .nil, _, _, _, h => by cases h
  | .cons k sp n t al kids rest, ch, j, c, h => by
    rw [firstF] at h
    split at h
    · injection h with h; subst h; exact ⟨by simp, by simp [Fo.deep]; omega⟩
    · split at h
      · rename_i c2 h2
        injection h with h
        subst h
        obtain ⟨a, b⟩ := firstF_len p kids _ _ _ h2
        exact ⟨a, by simp [Fo.deep] at b ⊢; omega⟩
      · obtain ⟨a, b⟩ := firstF_len p rest _ _ _ h
        exact ⟨a, by simp [Fo.deep]; omega⟩
/-- function g tells nodes as p -/
def NdFn (P : Program) (g : Nat) (cap : Array Value) (p : Nd → Fo → Bool) (lo hi : Nat) : Prop :=
  ∀ (x : Nd) (kids : Fo) (b o : Nat) (W : World), NdAt W lo hi b o x → KidsAt W lo hi b o kids → b < hi → hi ≤ W.heap.size → Calls P g (#[.pointer (some ⟨b, o, none⟩)] ++ cap) W fun e w' => e = .returned (.bool (p x kids)) ∧ Below W.heap.size W w'
/-- q leads to the first spot, if there is one -/
def FirstIs (w : World) (C : Nat → Prop) (lo hi : Nat) (q : Option Addr) : Option (List NP) → Prop
  | none => q = none
  | some ch => ch ≠ [] ∧ SpotP w C lo hi q ch
/-- the box of the first, and the box of what is asked -/
def FirstAt (fb ib lo hi g : Nat) (cap : Array Value) (s : Option (List NP)) (C : Nat → Prop) (w : World) : Prop :=
  (∀ k, C k ↔ k = fb) ∧ hi ≤ fb ∧ fb < w.heap.size ∧ w.frozen? ⟨fb, 0, none⟩ = false ∧ BoxAt w C hi ib g cap ∧ ∃ q, w.cell? ⟨fb, 0, none⟩ = some (.pointer q) ∧ FirstIs w C lo hi q s
theorem FirstAt.keep {fb ib lo hi g : Nat} {cap : Array Value} {s : Option (List NP)} {C : Nat → Prop} {w w' : World} (h : FirstAt fb ib lo hi g cap s C w) (hB : But No w w') (hh : hi ≤ w.heap.size) : FirstAt fb ib lo hi g cap s C w' := by
  obtain ⟨h1, h2, h3, h4, h5, q, h6, h7⟩ := h
  have hB' : But C w w' := hB.none
  have hC : ∀ k, C k → hi ≤ k := fun k hk => by rw [(h1 k).1 hk]; exact h2
  refine ⟨h1, h2, Nat.lt_of_lt_of_le h3 hB.size, (hB.frozen (p := ⟨fb, 0, none⟩) h3 id).trans h4, h5.but hB' (fun _ h => Or.inl h), q, (hB.cell (p := ⟨fb, 0, none⟩) h3 id).trans h6, ?_⟩
  cases s with
  | none => exact h7
  | some ch => exact ⟨h7.1, h7.2.but hB' hh hC (fun _ h => Or.inl h)⟩
end Go.Proofs.YthdkkpbhijlpaaaGreat
namespace Go.Proofs.YthdkkpbhijlpaaaGreat
open Go.ChangeShapes Go.WideShapes Go.ChangeAt Go.RowKit Go.Deep

theorem FirstAt.hh {fb ib lo hi g : Nat} {cap : Array Value} {s : Option (List NP)} {C : Nat → Prop} {w : World} (h : FirstAt fb ib lo hi g cap s C w) : hi ≤ w.heap.size := Nat.le_trans h.2.1 (Nat.le_of_lt h.2.2.1)
theorem first1_any (g : Nat) (cap : Array Value) (p : Nd → Fo → Bool) (fb ib lo hi : Nat) (eg : ∀ args w, (callFunc g args).run Tryz.prog w = .ok (.enter g args) w) (hf : NdFn Tryz.prog g cap p lo hi) (C : Nat → Prop) (w : World) (q : Option Addr) (x : NP) (r : List NP) (hI : FirstAt fb ib lo hi g cap none C w) (hS : SpotP w C lo hi q (x :: r)) :
    Calls Tryz.prog 99 #[.pointer q, .pointer (some ⟨ib, 0, none⟩), .pointer (some ⟨fb, 0, none⟩)] w (Seen2 (stF p) (FirstAt fb ib lo hi g cap) none C (x :: r) w) := by
  have hh := hI.hh
  have HS := Lib.hid hS
  obtain ⟨gb, b, o, q', rfl, _, hg, hg2, h5, _, h7, h8, _, hkd, _⟩ := hS
  obtain ⟨c1, c2, c3, c4, c5, q0, c6, c7⟩ := id hI
  have c7 : q0 = none := c7
  subst c7
  have hcell := c5.2.2.2
  have hib := c5.2.1
  have hc := hf x.1 x.2.2 b o
  have HI := Lib.hid hI
  have HN := Lib.hid h8
  have HKD := Lib.hid hkd
  have HH := Lib.hid hh
  have hne : C fb := (c1 fb).2 rfl
  clear hI h8 hkd c5
  cases hq : p x.1 x.2.2 with
  | true =>
    have HQ := Lib.hid hq
    have e1 : stF p none (x :: r) = (some (x :: r), false) := by simp [stF, hq]
    have HE := Lib.hid e1
    clear hq e1
    go_enter Tryz.func99, Tryz.ntmps99
    go_wp2
    refine wp_region_held_drew (S := fun w' => w'.cell? ⟨ib, 0, none⟩ = some (.func (.func g) #[] cap) ∧ w'.cell? ⟨gb, 0, none⟩ = some (.pointer (some ⟨b, o, none⟩))) (by kernel_rfl) ⟨hcell, h5⟩ (fun hHeld => ?_)
    refine wpAnyH_take (i := 0) (v := .func (.func g) #[] cap) rfl (by kernel_rfl) (by kernel_rfl) (by kernel_rfl) (fun _ _ _ h => h) (Or.inl ⟨by rfl, fun w hSw => by (try dsimp only at hSw); go_simp⟩) (by assumption) ?_; (try simp only [Act.put, List.setIfInBounds_toArray, List.set_cons_zero, List.set_cons_succ, List.getElem_toArray, List.getElem_cons_zero])
    refine wpAnyH_take (i := 1) (v := .pointer (some ⟨gb, 0, none⟩)) rfl (by kernel_rfl) (by kernel_rfl) (by kernel_rfl) (fun _ _ _ h => h) (Or.inl ⟨by rfl, fun w hSw => by (try dsimp only at hSw); go_simp⟩) (by assumption) ?_; (try simp only [Act.put, List.setIfInBounds_toArray, List.set_cons_zero, List.set_cons_succ, List.getElem_toArray, List.getElem_cons_zero, List.getElem_cons_succ])
    refine wpAnyH_take (i := 2) (v := .pointer (some ⟨gb, 0, none⟩)) rfl (by kernel_rfl) (by kernel_rfl) (by kernel_rfl) (fun _ _ _ h => h) (Or.inl ⟨by rfl, fun w hSw => by (try dsimp only at hSw); go_simp⟩) (by assumption) ?_; (try simp only [Act.put, List.setIfInBounds_toArray, List.set_cons_zero, List.set_cons_succ, List.getElem_toArray, List.getElem_cons_zero, List.getElem_cons_succ])
    refine wpAnyH_take (i := 3) (v := .pointer (some ⟨gb, 0, none⟩)) rfl (by kernel_rfl) (by kernel_rfl) (by kernel_rfl) (fun _ _ _ h => h) (Or.inl ⟨by rfl, fun w hSw => by (try dsimp only at hSw); go_simp⟩) (by assumption) ?_; (try simp only [Act.put, List.setIfInBounds_toArray, List.set_cons_zero, List.set_cons_succ, List.getElem_toArray, List.getElem_cons_zero, List.getElem_cons_succ])
    refine wpAnyH_take (i := 4) (v := .pointer (some ⟨b, o, none⟩)) rfl (by kernel_rfl) (by kernel_rfl) (by kernel_rfl) (fun _ _ _ h => h) (Or.inl ⟨by rfl, fun w hSw => by (try dsimp only at hSw); go_simp⟩) (by assumption) ?_; (try simp only [Act.put, List.setIfInBounds_toArray, List.set_cons_zero, List.set_cons_succ, List.getElem_toArray, List.getElem_cons_zero, List.getElem_cons_succ])
    refine wpAnyH_ready (rs := [5]) (by kernel_rfl) (by simp) ?_; refine AllReadyH.cons rfl (fun K hK => ?_) AllReadyH.nil; go_simp; ((go_at_fn g; refine (hc w.drew (HN.out.but h7 ((But.refl No w).drew) HH.out (fun _ h => h.elim)) (HKD.out.but h7 ((But.refl No w).drew) HH.out (fun _ h => h.elim)) h7 HH.out).mono ?_; rintro e w1 ⟨rfl, hB'⟩; rw [HQ.out]; have hB := (Below.refl w.heap.size w).drew.trans hB'; have f6 := (hB.cell (p := ⟨fb, 0, none⟩) c3).trans c6; have f4 := (hB.frozen (p := ⟨fb, 0, none⟩) c3).trans c4; have f7 := (hB.cell (p := ⟨ib, 0, none⟩) hib).trans hcell; have f8 := (hB.cell (p := ⟨gb, 0, none⟩) hg).trans h5; have HB := Lib.hid hB; clear hB hB')); (try go_wp2_with fail); refine hK.out _ _ ⟨f7, f8⟩ (fun hHeld => ?_); clear hK K; (try simp only [Act.put, List.setIfInBounds_toArray, List.set_cons_zero, List.set_cons_succ, List.getElem_toArray, List.getElem_cons_zero, List.getElem_cons_succ])
    refine wpAnyH_done (by kernel_rfl) ?_ _
    go_wp2
    go_ret
    have b1 : But C w (w1.setCell ⟨fb, 0, none⟩ (.pointer (some ⟨gb, 0, none⟩))) := (But.of_below HB.out).setCell (p := ⟨fb, 0, none⟩) (Or.inl hne) _
    refine ⟨C, by rw [HE.out]; try rfl, ?_, b1, fun _ h => Or.inl h⟩
    rw [HE.out]
    have hC : ∀ k, C k → hi ≤ k := fun k hk => by rw [(c1 k).1 hk]; exact c2
    refine ⟨c1, c2, by have := HB.out.size; simp; omega, by rw [World.frozen?_setCell]; exact f4, HI.out.2.2.2.2.1.but b1 (fun _ h => Or.inl h), _, World.cell?_setCell_same _ _ _ f6, by simp, HS.out.but b1 HH.out hC (fun _ h => Or.inl h)⟩
  | false =>
    have HQ := Lib.hid hq
    have e1 : stF p none (x :: r) = (none, true) := by simp [stF, hq]
    have HE := Lib.hid e1
    clear hq e1
    go_enter Tryz.func99, Tryz.ntmps99
    go_wp2
    refine wp_region_held_drew (S := fun w' => w'.cell? ⟨ib, 0, none⟩ = some (.func (.func g) #[] cap) ∧ w'.cell? ⟨gb, 0, none⟩ = some (.pointer (some ⟨b, o, none⟩))) (by kernel_rfl) ⟨hcell, h5⟩ (fun hHeld => ?_)
    refine wpAnyH_take (i := 0) (v := .func (.func g) #[] cap) rfl (by kernel_rfl) (by kernel_rfl) (by kernel_rfl) (fun _ _ _ h => h) (Or.inl ⟨by rfl, fun w hSw => by (try dsimp only at hSw); go_simp⟩) (by assumption) ?_; (try simp only [Act.put, List.setIfInBounds_toArray, List.set_cons_zero, List.set_cons_succ, List.getElem_toArray, List.getElem_cons_zero])
    refine wpAnyH_take (i := 1) (v := .pointer (some ⟨gb, 0, none⟩)) rfl (by kernel_rfl) (by kernel_rfl) (by kernel_rfl) (fun _ _ _ h => h) (Or.inl ⟨by rfl, fun w hSw => by (try dsimp only at hSw); go_simp⟩) (by assumption) ?_; (try simp only [Act.put, List.setIfInBounds_toArray, List.set_cons_zero, List.set_cons_succ, List.getElem_toArray, List.getElem_cons_zero, List.getElem_cons_succ])
    refine wpAnyH_take (i := 2) (v := .pointer (some ⟨gb, 0, none⟩)) rfl (by kernel_rfl) (by kernel_rfl) (by kernel_rfl) (fun _ _ _ h => h) (Or.inl ⟨by rfl, fun w hSw => by (try dsimp only at hSw); go_simp⟩) (by assumption) ?_; (try simp only [Act.put, List.setIfInBounds_toArray, List.set_cons_zero, List.set_cons_succ, List.getElem_toArray, List.getElem_cons_zero, List.getElem_cons_succ])
    refine wpAnyH_take (i := 3) (v := .pointer (some ⟨gb, 0, none⟩)) rfl (by kernel_rfl) (by kernel_rfl) (by kernel_rfl) (fun _ _ _ h => h) (Or.inl ⟨by rfl, fun w hSw => by (try dsimp only at hSw); go_simp⟩) (by assumption) ?_; (try simp only [Act.put, List.setIfInBounds_toArray, List.set_cons_zero, List.set_cons_succ, List.getElem_toArray, List.getElem_cons_zero, List.getElem_cons_succ])
    refine wpAnyH_take (i := 4) (v := .pointer (some ⟨b, o, none⟩)) rfl (by kernel_rfl) (by kernel_rfl) (by kernel_rfl) (fun _ _ _ h => h) (Or.inl ⟨by rfl, fun w hSw => by (try dsimp only at hSw); go_simp⟩) (by assumption) ?_; (try simp only [Act.put, List.setIfInBounds_toArray, List.set_cons_zero, List.set_cons_succ, List.getElem_toArray, List.getElem_cons_zero, List.getElem_cons_succ])
    refine wpAnyH_ready (rs := [5]) (by kernel_rfl) (by simp) ?_; refine AllReadyH.cons rfl (fun K hK => ?_) AllReadyH.nil; go_simp; ((go_at_fn g; refine (hc w.drew (HN.out.but h7 ((But.refl No w).drew) HH.out (fun _ h => h.elim)) (HKD.out.but h7 ((But.refl No w).drew) HH.out (fun _ h => h.elim)) h7 HH.out).mono ?_; rintro e w1 ⟨rfl, hB'⟩; rw [HQ.out]; have hB := (Below.refl w.heap.size w).drew.trans hB'; have f6 := (hB.cell (p := ⟨fb, 0, none⟩) c3).trans c6; have f4 := (hB.frozen (p := ⟨fb, 0, none⟩) c3).trans c4; have f7 := (hB.cell (p := ⟨ib, 0, none⟩) hib).trans hcell; have f8 := (hB.cell (p := ⟨gb, 0, none⟩) hg).trans h5; have HB := Lib.hid hB; clear hB hB')); (try go_wp2_with fail); refine hK.out _ _ ⟨f7, f8⟩ (fun hHeld => ?_); clear hK K; (try simp only [Act.put, List.setIfInBounds_toArray, List.set_cons_zero, List.set_cons_succ, List.getElem_toArray, List.getElem_cons_zero, List.getElem_cons_succ])
    refine wpAnyH_done (by kernel_rfl) ?_ _
    go_wp2
    go_ret
    refine ⟨C, by rw [HE.out]; try rfl, ?_, But.of_below HB.out, fun _ h => Or.inl h⟩
    rw [HE.out]
    exact HI.out.keep (But.of_below HB.out) HH.out
theorem visFirst (g : Nat) (cap : Array Value) (p : Nd → Fo → Bool) (fb ib lo hi : Nat) (eg : ∀ args w, (callFunc g args).run Tryz.prog w = .ok (.enter g args) w) (hf : NdFn Tryz.prog g cap p lo hi) : Vis2 Tryz.prog 99 #[.pointer (some ⟨ib, 0, none⟩), .pointer (some ⟨fb, 0, none⟩)] lo hi isNew (stF p) (FirstAt fb ib lo hi g cap) where
  own := fun _ _ _ h k hk => by rw [(h.1 k).1 hk]; exact ⟨h.2.1, h.2.2.1⟩
  keep := fun _ _ _ _ h hB => h.keep hB.but h.hh
  call := fun s C w q ch hne hl ho hI hS hh => by
    cases ch with
    | nil => exact absurd rfl hne
    | cons x r => cases ho; exact first1_any g cap p fb ib lo hi eg hf C w q x r hI hS
theorem first_new (w : World) (lo hi g : Nat) (cap : Array Value) (hh : hi ≤ w.heap.size) (t1 t2 : TypeId) : FirstAt (w.heap.size + 1) w.heap.size lo hi g cap none (fun k => k = w.heap.size + 1) ((w.alloc (.cells #[.func (.func g) #[] cap] t1)).alloc (.cells #[.pointer none] t2)) := by
  refine ⟨fun _ => Iff.rfl, by omega, by simp, by simp, ⟨hh, by simp; omega, fun h => by omega, ?_⟩, none, ?_, rfl⟩
  · have : (w.alloc (.cells #[.func (.func g) #[] cap] t1)).heap.size = w.heap.size + 1 := by simp
    rw [World.cell?_alloc_lt _ _ _ (by show w.heap.size < _; rw [this]; omega)]
    exact new_cell rfl
  · have : (w.alloc (.cells #[.func (.func g) #[] cap] t1)).heap.size = w.heap.size + 1 := by simp
    have h := new_cell (w := w.alloc (.cells #[.func (.func g) #[] cap] t1)) (cs := #[.pointer none]) (t := t2) (j := 0) rfl
    rwa [this] at h
/-- the first spot that p tells, or none -/
theorem firstSpot_any (g : Nat) (cap : Array Value) (p : Nd → Fo → Bool) (lo hi : Nat) (eg : ∀ args w, (callFunc g args).run Tryz.prog w = .ok (.enter g args) w) (hf : NdFn Tryz.prog g cap p lo hi) (F : Fo)
    (w : World) (A : Option Addr) (c b o : Nat) (hd : F.nodes ≤ 1048576) (hh : hi ≤ w.heap.size) (hA : RowAt lo hi A F.len b o) (hF : FoAt w lo hi b o F) :
    Calls Tryz.prog 52 #[.slice A F.len c, .func (.func g) #[] cap] w fun e w' => ∃ (q : Option Addr) (D : Nat → Prop), e = .returned (.pointer q) ∧ Below w.heap.size w w' ∧ FirstIs w' D lo hi q (firstF p F [] 0) := by
  have hmf : ∀ (fn : Fn) (first cap : Array Value) (w : World), (Instr.makeFunc fn first cap).run Tryz.prog w = .ok (.func fn first cap) w := fun _ _ _ _ => rfl
  have HA := Lib.hid hA
  have HF := Lib.hid hF
  have HG := Lib.hid hf
  clear hA hF hf
  go_enter Tryz.func52, Tryz.ntmps52
  go_wp2_with fail
  refine (walk2_any 99 #[.pointer (some ⟨w.heap.size, 0, none⟩), .pointer (some ⟨w.heap.size + 1, 0, none⟩)] lo hi isNew (stF p) (FirstAt (w.heap.size + 1) w.heap.size lo hi g cap) (visFirst g cap p (w.heap.size + 1) w.heap.size lo hi eg HG.out) (enters_of Tryz.func99 (by kernel_rfl) rfl) F none (fun k => k = w.heap.size + 1) _ A c b o hd (travP2_first p F [] 0) ?_ ?_ HA.out ?_).mono ?_
  · exact first_new w lo hi g cap hh _ _
  · simp; omega
  · exact HF.out.but HA.out (((But.refl No w).alloc _).alloc _) hh (fun _ h => h.elim)
  · rintro e w2 ⟨D, rfl, i1, b1, d1⟩
    rw [trav2_first] at i1
    obtain ⟨_, _, _, _, _, q, h6, h7⟩ := i1
    have B2 := Lib.hid ((((Below.refl w.heap.size w).alloc (Nat.le_refl _) _).alloc (by simp) _).trans (b1.below (B := w.heap.size) (fun k hk => by rw [hk]; exact Nat.le_succ _) (by simp; omega)))
    have H7 := Lib.hid h7
    clear b1 d1 h7
    go_wp2
    go_ret
    exact ⟨q, D, rfl, B2.out, H7.out⟩
end Go.Proofs.YthdkkpbhijlpaaaGreat
