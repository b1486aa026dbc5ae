import Derived.Test.YtgkkmoliobhpiaaMrg
namespace Go.Proofs.Ytgkkmoliobhpiaa
open Go.ChangeShapes Go.WideShapes Go.ChangeAt Go.RowKit Go.Deep

theorem asAt_vals {w : World} {b : Nat} : ∀ {al : List (ByteArray × ByteArray)} {o : Nat}, AsAt w b o al → ∀ j u, (alVals al)[j]? = some u → w.cell? ⟨b, o + j, none⟩ = some u
  | [], _, _, j, u, h => by simp [alVals] at h
  | x :: r, o, ⟨h1, h2, _, _, h5⟩, j, u, h => by
    match j, h with
    | 0, h => simp only [alVals, List.getElem?_cons_zero, Option.some.injEq] at h; subst h; exact h1
    | 1, h => simp only [alVals, List.getElem?_cons_succ, List.getElem?_cons_zero, Option.some.injEq] at h; subst h; exact h2
    | j + 2, h =>
      simp only [alVals, List.getElem?_cons_succ] at h
      have := asAt_vals h5 j u h
      rw [show o + (j + 2) = o + 2 + j by omega]; exact this
theorem asAt_sizes {w : World} {b : Nat} : ∀ {al : List (ByteArray × ByteArray)} {o : Nat}, AsAt w b o al → ∀ x ∈ al, x.1.size ≤ maxLen ∧ x.2.size ≤ maxLen
  | [], _, _, x, hx => by simp at hx
  | y :: r, o, ⟨_, _, h3, h4, h5⟩, x, hx => by
    rcases List.mem_cons.1 hx with rfl | hx
    · exact ⟨h3, h4⟩
    · exact asAt_sizes h5 x hx
theorem alVals_one : ∀ (al : List (ByteArray × ByteArray)), ∀ u ∈ alVals al, u.oneCell' = true
  | [], u, h => by simp [alVals] at h
  | x :: r, u, h => by
    simp only [alVals, List.mem_cons] at h
    rcases h with rfl | rfl | h
    · rfl
    · rfl
    · exact alVals_one r u h

section
variable {P : Program}
/-- attributes put behind an empty row of the call's own -/
theorem run_append_al (w : World) (base : Nat) (t ty e : TypeId) (i : TypeInfo) (z : Value) (ht : P.underlying t = some (.slice e)) (hi : P.info? e = some i) (hz : i.zero = some z) (hs : i.size = 2) (hb : i.bytes = 32) (hzs : z.cells.size = 2)
    (v : Value) (hown : w.ownsRow base e 2 v 0 []) (al : List (ByteArray × ByteArray)) (A : Option Addr) (c b o lo hi' : Nat) (hA : RowAt lo hi' A al.length b o) (hal : AsAt w b o al) (hl : al.length ≤ 1048576) (hbase : base ≤ w.heap.size) :
    ∃ v' w', (Builtin.append_ #[t, t] ty #[v, .slice A al.length c]).run P w = .ok v' w' ∧ w'.ownsRow base e 2 v' al.length (alVals al) ∧ w.grownBy w' v.ownBlock := by
  cases A with
  | none =>
    have h0 : al = [] := by
      cases al with
      | nil => rfl
      | cons x r => have := (hA.2 (by simp)).1; cases this
    subst h0
    refine ⟨v, w, ?_, hown, World.grownBy.refl w _⟩
    rcases hown.2 with ⟨rfl, _⟩ | ⟨g, cap, cur, rfl, _, _, hnc, _⟩
    · simp [Builtin.append_, run_underlying ht, sizeOf, typeInfo, hi, Builtin.lenOf, Builtin.firstCells]
    · simp [Builtin.append_, run_underlying ht, sizeOf, typeInfo, hi, Builtin.lenOf, Builtin.firstCells, storeCells]
  | some ad =>
    have hcells : ∀ j u, (alVals al)[j]? = some u → w.cell? (ad.add j) = some u := by
      intro j u hu
      cases al with
      | nil => simp [alVals] at hu
      | cons x r =>
        obtain ⟨h1, _⟩ := hA.2 (by simp)
        injection h1 with h1
        subst h1
        rw [Addr.add_lit]
        exact asAt_vals hal j u hu
    obtain ⟨v', w', hrun, h2, h3, _, _⟩ := run_append_own_at (P := P) w base t ty e i z 2 32 ht hi hz hs hb hzs (by omega) v 0 [] hown ad al.length c (alVals al) (alVals_len al) hcells (alVals_one al) (by unfold maxLen; omega) (by omega) hbase
    rw [Nat.zero_add] at h2
    exact ⟨v', w', hrun, h2, h3⟩
theorem wpList_append_al {ops : Array Oper} {rest : List Oper} {o : Oper} {a : Act} {Q : Exit → Act → World → Prop} {w : World} (hgd : o.guard = none) (s x : Operand) (t : TypeId)
    (ho : o.op = .call { callee := .builtin .append, args := #[s, x], argTypes := #[t, t] })
    (base : Nat) (e : TypeId) (i : TypeInfo) (z : Value) (ht : P.underlying t = some (.slice e)) (hi : P.info? e = some i) (hz : i.zero = some z) (hs : i.size = 2) (hb : i.bytes = 32) (hzs : z.cells.size = 2)
    (v : Value) (hv : a.eval s = v) (hown : w.ownsRow base e 2 v 0 []) (al : List (ByteArray × ByteArray)) (A : Option Addr) (c b oo lo hi' : Nat) (hx : a.eval x = .slice A al.length c) (hA : RowAt lo hi' A al.length b oo) (hal : AsAt w b oo al) (hl : al.length ≤ 1048576) (hbase : base ≤ w.heap.size)
    (h : ∀ v' w', w'.ownsRow base e 2 v' al.length (alVals al) → w.grownBy w' v.ownBlock → wpList P ops Q rest (a.put o.dst v') w') : wpList P ops Q (o :: rest) a w := by
  refine wpList_plain hgd fun K hK => ?_
  obtain ⟨v', w', hr, h2, h3⟩ := run_append_al (P := P) w base t o.type e i z ht hi hz hs hb hzs v hown al A c b oo lo hi' hA hal hl hbase
  unfold Oper.wp execOp
  simp only [ho, resolve, invoke, builtin, Sem.run_bind, Sem.run_pure, Result.andThen_ok, List.map_toArray, List.map_cons, List.map_nil, hv, hx, hr]
  exact hK _ _ (h v' w' h2 h3)
end

theorem cells_new (w : World) (l : List Value) (t : TypeId) : ∀ j u, l[j]? = some u → (w.alloc (.cells l.toArray t)).cell? ((⟨w.heap.size, 0, none⟩ : Addr).add j) = some u := fun j u h => by
  rw [Addr.add_lit, Nat.zero_add, World.cell?_alloc_new]; simpa using h
/-- a node put behind a row that may grow, out of a literal in block g0 -/
theorem wpList_push_node {ops : Array Oper} {rest : List Oper} {o : Oper} {a : Act} {Q : Exit → Act → World → Prop} {w0 w : World} (hgd : o.guard = none) (s x : Operand)
    (ho : o.op = .call { callee := .builtin .append, args := #[s, x], argTypes := #[35, 35] })
    (base g0 : Nat) (v : Value) (F : Fo) (bl : List Nat) (hv : a.eval s = v) (hG : GRow w0 base v F bl) (hB : Below w0.heap.size w0 w) (hbase : base ≤ w0.heap.size) (hF : F.len ≤ 1048576) (hx : a.eval x = .slice (some ⟨g0, 0, none⟩) 1 1)
    (k sp : Int) (n t : ByteArray) (al : List (ByteArray × ByteArray)) (kids : Fo) (A K : Option Addr) (ca ck : Nat) (ba bk : List Nat)
    (hc : ∀ j u, ([.int .i64 k, .int .i64 sp, .string n, .string t, .slice A al.length ca, .slice K kids.len ck] : List Value)[j]? = some u → w.cell? ((⟨g0, 0, none⟩ : Addr).add j) = some u)
    (hz : n.size ≤ maxLen ∧ t.size ≤ maxLen) (h4 : al.length ≤ ca ∧ al.length ≤ maxLen ∧ AlRow w A al ba) (h5 : kids.len ≤ ck ∧ kids.len ≤ maxLen ∧ KRow w K kids bk)
    (hn : (ba ++ bk).Nodup) (hb : ∀ q ∈ ba ++ bk, w0.heap.size ≤ q ∧ q < w.heap.size)
    (h : ∀ v' w' bl', GRow w' base v' (F.app (.one k sp n t al kids)) bl' → Below base w w' → wpList Try.prog ops Q rest (a.put o.dst v') w') : wpList Try.prog ops Q (o :: rest) a w := by
  obtain ⟨i0, hi0, hz0, hz1, hz2⟩ := info_of infoNode
  obtain ⟨xs, ho', hvv, hnd, hbl, hg⟩ := hG.next hB
  have hlt : ∀ q, v.ownBlock = some q → q < w0.heap.size := by
    obtain ⟨_, ho0, _⟩ := hG
    exact fun q hq => (World.ownsRow.lt ho0 q hq).2
  have hbl0 : ∀ q ∈ bl, q < w0.heap.size := by
    obtain ⟨_, _, _, _, h, _⟩ := hG
    exact fun q hq => (h q hq).2
  have hbw : base ≤ w.heap.size := Nat.le_trans hbase hB.size
  refine wpList_append_own_at w hgd s x 35 ho base 37 i0 _ 6 96 Try.underlying35 hi0 hz0 hz1 hz2 rfl (by omega) v F.len xs hv ho' ⟨g0, 0, none⟩ 1 1 _ hx rfl hc (by intro u hu; simp only [List.mem_cons, List.not_mem_nil, or_false] at hu; rcases hu with rfl | rfl | rfl | rfl | rfl | rfl <;> rfl) (by unfold maxLen; omega) (by omega) hbw ?_
  intro v' w' hown hgrow _ hat
  refine h v' w' (bl ++ (ba ++ bk)) (grow_push hvv (fun q hq => ?_) ?_ (fun q hq hm => ?_) hz h4 h5 hown (fun q h1 h2 => hgrow.block q h1 (fun e => h2 e.symm)) hgrow.size ?_) ((Below.refl base w).grown hgrow hbw fun q hq => (World.ownsRow.lt ho' q hq).1)
  · rcases List.mem_append.1 hq with hq | hq
    · exact hbl q hq
    · exact ⟨Nat.le_trans hbase (hb q hq).1, (hb q hq).2⟩
  · refine List.nodup_append.2 ⟨hnd, hn, fun p hp q hq e => ?_⟩
    subst e
    have := hbl0 p hp
    have := (hb p hq).1
    omega
  · rcases List.mem_append.1 hm with hm | hm
    · exact hg q hq hm
    · have := hlt q hq
      have := (hb q hm).1
      omega
  · rcases hat with h | h
    · exact Or.inl h
    · exact Or.inr ⟨_, h, Nat.le_refl _⟩
end Go.Proofs.Ytgkkmoliobhpiaa
