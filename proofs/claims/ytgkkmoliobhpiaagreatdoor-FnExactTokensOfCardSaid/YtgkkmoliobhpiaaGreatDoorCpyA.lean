import Derived.Test.YtgkkmoliobhpiaaGreatDoorMrg
namespace Go.Proofs.YtgkkmoliobhpiaaGreatDoor
open Go.ChangeShapes Go.WideShapes Go.ChangeAt Go.RowKit Go.Deep

theorem asAt_vals {w : World} {b : Nat} : ∀ {al : List (ByteArray × ByteArray)} {o : Nat}, AsAt w b o al → ∀ j u, (alVals al)[j]? = some u → w.cell? ⟨b, o + j, none⟩ = some u
  | [], _, _, j, u, h => by simp [alVals] at h
  | x :: r, o, ⟨h1, h2, _, _, h5⟩, j, u, h => by
    match j, h with
    | 0, h => simp only [alVals, List.getElem?_cons_zero, Option.some.injEq] at h; subst h; exact h1
    | 1, h => simp only [alVals, List.getElem?_cons_succ, List.getElem?_cons_zero, Option.some.injEq] at h; subst h; exact h2
    | j + 2, h =>
      simp only [alVals, List.getElem?_cons_succ] at h
      have := asAt_vals h5 j u h
      rw [show o + (j + 2) = o + 2 + j by omega]; exact this
theorem asAt_sizes {w : World} {b : Nat} : ∀ {al : List (ByteArray × ByteArray)} {o : Nat}, AsAt w b o al → ∀ x ∈ al, x.1.size ≤ maxLen ∧ x.2.size ≤ maxLen
  | [], _, _, x, hx => by simp at hx
  | y :: r, o, ⟨_, _, h3, h4, h5⟩, x, hx => by
    rcases List.mem_cons.1 hx with rfl | hx
    · exact ⟨h3, h4⟩
    · exact asAt_sizes h5 x hx
theorem alVals_one : ∀ (al : List (ByteArray × ByteArray)), ∀ u ∈ alVals al, u.oneCell' = true
  | [], u, h => by simp [alVals] at h
  | x :: r, u, h => by
    simp only [alVals, List.mem_cons] at h
    rcases h with rfl | rfl | h
    · rfl
    · rfl
    · exact alVals_one r u h

section
variable {P : Program}
/-- attributes put behind an empty row of the call's own -/
theorem run_append_al (w : World) (base : Nat) (t ty e : TypeId) (i : TypeInfo) (z : Value) (ht : P.underlying t = some (.slice e)) (hi : P.info? e = some i) (hz : i.zero = some z) (hs : i.size = 2) (hb : i.bytes = 32) (hzs : z.cells.size = 2)
    (v : Value) (hown : w.ownsRow base e 2 v 0 []) (al : List (ByteArray × ByteArray)) (A : Option Addr) (c b o lo hi' : Nat) (hA : RowAt lo hi' A al.length b o) (hal : AsAt w b o al) (hl : al.length ≤ 1048576) (hbase : base ≤ w.heap.size) :
    ∃ v' w', (Builtin.append_ #[t, t] ty #[v, .slice A al.length c]).run P w = .ok v' w' ∧ w'.ownsRow base e 2 v' al.length (alVals al) ∧ w.grownBy w' v.ownBlock := by
  cases A with
  | none =>
    have h0 : al = [] := by
      cases al with
      | nil => rfl
      | cons x r => have := (hA.2 (by simp)).1; cases this
    subst h0
    refine ⟨v, w, ?_, hown, World.grownBy.refl w _⟩
    rcases hown.2 with ⟨rfl, _⟩ | ⟨g, cap, cur, rfl, _, _, hnc, _⟩
    · simp [Builtin.append_, run_underlying ht, sizeOf, typeInfo, hi, Builtin.lenOf, Builtin.firstCells]
    · simp [Builtin.append_, run_underlying ht, sizeOf, typeInfo, hi, Builtin.lenOf, Builtin.firstCells, storeCells]
  | some ad =>
    have hcells : ∀ j u, (alVals al)[j]? = some u → w.cell? (ad.add j) = some u := by
      intro j u hu
      cases al with
      | nil => simp [alVals] at hu
      | cons x r =>
        obtain ⟨h1, _⟩ := hA.2 (by simp)
        injection h1 with h1
        subst h1
        rw [Addr.add_lit]
        exact asAt_vals hal j u hu
    obtain ⟨v', w', hrun, h2, h3, _, _⟩ := run_append_own_at (P := P) w base t ty e i z 2 32 ht hi hz hs hb hzs (by omega) v 0 [] hown ad al.length c (alVals al) (alVals_len al) hcells (alVals_one al) (by unfold maxLen; omega) (by omega) hbase
    rw [Nat.zero_add] at h2
    exact ⟨v', w', hrun, h2, h3⟩
theorem wpList_append_al {ops : Array Oper} {rest : List Oper} {o : Oper} {a : Act} {Q : Exit → Act → World → Prop} {w : World} (hgd : o.guard = none) (s x : Operand) (t : TypeId)
    (ho : o.op = .call { callee := .builtin .append, args := #[s, x], argTypes := #[t, t] })
    (base : Nat) (e : TypeId) (i : TypeInfo) (z : Value) (ht : P.underlying t = some (.slice e)) (hi : P.info? e = some i) (hz : i.zero = some z) (hs : i.size = 2) (hb : i.bytes = 32) (hzs : z.cells.size = 2)
    (v : Value) (hv : a.eval s = v) (hown : w.ownsRow base e 2 v 0 []) (al : List (ByteArray × ByteArray)) (A : Option Addr) (c b oo lo hi' : Nat) (hx : a.eval x = .slice A al.length c) (hA : RowAt lo hi' A al.length b oo) (hal : AsAt w b oo al) (hl : al.length ≤ 1048576) (hbase : base ≤ w.heap.size)
    (h : ∀ v' w', w'.ownsRow base e 2 v' al.length (alVals al) → w.grownBy w' v.ownBlock → wpList P ops Q rest (a.put o.dst v') w') : wpList P ops Q (o :: rest) a w := by
  refine wpList_plain hgd fun K hK => ?_
  obtain ⟨v', w', hr, h2, h3⟩ := run_append_al (P := P) w base t o.type e i z ht hi hz hs hb hzs v hown al A c b oo lo hi' hA hal hl hbase
  unfold Oper.wp execOp
  simp only [ho, resolve, invoke, builtin, Sem.run_bind, Sem.run_pure, Result.andThen_ok, List.map_toArray, List.map_cons, List.map_nil, hv, hx, hr]
  exact hK _ _ (h v' w' h2 h3)
end

theorem cells_new (w : World) (l : List Value) (t : TypeId) : ∀ j u, l[j]? = some u → (w.alloc (.cells l.toArray t)).cell? ((⟨w.heap.size, 0, none⟩ : Addr).add j) = some u := fun j u h => by
  rw [Addr.add_lit, Nat.zero_add, World.cell?_alloc_new]; simpa using h
end Go.Proofs.YtgkkmoliobhpiaaGreatDoor
namespace Go.Proofs.YtgkkmoliobhpiaaGreatDoor
open Go.ChangeShapes Go.WideShapes Go.ChangeAt Go.RowKit Go.Deep

/-- a copied row of attributes, behind block g -/
def Cp (g : Nat) (w : World) (A : Option Addr) (ca : Nat) (al : List (ByteArray × ByteArray)) (ba : List Nat) : Prop := (al.length ≤ ca ∧ al.length ≤ maxLen ∧ AlRow w A al ba) ∧ ba.Nodup ∧ ∀ k ∈ ba, g < k ∧ k < w.heap.size
theorem Cp.of {g base : Nat} {w : World} {v : Value} {al : List (ByteArray × ByteArray)} (h : w.ownsRow base 45 2 v al.length (alVals al)) (hs : ∀ x ∈ al, x.1.size ≤ maxLen ∧ x.2.size ≤ maxLen) (hl : al.length ≤ maxLen) (hg : g < base) : ∃ A ca ba, v = .slice A al.length ca ∧ Cp g w A ca al ba := by
  obtain ⟨A, ca, ba, h1, h2, h3, h4, h5, _⟩ := arow_form h hs
  exact ⟨A, ca, ba, h1, ⟨h2, hl, h3⟩, h4, fun k hk => ⟨by have := (h5 k hk).1; omega, (h5 k hk).2⟩⟩
theorem Cp.set {g : Nat} {w : World} {A : Option Addr} {ca : Nat} {al : List (ByteArray × ByteArray)} {ba : List Nat} (h : Cp g w A ca al ba) (j : Nat) (u : Value) : Cp g (w.setCell ⟨g, j, none⟩ u) A ca al ba :=
  ⟨⟨h.1.1, h.1.2.1, h.1.2.2.same fun k hk => Below.heap_setCell _ _ _ _ (by have := (h.2.2 k hk).1; show k ≠ g; omega)⟩, h.2.1, fun k hk => by rw [World.size_setCell]; exact h.2.2 k hk⟩
theorem Cp.next {g : Nat} {w w' : World} {A : Option Addr} {ca : Nat} {al : List (ByteArray × ByteArray)} {ba : List Nat} (h : Cp g w A ca al ba) (hB : Below w.heap.size w w') : Cp g w' A ca al ba :=
  ⟨⟨h.1.1, h.1.2.1, h.1.2.2.same fun k hk => hB.block k (h.2.2 k hk).2⟩, h.2.1, fun k hk => ⟨(h.2.2 k hk).1, Nat.lt_of_lt_of_le (h.2.2 k hk).2 hB.size⟩⟩
/-- a copied row of nodes, from M on -/
def Kp (M : Nat) (w : World) (K : Option Addr) (ck : Nat) (F : Fo) (bk : List Nat) : Prop := (F.len ≤ ck ∧ F.len ≤ maxLen ∧ KRow w K F bk) ∧ bk.Nodup ∧ ∀ k ∈ bk, M ≤ k ∧ k < w.heap.size
theorem Kp.set {M g : Nat} {w : World} {K : Option Addr} {ck : Nat} {F : Fo} {bk : List Nat} (h : Kp M w K ck F bk) (hg : g < M) (j : Nat) (u : Value) : Kp M (w.setCell ⟨g, j, none⟩ u) K ck F bk :=
  ⟨⟨h.1.1, h.1.2.1, h.1.2.2.same fun k hk => Below.heap_setCell _ _ _ _ (by have := (h.2.2 k hk).1; show k ≠ g; omega)⟩, h.2.1, fun k hk => by rw [World.size_setCell]; exact h.2.2 k hk⟩
theorem Kp.next {M : Nat} {w w' : World} {K : Option Addr} {ck : Nat} {F : Fo} {bk : List Nat} (h : Kp M w K ck F bk) (hB : Below w.heap.size w w') : Kp M w' K ck F bk :=
  ⟨⟨h.1.1, h.1.2.1, h.1.2.2.same fun k hk => hB.block k (h.2.2 k hk).2⟩, h.2.1, fun k hk => ⟨(h.2.2 k hk).1, Nat.lt_of_lt_of_le (h.2.2 k hk).2 hB.size⟩⟩
/-- behind the append of attributes to a literal of none -/
theorem box_lit {wr w2 : World} {cs : Array Value} {t te : TypeId} (hg : ((wr.alloc (.cells cs t)).alloc (.cells #[] te)).grownBy w2 (some (wr.heap.size + 1))) : Lay w2 wr.heap.size cs ∧ Below wr.heap.size wr w2 ∧ wr.heap.size + 1 < w2.heap.size := by
  have h1 := hg.size
  simp only [World.size_alloc] at h1
  have e : w2.heap[wr.heap.size]? = ((wr.alloc (.cells cs t)).alloc (.cells #[] te)).heap[wr.heap.size]? := hg.block _ (by simp; omega) (by simp)
  have hL := (Lay.new wr cs t).alloc (by simp) (.cells #[] te)
  refine ⟨⟨fun j => (World.cell?_of_block (a := ⟨_, j, none⟩) e).trans (hL.1 j), fun j => (World.frozen?_of_block (a := ⟨_, j, none⟩) e).trans (hL.2 j)⟩, (((Below.refl wr.heap.size wr).alloc (Nat.le_refl _) _).alloc (by simp) _).grown hg (by simp; omega) (fun q hq => by injection hq with hq; omega), by omega⟩
/-- .. to nil -/
theorem box_nil {wr w2 : World} {cs : Array Value} {t : TypeId} (hg : (wr.alloc (.cells cs t)).grownBy w2 none) : Lay w2 wr.heap.size cs ∧ Below wr.heap.size wr w2 ∧ wr.heap.size < w2.heap.size := by
  have h1 := hg.size
  simp only [World.size_alloc] at h1
  have e : w2.heap[wr.heap.size]? = (wr.alloc (.cells cs t)).heap[wr.heap.size]? := hg.block _ (by simp) (by simp)
  have hL := Lay.new wr cs t
  refine ⟨⟨fun j => (World.cell?_of_block (a := ⟨_, j, none⟩) e).trans (hL.1 j), fun j => (World.frozen?_of_block (a := ⟨_, j, none⟩) e).trans (hL.2 j)⟩, ((Below.refl wr.heap.size wr).alloc (Nat.le_refl _) _).grown hg (by simp) (fun q hq => by cases hq), by omega⟩
theorem own_lit (wr : World) (cs : Array Value) (t : TypeId) : ((wr.alloc (.cells cs t)).alloc (.cells #[] 45)).ownsRow (wr.heap.size + 1) 45 2 (.slice (some ⟨wr.heap.size + 1, 0, none⟩) 0 0) 0 [] := by
  have := World.ownsRow_lit (base := wr.heap.size + 1) (e := 45) (size := 2) (wr.alloc (.cells cs t)) #[] 0 (by simp) (Nat.zero_le _) rfl
  simpa using this
theorem lay6 {w : World} {g : Nat} {v0 v1 v2 v3 v4 v5 : Value} (h : Lay w g #[v0, v1, v2, v3, v4, v5]) : w.cell? ⟨g, 0, none⟩ = some v0 ∧ w.cell? ⟨g, 1, none⟩ = some v1 ∧ w.cell? ⟨g, 2, none⟩ = some v2 ∧ w.cell? ⟨g, 3, none⟩ = some v3 ∧ w.cell? ⟨g, 4, none⟩ = some v4 ∧ w.cell? ⟨g, 5, none⟩ = some v5 :=
  ⟨h.1 0, h.1 1, h.1 2, h.1 3, h.1 4, h.1 5⟩

end Go.Proofs.YtgkkmoliobhpiaaGreatDoor
