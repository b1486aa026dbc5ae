import Derived.Test.YthdkkpbhijlpaaaGreatS30
import Derived.Test.YthdkkpbhijlpaaaGreatS16
import Derived.Test.YthdkkpbhijlpaaaGreatS17
import Derived.Test.YthdkkpbhijlpaaaGreatS18
import Derived.Test.YthdkkpbhijlpaaaGreatS23
set_option linter.unusedVariables false
namespace Go.Proofs.YthdkkpbhijlpaaaGreat
open Go.ChangeShapes Go.WideShapes Go.ChangeAt Go.RowKit Go.Deep

theorem asAt_vals {w : World} {b : Nat} : ∀ {al : List (ByteArray × ByteArray)} {o : Nat}, AsAt w b o al → ∀ j u, (alVals al)[j]? = some u → w.cell? ⟨b, o + j, none⟩ = some u
  | [], _, _, j, u, h => by simp [alVals] at h
  | x :: r, o, ⟨h1, h2, _, _, h5⟩, j, u, h => by
    match j, h with
    | 0, h => simp only [alVals, List.getElem?_cons_zero, Option.some.injEq] at h; subst h; exact h1
    | 1, h => simp only [alVals, List.getElem?_cons_succ, List.getElem?_cons_zero, Option.some.injEq] at h; subst h; exact h2
    | j + 2, h =>
      simp only [alVals, List.getElem?_cons_succ] at h
      have := asAt_vals h5 j u h
      rw [show o + (j + 2) = o + 2 + j by omega]; exact this
theorem asAt_sizes {w : World} {b : Nat} : ∀ {al : List (ByteArray × ByteArray)} {o : Nat}, AsAt w b o al → ∀ x ∈ al, x.1.size ≤ maxLen ∧ x.2.size ≤ maxLen
  | [], _, _, x, hx => by simp at hx
  | y :: r, o, ⟨_, _, h3, h4, h5⟩, x, hx => by
    rcases List.mem_cons.1 hx with rfl | hx
    · exact ⟨h3, h4⟩
    · exact asAt_sizes h5 x hx
theorem alVals_one : ∀ (al : List (ByteArray × ByteArray)), ∀ u ∈ alVals al, u.oneCell' = true
  | [], u, h => by simp [alVals] at h
  | x :: r, u, h => by
    simp only [alVals, List.mem_cons] at h
    rcases h with rfl | rfl | h
    · rfl
    · rfl
    · exact alVals_one r u h
section
variable {P : Program}
/-- attributes put behind an empty row of the call's own -/
theorem run_append_al (w : World) (base : Nat) (t ty e : TypeId) (i : TypeInfo) (z : Value) (ht : P.underlying t = some (.slice e)) (hi : P.info? e = some i) (hz : i.zero = some z) (hs : i.size = 2) (hb : i.bytes = 32) (hzs : z.cells.size = 2)
    (v : Value) (hown : w.ownsRow base e 2 v 0 []) (al : List (ByteArray × ByteArray)) (A : Option Addr) (c b o lo hi' : Nat) (hA : RowAt lo hi' A al.length b o) (hal : AsAt w b o al) (hl : al.length ≤ 1048576) (hbase : base ≤ w.heap.size) :
    ∃ v' w', (Builtin.append_ #[t, t] ty #[v, .slice A al.length c]).run P w = .ok v' w' ∧ w'.ownsRow base e 2 v' al.length (alVals al) ∧ w.grownBy w' v.ownBlock := by
  cases A with
  | none =>
    have h0 : al = [] := by
      cases al with
      | nil => rfl
      | cons x r => have := (hA.2 (by simp)).1; cases this
    subst h0
    refine ⟨v, w, ?_, hown, World.grownBy.refl w _⟩
    rcases hown.2 with ⟨rfl, _⟩ | ⟨g, cap, cur, rfl, _, _, hnc, _⟩
    · simp [Builtin.append_, run_underlying ht, sizeOf, typeInfo, hi, Builtin.lenOf, Builtin.firstCells]
    · simp [Builtin.append_, run_underlying ht, sizeOf, typeInfo, hi, Builtin.lenOf, Builtin.firstCells, storeCells]
  | some ad =>
    have hcells : ∀ j u, (alVals al)[j]? = some u → w.cell? (ad.add j) = some u := by
      intro j u hu
      cases al with
      | nil => simp [alVals] at hu
      | cons x r =>
        obtain ⟨h1, _⟩ := hA.2 (by simp)
        injection h1 with h1
        subst h1
        rw [Addr.add_lit]
        exact asAt_vals hal j u hu
    obtain ⟨v', w', hrun, h2, h3, _, _⟩ := run_append_own_at (P := P) w base t ty e i z 2 32 ht hi hz hs hb hzs (by omega) v 0 [] hown ad al.length c (alVals al) (alVals_len al) hcells (alVals_one al) (by unfold maxLen; omega) (by omega) hbase
    rw [Nat.zero_add] at h2
    exact ⟨v', w', hrun, h2, h3⟩
theorem wpList_append_al {ops : Array Oper} {rest : List Oper} {o : Oper} {a : Act} {Q : Exit → Act → World → Prop} {w : World} (hgd : o.guard = none) (s x : Operand) (t : TypeId)
    (ho : o.op = .call { callee := .builtin .append, args := #[s, x], argTypes := #[t, t] })
    (base : Nat) (e : TypeId) (i : TypeInfo) (z : Value) (ht : P.underlying t = some (.slice e)) (hi : P.info? e = some i) (hz : i.zero = some z) (hs : i.size = 2) (hb : i.bytes = 32) (hzs : z.cells.size = 2)
    (v : Value) (hv : a.eval s = v) (hown : w.ownsRow base e 2 v 0 []) (al : List (ByteArray × ByteArray)) (A : Option Addr) (c b oo lo hi' : Nat) (hx : a.eval x = .slice A al.length c) (hA : RowAt lo hi' A al.length b oo) (hal : AsAt w b oo al) (hl : al.length ≤ 1048576) (hbase : base ≤ w.heap.size)
    (h : ∀ v' w', w'.ownsRow base e 2 v' al.length (alVals al) → w.grownBy w' v.ownBlock → wpList P ops Q rest (a.put o.dst v') w') : wpList P ops Q (o :: rest) a w := by
  refine wpList_plain hgd fun K hK => ?_
  obtain ⟨v', w', hr, h2, h3⟩ := run_append_al (P := P) w base t o.type e i z ht hi hz hs hb hzs v hown al A c b oo lo hi' hA hal hl hbase
  unfold Oper.wp execOp
  simp only [ho, resolve, invoke, builtin, Sem.run_bind, Sem.run_pure, Result.andThen_ok, List.map_toArray, List.map_cons, List.map_nil, hv, hx, hr]
  exact hK _ _ (h v' w' h2 h3)
end

theorem cells_new (w : World) (l : List Value) (t : TypeId) : ∀ j u, l[j]? = some u → (w.alloc (.cells l.toArray t)).cell? ((⟨w.heap.size, 0, none⟩ : Addr).add j) = some u := fun j u h => by
  rw [Addr.add_lit, Nat.zero_add, World.cell?_alloc_new]; simpa using h
/-- a node put behind a row that may grow, out of a literal in block g0 -/
theorem wpList_push_node {ops : Array Oper} {rest : List Oper} {o : Oper} {a : Act} {Q : Exit → Act → World → Prop} {w0 w : World} (hgd : o.guard = none) (s x : Operand)
    (ho : o.op = .call { callee := .builtin .append, args := #[s, x], argTypes := #[29, 29] })
    (base g0 : Nat) (v : Value) (F : Fo) (bl : List Nat) (hv : a.eval s = v) (hG : GRow w0 base v F bl) (hB : Below w0.heap.size w0 w) (hbase : base ≤ w0.heap.size) (hF : F.len ≤ 1048576) (hx : a.eval x = .slice (some ⟨g0, 0, none⟩) 1 1)
    (k sp : Int) (n t : ByteArray) (al : List (ByteArray × ByteArray)) (kids : Fo) (A K : Option Addr) (ca ck : Nat) (ba bk : List Nat)
    (hc : ∀ j u, ([.int .i64 k, .int .i64 sp, .string n, .string t, .slice A al.length ca, .slice K kids.len ck] : List Value)[j]? = some u → w.cell? ((⟨g0, 0, none⟩ : Addr).add j) = some u)
    (hz : n.size ≤ maxLen ∧ t.size ≤ maxLen) (h4 : al.length ≤ ca ∧ al.length ≤ maxLen ∧ AlRow w A al ba) (h5 : kids.len ≤ ck ∧ kids.len ≤ maxLen ∧ KRow w K kids bk)
    (hn : (ba ++ bk).Nodup) (hb : ∀ q ∈ ba ++ bk, w0.heap.size ≤ q ∧ q < w.heap.size)
    (h : ∀ v' w' bl', GRow w' base v' (F.app (.one k sp n t al kids)) bl' → Below base w w' → wpList Tryz.prog ops Q rest (a.put o.dst v') w') : wpList Tryz.prog ops Q (o :: rest) a w := by
  obtain ⟨i0, hi0, hz0, hz1, hz2⟩ := info_of infoNode
  obtain ⟨xs, ho', hvv, hnd, hbl, hg⟩ := hG.next hB
  have hlt : ∀ q, v.ownBlock = some q → q < w0.heap.size := by
    obtain ⟨_, ho0, _⟩ := hG
    exact fun q hq => (World.ownsRow.lt ho0 q hq).2
  have hbl0 : ∀ q ∈ bl, q < w0.heap.size := by
    obtain ⟨_, _, _, _, h, _⟩ := hG
    exact fun q hq => (h q hq).2
  have hbw : base ≤ w.heap.size := Nat.le_trans hbase hB.size
  refine wpList_append_own_at w hgd s x 29 ho base 71 i0 _ 6 96 Tryz.underlying29 hi0 hz0 hz1 hz2 rfl (by omega) v F.len xs hv ho' ⟨g0, 0, none⟩ 1 1 _ hx rfl hc (by intro u hu; simp only [List.mem_cons, List.not_mem_nil, or_false] at hu; rcases hu with rfl | rfl | rfl | rfl | rfl | rfl <;> rfl) (by unfold maxLen; omega) (by omega) hbw ?_
  intro v' w' hown hgrow _ hat
  refine h v' w' (bl ++ (ba ++ bk)) (grow_push hvv (fun q hq => ?_) ?_ (fun q hq hm => ?_) hz h4 h5 hown (fun q h1 h2 => hgrow.block q h1 (fun e => h2 e.symm)) hgrow.size ?_) ((Below.refl base w).grown hgrow hbw fun q hq => (World.ownsRow.lt ho' q hq).1)
  · rcases List.mem_append.1 hq with hq | hq
    · exact hbl q hq
    · exact ⟨Nat.le_trans hbase (hb q hq).1, (hb q hq).2⟩
  · refine List.nodup_append.2 ⟨hnd, hn, fun p hp q hq e => ?_⟩
    subst e
    have := hbl0 p hp
    have := (hb p hq).1
    omega
  · rcases List.mem_append.1 hm with hm | hm
    · exact hg q hq hm
    · have := hlt q hq
      have := (hb q hm).1
      omega
  · rcases hat with h | h
    · exact Or.inl h
    · exact Or.inr ⟨_, h, Nat.le_refl _⟩
end Go.Proofs.YthdkkpbhijlpaaaGreat
namespace Go.Proofs.YthdkkpbhijlpaaaGreat
open Go.ChangeShapes Go.WideShapes Go.ChangeAt Go.RowKit Go.Deep

theorem foVals_one {w : World} : ∀ {F : Fo} {xs : List Value} {bl : List Nat}, FoVals w xs F bl → ∀ u ∈ xs, u.oneCell' = true
  | .nil, _, _, h, u, hu => by rw [h.1] at hu; cases hu
  | .cons k sp n t al kids rest, xs, bl, ⟨A, K, ca, ck, ba, bk, br, xr, hx, _, _, _, _, hr⟩, u, hu => by
    subst hx
    simp only [List.mem_cons] at hu
    rcases hu with rfl | rfl | rfl | rfl | rfl | rfl | hu
    · rfl
    · rfl
    · rfl
    · rfl
    · rfl
    · rfl
    · exact foVals_one hr u hu
/-- behind the append of a whole row -/
theorem grow_app {w w1 : World} {base bx : Nat} {v v' : Value} {F G : Fo} {bl bg : List Nat} {xs ys : List Value}
    (hv : FoVals w xs F bl) (hvg : FoVals w ys G bg) (hb : ∀ k ∈ bl ++ bg, base ≤ k ∧ k < w.heap.size) (hn : (bl ++ bg).Nodup) (hg : ∀ k, v.ownBlock = some k → k ∉ bl ++ bg)
    (hown : w1.ownsRow base 71 6 v' (F.len + G.len) (xs ++ ys))
    (hkeep : ∀ k, k < w.heap.size → v.ownBlock ≠ some k → w1.heap[k]? = w.heap[k]?) (hsz : w.heap.size ≤ w1.heap.size) (hat : v'.ownBlock = v.ownBlock ∨ ∃ q, v'.ownBlock = some q ∧ w.heap.size ≤ q) :
    GRow w1 base v' (F.app G) (bl ++ bg) := by
  have hk : ∀ q ∈ bl ++ bg, w1.heap[q]? = w.heap[q]? := fun q hq => hkeep q (hb q hq).2 fun e => hg q e hq
  refine ⟨_, by rw [Fo.len_app]; exact hown, (hv.app hvg).same hk, hn, fun q hq => ⟨(hb q hq).1, Nat.lt_of_lt_of_le (hb q hq).2 hsz⟩, fun q hq hm => ?_⟩
  rcases hat with e | ⟨r, e, hr⟩
  · exact hg q (by rw [← e]; exact hq) hm
  · rw [e] at hq
    injection hq with hq
    have := (hb q hm).2
    omega
/-- a whole row of nodes put behind another one -/
theorem wpList_push_row {ops : Array Oper} {rest : List Oper} {o : Oper} {a : Act} {Q : Exit → Act → World → Prop} {w : World} (hgd : o.guard = none) (s x : Operand)
    (ho : o.op = .call { callee := .builtin .append, args := #[s, x], argTypes := #[29, 29] })
    (base bx : Nat) (v vx : Value) (F G : Fo) (bl bg : List Nat) (hv : a.eval s = v) (hx : a.eval x = vx) (hF : GRow w base v F bl) (hG : GRow w bx vx G bg) (hd : ∀ q, (v.ownBlock = some q ∨ q ∈ bl) → q < bx)
    (hbase : base ≤ w.heap.size) (hbx : base ≤ bx) (hl : F.len ≤ 1048576) (hl2 : G.len ≤ 1048576)
    (h : ∀ v' w' bl', GRow w' base v' (F.app G) bl' → Below base w w' → wpList Tryz.prog ops Q rest (a.put o.dst v') w') : wpList Tryz.prog ops Q (o :: rest) a w := by
  obtain ⟨i0, hi0, hz0, hz1, hz2⟩ := info_of infoNode
  have hF0 := hF
  obtain ⟨xs, ho', hvv, hnd, hbl, hg⟩ := hF
  obtain ⟨ys, hoy, hvy, hndy, hbly, hgy⟩ := hG
  have hcy := fun g hg => World.ownsRow.cells hoy (g := g) hg
  obtain ⟨hly, hoy'⟩ := hoy
  rcases hoy' with ⟨rfl, h0⟩ | ⟨gx, cap, cur, rfl, hbs, hblk, hle, _, _, _⟩
  · have hGn : G = .nil := by
      cases G with
      | nil => rfl
      | cons _ _ _ _ _ _ _ => simp [Fo.len] at h0
    subst hGn
    refine wpList_plain hgd fun K hK => ?_
    have hr : (Builtin.append_ #[29, 29] o.type #[v, .slice none 0 0]).run Tryz.prog w = .ok v w := by
      rcases ho'.2 with ⟨rfl, _⟩ | ⟨g, cap, cur, rfl, _, _, hnc, _⟩
      · simp [Builtin.append_, run_underlying Tryz.underlying29, sizeOf, typeInfo, hi0, Builtin.lenOf, Builtin.firstCells]
      · simp [Builtin.append_, run_underlying Tryz.underlying29, sizeOf, typeInfo, hi0, Builtin.lenOf, Builtin.firstCells, storeCells, Nat.not_lt.2 hnc]
    unfold Oper.wp execOp
    simp only [ho, resolve, invoke, builtin, Sem.run_bind, Sem.run_pure, Result.andThen_ok, List.map_toArray, List.map_cons, List.map_nil, hv, hx, hr]
    exact hK _ _ (h v w bl (by rw [Fo.app_nil]; exact hF0) (Below.refl _ _))
  · refine wpList_append_own_at w hgd s x 29 ho base 71 i0 _ 6 96 Tryz.underlying29 hi0 hz0 hz1 hz2 rfl (by omega) v F.len xs hv ho' ⟨gx, 0, none⟩ G.len cap ys hx hvy.len (hcy gx rfl) (foVals_one hvy) (by unfold maxLen; omega) (by omega) hbase ?_
    intro v' w' hown hgrow _ hat
    have hgm : bx ≤ gx := hbs
    refine h v' w' (bl ++ bg) (grow_app (bx := bx) hvv hvy (fun q hq => ?_) ?_ (fun q hq hm => ?_) hown (fun q h1 h2 => hgrow.block q h1 (fun e => h2 e.symm)) hgrow.size ?_) ((Below.refl base w).grown hgrow hbase fun q hq => (World.ownsRow.lt ho' q hq).1)
    · rcases List.mem_append.1 hq with hq | hq
      · exact hbl q hq
      · exact ⟨Nat.le_trans hbx (hbly q hq).1, (hbly q hq).2⟩
    · refine List.nodup_append.2 ⟨hnd, hndy, fun p hp q hq e => ?_⟩
      subst e
      have := hd p (Or.inr hp)
      have := (hbly p hq).1
      omega
    · rcases List.mem_append.1 hm with hm | hm
      · exact hg q hq hm
      · have := hd q (Or.inl hq)
        have := (hbly q hm).1
        omega
    · rcases hat with h | h
      · exact Or.inl h
      · exact Or.inr ⟨_, h, Nat.le_refl _⟩
end Go.Proofs.YthdkkpbhijlpaaaGreat
namespace Go.Proofs.YthdkkpbhijlpaaaGreat
open Go.ChangeShapes Go.WideShapes Go.ChangeAt Go.RowKit Go.Deep

/-- the attributes that stay -/
def keepAl (X : Cf) (sp : Int) (n : ByteArray) (al : List (ByteArray × ByteArray)) : List (ByteArray × ByteArray) := al.filter fun a => attA X sp n a.1 a.2
/-- a raw element whose words have markup -/
def rawW (sp : Int) (n : ByteArray) (kids : Fo) : Bool := (sp == 0 && inL rawL n) && hasC ⟨kids.words.toArray⟩ 60
def Fo.san (X : Cf) : Fo → Fo
  | .nil => .nil
  | .cons k sp n t al kids rest =>
    (if k = 2 then .one 2 0 ⟨#[]⟩ t [] .nil
     else if k = 3 then (if (X.cm && commentIn t) = true then .one 3 0 ⟨#[]⟩ t [] .nil else .nil)
     else if unwB X sp n = true then kids.san X
     else if (allB X sp n && !rawW sp n kids) = true then .one k sp n ⟨#[]⟩ (keepAl X sp n al) (kids.san X)
     else .nil).app (rest.san X)
theorem Fo.san_app (X : Cf) : ∀ P S : Fo, (P.app S).san X = (P.san X).app (S.san X)
  | .nil, S => rfl
  | .cons k sp n t al kids r, S => by
    simp only [Fo.app, Fo.san, Fo.san_app X r S, Fo.app_assoc]
theorem Fo.san_one (X : Cf) (k sp : Int) (n t : ByteArray) (al : List (ByteArray × ByteArray)) (kids : Fo) :
    (Fo.one k sp n t al kids).san X = (if k = 2 then .one 2 0 ⟨#[]⟩ t [] .nil
     else if k = 3 then (if (X.cm && commentIn t) = true then .one 3 0 ⟨#[]⟩ t [] .nil else .nil)
     else if unwB X sp n = true then kids.san X
     else if (allB X sp n && !rawW sp n kids) = true then .one k sp n ⟨#[]⟩ (keepAl X sp n al) (kids.san X)
     else .nil) := by
  simp only [Fo.one, Fo.san, Fo.app_nil]
/-- it has no more nodes -/
theorem Fo.san_nodes (X : Cf) : ∀ F : Fo, (F.san X).nodes ≤ F.nodes
  | .nil => Nat.le_refl _
  | .cons k sp n t al kids r => by
    have h1 := Fo.san_nodes X kids
    have h2 := Fo.san_nodes X r
    have hn : ∀ P S : Fo, (P.app S).nodes = P.nodes + S.nodes := by
      intro P
      induction P with
      | nil => intro S; simp [Fo.app, Fo.nodes]
      | cons _ _ _ _ _ _ _ _ ih => intro S; simp only [Fo.app, Fo.nodes, ih S]; omega
    simp only [Fo.san, hn, Fo.nodes]
    split
    · simp only [Fo.one, Fo.nodes]; omega
    · split
      · split
        · simp only [Fo.one, Fo.nodes]; omega
        · simp only [Fo.nodes]; omega
      · split
        · omega
        · split
          · simp only [Fo.one, Fo.nodes]; omega
          · simp only [Fo.nodes]; omega
set_option maxHeartbeats 1000000 in
theorem l08Raw_any (k sp : Int) (n t : ByteArray) (la ca ck b o lo hi : Nat) (A K : Option Addr) (kids : Fo) (w : World) (hd : kids.nodes ≤ 60) (hs : kids.words.length ≤ 65536) (hz : kids.size ≤ 1048576 * 64) (hh : hi ≤ w.heap.size) (hK : RowAt lo hi K kids.len b o) (hF : FoAt w lo hi b o kids) :
    Calls Tryz.prog 95 #[.agg #[.int .i64 k, .int .i64 sp, .string n, .string t, .slice A la ca, .slice K kids.len ck]] w fun e w' => e = .returned (.bool (rawW sp n kids)) ∧ Below w.heap.size w w' := by
  have HT := Lib.hid (fun W (h1 : hi ≤ W.heap.size) (h2 : FoAt W lo hi b o kids) => l03Text_any kids W K ck b o lo hi (by omega) hz h1 hK h2)
  have HX : Hid ((⟨kids.words.toArray⟩ : ByteArray).size ≤ 65536) := Lib.hid (by show kids.words.toArray.size ≤ 65536; simpa using hs)
  have HF := Lib.hid hF
  have HK := Lib.hid hK
  have B1 := Lib.hid ((Below.refl w.heap.size w).alloc (Nat.le_refl _) (.cells #[.int .i64 k, .int .i64 sp, .string n, .string t, .slice A la ca, .slice K kids.len ck] 71))
  have L1 := Lib.hid (Lay.new w #[.int .i64 k, .int .i64 sp, .string n, .string t, .slice A la ca, .slice K kids.len ck] 71)
  clear hF hK hs hz hd
  by_cases h0 : sp = 0
  · subst h0
    cases hr : inL rawL n with
    | true =>
      have HR := Lib.hid hr
      have HE : Hid (rawW 0 n kids = hasC ⟨kids.words.toArray⟩ 60) := Lib.hid (by unfold rawW; rw [hr]; rfl)
      clear hr
      generalize (⟨kids.words.toArray⟩ : ByteArray) = T at HT HX HE
      go_enter Tryz.func95, Tryz.ntmps95
      go_wp2_with (first
        | (go_at_call 155; refine (l01Raw_any n _).mono ?_; rintro e w1 ⟨rfl, hB⟩; rw [HR.out]; have c5 : w1.cell? ⟨w.heap.size, 5, none⟩ = some (.slice K kids.len ck) := (hB.cell (p := ⟨w.heap.size, 5, none⟩) (by simp)).trans (L1.out.1 5); have B2 := Lib.hid (B1.out.trans (hB.mono B1.out.size)); clear hB)
        | (go_at_call 157; refine (HT.out _ (Nat.le_trans hh B2.out.size) (FoAt.below HK.out HF.out B2.out hh)).mono ?_; rintro e w2 ⟨rfl, hB⟩; have B3 := Lib.hid (B2.out.trans (hB.mono B2.out.size)); clear hB)
        | (go_at_call 156; refine (l02Has_any T 60 _ HX.out).mono ?_; rintro e w3 ⟨rfl, rfl⟩))
      go_ret
      exact ⟨by rw [HE.out]; rfl, B3.out⟩
    | false =>
      have HR := Lib.hid hr
      have HE : Hid (rawW 0 n kids = false) := Lib.hid (by unfold rawW; rw [hr]; rfl)
      clear hr
      go_enter Tryz.func95, Tryz.ntmps95
      go_wp2_with (go_at_call 155; refine (l01Raw_any n _).mono ?_; rintro e w1 ⟨rfl, hB⟩; rw [HR.out]; have B2 := Lib.hid (B1.out.trans (hB.mono B1.out.size)); clear hB)
      go_ret
      exact ⟨by rw [HE.out]; rfl, B2.out⟩
  · have g0 : (sp == 0) = false := by simpa using h0
    have HE : Hid (rawW sp n kids = false) := Lib.hid (by unfold rawW; rw [g0]; rfl)
    clear h0
    go_enter Tryz.func95, Tryz.ntmps95
    go_wp2
    go_ret
    exact ⟨by rw [HE.out]; rfl, B1.out⟩
end Go.Proofs.YthdkkpbhijlpaaaGreat
