import Derived.BigQuiet
import Derived.IntWalk
import Derived.Test.YthdkkpbhijlpaaaGreatS04
import Derived.Test.YthdkkpbhijlpaaaGreatS03
import Derived.Test.YthdkkpbhijlpaaaGreatS05
set_option linter.unusedVariables false
namespace Go.Proofs.YthdkkpbhijlpaaaGreat
open Go.ChangeShapes Go.WideShapes Go.ChangeAt Go.RowKit Go.Deep

theorem str_ext {a b : ByteArray} (h : a.toList = b.toList) : a = b := by
  rw [ByteArray.toList_eq, ByteArray.toList_eq] at h
  obtain ⟨⟨x⟩⟩ := a
  obtain ⟨⟨y⟩⟩ := b
  simp at h
  subst h
  rfl
theorem str_ne {a b : ByteArray} (h : ¬ a = b) : (a.toList == b.toList) = false := by
  rw [beq_eq_false_iff_ne]; exact fun e => h (str_ext e)
theorem AsAt.get {w : World} {b : Nat} : ∀ {al : List (ByteArray × ByteArray)} {o : Nat}, AsAt w b o al → ∀ i (h : i < al.length), w.cell? ⟨b, o + i * 2, none⟩ = some (.string al[i].1) ∧ w.cell? ⟨b, o + i * 2 + 1, none⟩ = some (.string al[i].2) ∧ al[i].1.size ≤ maxLen ∧ al[i].2.size ≤ maxLen
  | x :: r, o, ⟨h1, h2, h3, h4, h5⟩, 0, _ => ⟨by simpa using h1, by simpa using h2, h3, h4⟩
  | x :: r, o, ⟨h1, h2, h3, h4, h5⟩, i + 1, h => by
    have := AsAt.get h5 i (by simpa using h)
    rw [show o + (i + 1) * 2 = o + 2 + i * 2 by omega]
    simpa using this
theorem below_drewN {B : Nat} {w w' : World} (h : Below B w w') (n : Nat) : Below B w (w'.drewN n) := by
  induction n with
  | zero => exact h
  | succ n ih => exact ih.drew
/-- a right attribute, by itself -/
def AttrIs (x : ByteArray × ByteArray) : Prop := namedB small tagB x.1 = true ∧ x.2.size ≤ 40
/-- right up to place k -/
def AlTo (al : List (ByteArray × ByteArray)) (k : Nat) : Prop := ∀ i (h : i < al.length), i < k → AttrIs al[i] ∧ ∀ j (hj : j < i), al[j].1 ≠ al[i].1
def AlOK (al : List (ByteArray × ByteArray)) : Prop := al.length ≤ 6 ∧ AlTo al al.length
open Classical in
noncomputable def alB (al : List (ByteArray × ByteArray)) : Bool := decide (AlOK al)
theorem alB_true {al : List (ByteArray × ByteArray)} (h : AlOK al) : true = alB al := by simp [alB, h]
theorem alB_false {al : List (ByteArray × ByteArray)} (h : ¬ AlOK al) : false = alB al := by simp [alB, h]
theorem l03Attrs_any (al : List (ByteArray × ByteArray)) (w : World) (A : Option Addr) (c b o lo hi : Nat) (hA : RowAt lo hi A al.length b o) (hh : hi ≤ w.heap.size) (hal : AsAt w b o al) :
    Calls Tryz.prog 187 #[.slice A al.length c] w fun e w' => e = .returned (.bool (alB al)) ∧ Below w.heap.size w w' := by
  have hlen := hA.1
  unfold maxLen at hlen
  by_cases h6 : al.length ≤ 6
  · have HA := Lib.hid hA
    have HS := Lib.hid hal.get
    have HAL := Lib.hid hal
    clear hA hal
    go_enter Tryz.func187, Tryz.ntmps187
    go_wp2
    go_loopw [3] (fun i wr => ∃ (k : Nat), i = .int .i64 (k : Int) ∧ k ≤ al.length ∧ Hid (AlTo al k ∧ Below w.heap.size w wr)) (fun i wr => al.length - (intOf i).toNat)
    case atStart => exact ⟨0, rfl, Nat.zero_le _, Lib.hid ⟨fun i _ h => absurd h (Nat.not_lt_zero _), Below.refl _ _⟩⟩
    case round =>
      obtain ⟨k, rfl, hk, HH⟩ := hrel
      by_cases hlt : k < al.length
      · obtain ⟨rfl, hlo, hhi⟩ := HA.out.2 (by omega)
        have hB := HH.out.2
        obtain ⟨s1, s2, s3, s4⟩ := HS.out k hlt
        have t1 := (hB.cell (p := ⟨b, o + k * 2, none⟩) (by show b < _; omega)).trans s1
        have t2 := (hB.cell (p := ⟨b, o + k * 2 + 1, none⟩) (by show b < _; omega)).trans s2
        have HB := Lib.hid hB
        clear hB s1 s2
        generalize hx : al[k] = x at *
        obtain ⟨n, v⟩ := x
        simp only at t1 t2 s3 s4
        have HX := Lib.hid hx
        clear hx
        by_cases hn : namedB small tagB n = true
        · by_cases hv : v.size ≤ 40
          · go_wp2_with (go_at_call 163; go_loud (refine (l01Tag_any n _ s3).mono ?_; rintro e w' ⟨rfl, rfl⟩; rw [hn]))
            go_loopw [4] (fun j wq => ∃ (m : Nat), j = .int .i64 (m : Int) ∧ m ≤ k ∧ Hid ((∀ j (hj : j < m) (hj' : j < al.length), al[j].1 ≠ n) ∧ Below w.heap.size w wq)) (fun j wq => k - (intOf j).toNat)
            case atStart => exact ⟨0, rfl, Nat.zero_le _, Lib.hid ⟨fun j hj => absurd hj (Nat.not_lt_zero _), HB.out⟩⟩
            case round =>
              obtain ⟨m, rfl, hm, HM⟩ := hrel
              by_cases hmk : m < k
              · obtain ⟨q1, _, q3, _⟩ := HS.out m (by omega)
                have hQ := HM.out.2
                have p1 := (hQ.cell (p := ⟨b, o + m * 2, none⟩) (by show b < _; omega)).trans q1
                obtain ⟨r1, _, _, _⟩ := HS.out k hlt
                have p2 := (hQ.cell (p := ⟨b, o + k * 2, none⟩) (by show b < _; omega)).trans r1
                rw [HX.out] at p2
                simp only at p2
                generalize hy : al[m].1 = y at *
                have HQ := Lib.hid hQ
                have HY := Lib.hid hy
                clear hQ q1 r1 hy
                by_cases he : y = n
                · subst he
                  go_wp2
                  go_quiet (fail)
                  go_wp2
                  go_ret
                  exact ⟨ret_bool (alB_false fun h => (h.2 k hlt hlt).2 m hmk (by rw [HX.out, HY.out])), below_drewN HQ.out _⟩
                · have he' := str_ne he
                  go_wp2
                  go_quiet (fail)
                  go_wp2
                  go_roundw
                  case rel => exact ⟨m + 1, by go_num, by omega, Lib.hid ⟨fun j hj hj' => by
                    by_cases e : j = m
                    · subst e; rw [HY.out]; exact he
                    · exact HM.out.1 j (by omega) hj', below_drewN HQ.out _⟩⟩
                  case measure => simp [intOf]; omega
              · obtain rfl : m = k := by omega
                go_wp2
                go_roundw
                case rel => exact ⟨m + 1, by go_num, by omega, Lib.hid ⟨fun i hi hik => by
                  by_cases e : i = m
                  · subst e; rw [HX.out]; exact ⟨⟨hn, hv⟩, fun j hj => HM.out.1 j hj (by omega)⟩
                  · exact HH.out.1 i hi (by omega), HM.out.2⟩⟩
                case measure => simp [intOf]; omega
          · go_wp2_with (go_at_call 163; go_loud (refine (l01Tag_any n _ s3).mono ?_; rintro e w' ⟨rfl, rfl⟩; rw [hn]))
            go_ret
            exact ⟨ret_bool (alB_false fun h => hv (by have := (h.2 k hlt hlt).1.2; rw [HX.out] at this; exact this)), HB.out⟩
        · go_wp2_with (go_at_call 163; go_loud (refine (l01Tag_any n _ s3).mono ?_; rintro e w' ⟨rfl, rfl⟩; rw [Bool.eq_false_iff.2 hn]))
          go_ret
          exact ⟨ret_bool (alB_false fun h => hn (by have := (h.2 k hlt hlt).1.1; rw [HX.out] at this; exact this)), HB.out⟩
      · obtain rfl : k = al.length := by omega
        go_wp2
        go_ret
        exact ⟨ret_bool (alB_true ⟨h6, HH.out.1⟩), HH.out.2⟩
  · clear hal hA
    go_enter Tryz.func187, Tryz.ntmps187
    go_wp2
    go_ret
    exact ⟨ret_bool (alB_false fun h => h6 h.1), Below.refl _ _⟩
end Go.Proofs.YthdkkpbhijlpaaaGreat
namespace Go.Proofs.YthdkkpbhijlpaaaGreat
open Go.ChangeShapes Go.WideShapes Go.ChangeAt Go.RowKit Go.Deep

/-- a node, but for its kids -/
structure Nd where
  k : Int
  sp : Int
  n : ByteArray
  t : ByteArray
  al : List (ByteArray × ByteArray)
def WordsIs (x : Nd) : Prop := x.t.size ≤ 120 ∧ x.sp = 0 ∧ x.n.size = 0 ∧ x.al.length = 0
def ElemIs (x : Nd) : Prop := namedB small tagB x.n = true ∧ 0 ≤ x.sp ∧ x.sp ≤ 2 ∧ x.t.size = 0 ∧ AlOK x.al
def NodeIs (x : Nd) : Prop := (x.k = 1 ∧ ElemIs x) ∨ (x.k = 2 ∧ 0 < x.t.size ∧ WordsIs x) ∨ (x.k = 3 ∧ WordsIs x)
/-- a raw element -/
def RawN (x : Nd) : Prop := x.sp = 0 ∧ inL rawL x.n = true
def VoidN (x : Nd) : Prop := x.sp = 0 ∧ inL voidL x.n = true
/-- what a parent, if there is one, may hold -/
def MayHold : List Nd → Int → Prop
  | [], _ => True
  | p :: _, k => (RawN p → k = 2) ∧ (¬ RawN p → p.k = 1 ∧ ¬ VoidN p)
def Fine : List Nd → Fo → Prop
  | _, .nil => True
  | ch, .cons k sp n t al kids rest => NodeIs ⟨k, sp, n, t, al⟩ ∧ MayHold ch k ∧ Fine (⟨k, sp, n, t, al⟩ :: ch) kids ∧ Fine ch rest
def Fo.deep : Fo → Nat
  | .nil => 0
  | .cons _ _ _ _ _ kids rest => max (1 + kids.deep) rest.deep
def Good (F : Fo) : Prop := F.nodes ≤ 60 ∧ F.deep ≤ 10 ∧ Fine [] F
open Classical in
noncomputable def goodB (F : Fo) : Bool := decide (Good F)
theorem goodB_true {F : Fo} (h : Good F) : goodB F = true := by simp [goodB, h]
theorem Fo.len_le_nodes : ∀ F : Fo, F.len ≤ F.nodes
  | .nil => Nat.le_refl _
  | .cons _ _ _ _ _ kids rest => by have := Fo.len_le_nodes rest; simp [Fo.len, Fo.nodes]; omega
/-- the whole walk over a forest, ahead of its kids each node, with those that it lies within -/
def trav {σ : Type} (st : σ → List Nd → σ × Bool) : Fo → List Nd → σ → σ × Bool
  | .nil, _, s => (s, true)
  | .cons k sp n t al kids rest, ch, s =>
    if (st s (⟨k, sp, n, t, al⟩ :: ch)).2 then
      if (trav st kids (⟨k, sp, n, t, al⟩ :: ch) (st s (⟨k, sp, n, t, al⟩ :: ch)).1).2 then trav st rest ch (trav st kids (⟨k, sp, n, t, al⟩ :: ch) (st s (⟨k, sp, n, t, al⟩ :: ch)).1).1
      else ((trav st kids (⟨k, sp, n, t, al⟩ :: ch) (st s (⟨k, sp, n, t, al⟩ :: ch)).1).1, false)
    else ((st s (⟨k, sp, n, t, al⟩ :: ch)).1, false)
/-- each state that the walk comes to is one that the visitor can go on from -/
def travP {σ : Type} (ok : σ → List Nd → Prop) (st : σ → List Nd → σ × Bool) : Fo → List Nd → σ → Prop
  | .nil, _, _ => True
  | .cons k sp n t al kids rest, ch, s => ok s (⟨k, sp, n, t, al⟩ :: ch) ∧ ((st s (⟨k, sp, n, t, al⟩ :: ch)).2 = true →
      travP ok st kids (⟨k, sp, n, t, al⟩ :: ch) (st s (⟨k, sp, n, t, al⟩ :: ch)).1 ∧
      ((trav st kids (⟨k, sp, n, t, al⟩ :: ch) (st s (⟨k, sp, n, t, al⟩ :: ch)).1).2 = true → travP ok st rest ch (trav st kids (⟨k, sp, n, t, al⟩ :: ch) (st s (⟨k, sp, n, t, al⟩ :: ch)).1).1))
def always {σ : Type} (_ : σ) (_ : List Nd) : Prop := True
/-- a node, its place beside the others, and its kids -/
abbrev NP := Nd × Nat × Fo
/-- the walk over a forest whose first node has place j -/
def trav2 {σ : Type} (st : σ → List NP → σ × Bool) : Fo → List NP → Nat → σ → σ × Bool
  | .nil, _, _, s => (s, true)
  | .cons k sp n t al kids rest, ch, j, s =>
    if (st s ((⟨k, sp, n, t, al⟩, j, kids) :: ch)).2 then
      if (trav2 st kids ((⟨k, sp, n, t, al⟩, j, kids) :: ch) 0 (st s ((⟨k, sp, n, t, al⟩, j, kids) :: ch)).1).2 then trav2 st rest ch (j + 1) (trav2 st kids ((⟨k, sp, n, t, al⟩, j, kids) :: ch) 0 (st s ((⟨k, sp, n, t, al⟩, j, kids) :: ch)).1).1
      else ((trav2 st kids ((⟨k, sp, n, t, al⟩, j, kids) :: ch) 0 (st s ((⟨k, sp, n, t, al⟩, j, kids) :: ch)).1).1, false)
    else ((st s ((⟨k, sp, n, t, al⟩, j, kids) :: ch)).1, false)
def travP2 {σ : Type} (ok : σ → List NP → Prop) (st : σ → List NP → σ × Bool) : Fo → List NP → Nat → σ → Prop
  | .nil, _, _, _ => True
  | .cons k sp n t al kids rest, ch, j, s => ok s ((⟨k, sp, n, t, al⟩, j, kids) :: ch) ∧ ((st s ((⟨k, sp, n, t, al⟩, j, kids) :: ch)).2 = true →
      travP2 ok st kids ((⟨k, sp, n, t, al⟩, j, kids) :: ch) 0 (st s ((⟨k, sp, n, t, al⟩, j, kids) :: ch)).1 ∧
      ((trav2 st kids ((⟨k, sp, n, t, al⟩, j, kids) :: ch) 0 (st s ((⟨k, sp, n, t, al⟩, j, kids) :: ch)).1).2 = true → travP2 ok st rest ch (j + 1) (trav2 st kids ((⟨k, sp, n, t, al⟩, j, kids) :: ch) 0 (st s ((⟨k, sp, n, t, al⟩, j, kids) :: ch)).1).1))
/-- a visitor that asks no places -/
def bare {σ α : Type} (f : σ → List Nd → α) : σ → List NP → α := fun s ch => f s (ch.map Prod.fst)
theorem trav2_bare {σ : Type} (st : σ → List Nd → σ × Bool) : ∀ (F : Fo) (ch : List NP) (j : Nat) (s : σ), trav2 (bare st) F ch j s = trav st F (ch.map Prod.fst) s
  | .nil, _, _, _ => rfl
  | .cons k sp n t al kids rest, ch, j, s => by
    simp only [trav2, trav, trav2_bare st kids, trav2_bare st rest, List.map_cons]
    rfl
theorem travP2_bare {σ : Type} (ok : σ → List Nd → Prop) (st : σ → List Nd → σ × Bool) : ∀ (F : Fo) (ch : List NP) (j : Nat) (s : σ), travP2 (bare ok) (bare st) F ch j s ↔ travP ok st F (ch.map Prod.fst) s
  | .nil, _, _, _ => Iff.rfl
  | .cons k sp n t al kids rest, ch, j, s => by
    simp only [travP2, travP, trav2_bare, travP2_bare ok st kids, travP2_bare ok st rest, List.map_cons]
    exact Iff.rfl
theorem travP_always {σ : Type} (st : σ → List Nd → σ × Bool) : ∀ (F : Fo) (ch : List Nd) (s : σ), travP always st F ch s
  | .nil, _, _ => trivial
  | .cons _ _ _ _ _ kids rest, _, _ => ⟨trivial, fun _ => ⟨travP_always st kids _ _, fun _ => travP_always st rest _ _⟩⟩
/-- the next number, as Go counts -/
def nextI (c : Int) : Int := IntKind.i64.wrap (c + 1)
theorem nextI_nat {c : Nat} (h : c ≤ 1048576) : nextI (c : Int) = ((c + 1 : Nat) : Int) := by
  unfold nextI; exact IntWalk.i64_in _ (by omega)
/-- the visitor that tells whether a tree is right -/
def OkAt (c : Int) : List Nd → Prop
  | [] => True
  | x :: ch => nextI c ≤ 60 ∧ ch.length + 1 ≤ 10 ∧ NodeIs x ∧ MayHold ch x.k
open Classical in
noncomputable def okB (c : Int) (ch : List Nd) : Bool := decide (OkAt c ch)
noncomputable def stOK (c : Int) (ch : List Nd) : Int × Bool := (nextI c, okB c ch)
theorem trav_ok : ∀ (F : Fo) (ch : List Nd) (c : Nat), c ≤ 60 → ch.length ≤ 10 →
    ((trav stOK F ch (c : Int)).2 = true ↔ c + F.nodes ≤ 60 ∧ ch.length + F.deep ≤ 10 ∧ Fine ch F) ∧ ((trav stOK F ch (c : Int)).2 = true → (trav stOK F ch (c : Int)).1 = ((c + F.nodes : Nat) : Int))
  | .nil, ch, c, hc, hch => by simp [trav, Fo.nodes, Fo.deep, Fine, hc, hch]
  | .cons k sp n t al kids rest, ch, c, hc, hch => by
    rw [trav]
    have hn := nextI_nat (c := c) (by omega)
    by_cases h1 : OkAt c (⟨k, sp, n, t, al⟩ :: ch)
    · have e1 : (stOK c (⟨k, sp, n, t, al⟩ :: ch)).2 = true := by simp [stOK, okB, h1]
      have e2 : (stOK c (⟨k, sp, n, t, al⟩ :: ch)).1 = ((c + 1 : Nat) : Int) := hn
      rw [if_pos e1, e2]
      obtain ⟨a1, a2, a3, a4⟩ := h1
      rw [hn] at a1
      obtain ⟨i1, i2⟩ := trav_ok kids (⟨k, sp, n, t, al⟩ :: ch) (c + 1) (by omega) (by simp; omega)
      by_cases h2 : (trav stOK kids (⟨k, sp, n, t, al⟩ :: ch) ((c + 1 : Nat) : Int)).2 = true
      · rw [if_pos h2, i2 h2]
        obtain ⟨b1, b2, b3⟩ := i1.1 h2
        simp at b2
        obtain ⟨j1, j2⟩ := trav_ok rest ch (c + 1 + kids.nodes) (by omega) hch
        refine ⟨?_, fun h => by rw [j2 h]; simp [Fo.nodes]; omega⟩
        rw [j1]
        simp only [Fo.nodes, Fo.deep, Fine]
        constructor
        · rintro ⟨x1, x2, x3⟩; exact ⟨by omega, by omega, a3, a4, b3, x3⟩
        · rintro ⟨x1, x2, _, _, _, x3⟩; exact ⟨by omega, by omega, x3⟩
      · rw [if_neg h2]
        refine ⟨⟨fun h => by simp at h, fun h => ?_⟩, fun h => by simp at h⟩
        exfalso
        apply h2
        rw [i1]
        simp only [Fo.nodes, Fo.deep, Fine] at h
        obtain ⟨x1, x2, _, _, x3, _⟩ := h
        exact ⟨by omega, by simp; omega, x3⟩
    · have e1 : ¬ (stOK c (⟨k, sp, n, t, al⟩ :: ch)).2 = true := by simp [stOK, okB, h1]
      rw [if_neg e1]
      refine ⟨⟨fun h => by simp at h, fun h => ?_⟩, fun h => by simp at h⟩
      exfalso
      apply h1
      simp only [Fo.nodes, Fo.deep, Fine] at h
      obtain ⟨x1, x2, x3, x4, _, _⟩ := h
      exact ⟨by rw [hn]; omega, by omega, x3, x4⟩
theorem trav_good (F : Fo) : (trav stOK F [] 0).2 = goodB F := by
  obtain ⟨h, _⟩ := trav_ok F [] 0 (by omega) (by simp)
  rw [Bool.eq_iff_iff]
  refine Iff.trans h ?_
  exact ⟨fun g => goodB_true ⟨by omega, by simpa using g.2.1, g.2.2⟩, fun g => (fun ⟨a, b, c⟩ => ⟨by omega, by simpa using b, c⟩) (show Good F by simpa [goodB] using g)⟩
theorem Fo.nodes_le : ∀ F : Fo, F.nodes ≤ F.len + F.size
  | .nil => Nat.le_refl _
  | .cons _ _ _ _ _ kids rest => by have := Fo.nodes_le kids; have := Fo.nodes_le rest; simp [Fo.len, Fo.nodes, Fo.size]; omega
/-! ### as the model looks at it: a node with its kids -/
/-- all that stand side by side are of kind 2 -/
def Fo.texts : Fo → Prop
  | .nil => True
  | .cons k _ _ _ _ _ rest => k = 2 ∧ rest.texts
/-- what the kids of such a node are -/
def KidsIs (x : Nd) (kids : Fo) : Prop := (x.k ≠ 1 → kids.len = 0) ∧ (x.k = 1 → x.sp = 0 → (inL voidL x.n = true → kids.len = 0) ∧ (inL voidL x.n = false → inL rawL x.n = true → kids.texts))
def SFine : Fo → Prop
  | .nil => True
  | .cons k sp n t al kids rest => NodeIs ⟨k, sp, n, t, al⟩ ∧ KidsIs ⟨k, sp, n, t, al⟩ kids ∧ SFine kids ∧ SFine rest
def AllMay (ch : List Nd) : Fo → Prop
  | .nil => True
  | .cons k _ _ _ _ _ rest => MayHold ch k ∧ AllMay ch rest
theorem raw_not_void {s : ByteArray} (h : inL rawL s = true) : inL voidL s = false := by
  rw [inL, List.any_eq_true] at h
  obtain ⟨l, hl, he⟩ := h
  rw [beq_iff_eq] at he
  rw [inL, ← he]
  simp [rawL] at hl
  rcases hl with rfl | rfl | rfl | rfl <;> decide
theorem raw_empty {s : ByteArray} (h : s.size = 0) : inL rawL s = false := by
  have : s.toList = [] := is_nil (by omega)
  rw [inL, this]; decide
theorem all_texts (ch : List Nd) (x : Nd) (h : RawN x) : ∀ F : Fo, AllMay (x :: ch) F ↔ F.texts
  | .nil => by simp [AllMay, Fo.texts]
  | .cons k sp n t al kids rest => by
    simp only [AllMay, Fo.texts, all_texts ch x h rest, MayHold]
    exact ⟨fun ⟨⟨a, _⟩, b⟩ => ⟨a h, b⟩, fun ⟨a, b⟩ => ⟨⟨fun _ => a, fun n => absurd h n⟩, b⟩⟩
theorem all_free (ch : List Nd) (x : Nd) (h : ¬ RawN x) (h1 : x.k = 1) (h2 : ¬ VoidN x) : ∀ F : Fo, AllMay (x :: ch) F
  | .nil => trivial
  | .cons _ _ _ _ _ _ rest => ⟨⟨fun r => absurd r h, fun _ => ⟨h1, h2⟩⟩, all_free ch x h h1 h2 rest⟩
theorem all_none (ch : List Nd) (x : Nd) (h : ¬ RawN x) (h1 : ¬ (x.k = 1 ∧ ¬ VoidN x)) : ∀ F : Fo, AllMay (x :: ch) F ↔ F.len = 0
  | .nil => by simp [AllMay, Fo.len]
  | .cons k sp n t al kids rest => by
    simp only [AllMay, Fo.len, MayHold]
    exact ⟨fun ⟨⟨_, a⟩, _⟩ => absurd (a h) h1, fun e => by omega⟩
theorem all_kids (ch : List Nd) (x : Nd) (hx : NodeIs x) (F : Fo) : AllMay (x :: ch) F ↔ KidsIs x F := by
  by_cases hr : RawN x
  · rw [all_texts ch x hr]
    obtain ⟨r1, r2⟩ := hr
    have hk : x.k = 1 := by
      rcases hx with ⟨h, _⟩ | ⟨_, _, h⟩ | ⟨_, h⟩
      · exact h
      · have := raw_empty h.2.2.1; simp [this] at r2
      · have := raw_empty h.2.2.1; simp [this] at r2
    have hv := raw_not_void r2
    exact ⟨fun h => ⟨fun n => absurd hk n, fun _ _ => ⟨fun v => by simp [hv] at v, fun _ _ => h⟩⟩, fun h => (h.2 hk r1).2 hv r2⟩
  · by_cases he : x.k = 1 ∧ ¬ VoidN x
    · obtain ⟨h1, h2⟩ := he
      refine ⟨fun _ => ⟨fun n => absurd h1 n, fun _ s => ⟨fun v => absurd ⟨s, v⟩ h2, fun _ r => absurd ⟨s, r⟩ hr⟩⟩, fun _ => all_free ch x hr h1 h2 F⟩
    · rw [all_none ch x hr he]
      constructor
      · intro h
        refine ⟨fun _ => h, fun _ s => ⟨fun _ => h, fun _ r => absurd ⟨s, r⟩ hr⟩⟩
      · rintro ⟨h1, h2⟩
        by_cases hk : x.k = 1
        · have hv : VoidN x := Classical.byContradiction fun n => he ⟨hk, n⟩
          exact (h2 hk hv.1).1 hv.2
        · exact h1 hk
theorem fine_iff : ∀ (F : Fo) (ch : List Nd), Fine ch F ↔ AllMay ch F ∧ SFine F
  | .nil, _ => by simp [Fine, AllMay, SFine]
  | .cons k sp n t al kids rest, ch => by
    simp only [Fine, AllMay, SFine, fine_iff kids, fine_iff rest]
    constructor
    · rintro ⟨a, b, ⟨c, d⟩, e, f⟩; exact ⟨⟨b, e⟩, a, (all_kids ch _ a kids).1 c, d, f⟩
    · rintro ⟨⟨b, e⟩, a, c, d, f⟩; exact ⟨a, b, ⟨(all_kids ch _ a kids).2 c, d⟩, e, f⟩
theorem all_top : ∀ F : Fo, AllMay [] F
  | .nil => trivial
  | .cons _ _ _ _ _ _ rest => ⟨trivial, all_top rest⟩
theorem fine_top (F : Fo) : Fine [] F ↔ SFine F := by rw [fine_iff]; exact ⟨fun h => h.2, fun h => ⟨all_top F, h⟩⟩
/-- right at a depth that is left -/
def GoodAt (d : Nat) (F : Fo) : Prop := F.nodes ≤ 60 ∧ F.deep ≤ d ∧ SFine F
theorem good_at (F : Fo) : Good F ↔ GoodAt 10 F := by simp [Good, GoodAt, fine_top]
end Go.Proofs.YthdkkpbhijlpaaaGreat
