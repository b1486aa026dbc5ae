import Derived.Test.YthdkkpbhijlpaaaGreatQ28
import Derived.Test.YthdkkpbhijlpaaaGreatQ29
set_option linter.unusedVariables false
namespace Go.Proofs.YthdkkpbhijlpaaaGreat
open Go.ChangeShapes Go.WideShapes Go.ChangeAt Go.RowKit Go.Deep

/-- a row of its own comes back -/
def RowOut (G : Fo) (w : World) (e : Ending) (w' : World) : Prop := ∃ v bl, e = .returned v ∧ Below w.heap.size w w' ∧ GRow w' w.heap.size v G bl
def MakesOK (f : FuncId) (G : Fo → Fo) (F : Fo) : Prop := ∀ (w : World) (A : Option Addr) (c b o lo hi : Nat), F.small → F.len ≤ 1048576 → RowAt lo hi A F.len b o → hi ≤ w.heap.size → FoAt w lo hi b o F →
    Calls Tryz.prog f #[.slice A F.len c] w (RowOut (G F) w)
/-- a copied row of attributes, behind block g -/
def Cp (g : Nat) (w : World) (A : Option Addr) (ca : Nat) (al : List (ByteArray × ByteArray)) (ba : List Nat) : Prop := (al.length ≤ ca ∧ al.length ≤ maxLen ∧ AlRow w A al ba) ∧ ba.Nodup ∧ ∀ k ∈ ba, g < k ∧ k < w.heap.size
theorem Cp.of {g base : Nat} {w : World} {v : Value} {al : List (ByteArray × ByteArray)} (h : w.ownsRow base 121 2 v al.length (alVals al)) (hs : ∀ x ∈ al, x.1.size ≤ maxLen ∧ x.2.size ≤ maxLen) (hl : al.length ≤ maxLen) (hg : g < base) : ∃ A ca ba, v = .slice A al.length ca ∧ Cp g w A ca al ba := by
  obtain ⟨A, ca, ba, h1, h2, h3, h4, h5, _⟩ := arow_form h hs
  exact ⟨A, ca, ba, h1, ⟨h2, hl, h3⟩, h4, fun k hk => ⟨by have := (h5 k hk).1; omega, (h5 k hk).2⟩⟩
theorem Cp.next {g : Nat} {w w' : World} {A : Option Addr} {ca : Nat} {al : List (ByteArray × ByteArray)} {ba : List Nat} (h : Cp g w A ca al ba) (hB : Below w.heap.size w w') : Cp g w' A ca al ba :=
  ⟨⟨h.1.1, h.1.2.1, h.1.2.2.same fun k hk => hB.block k (h.2.2 k hk).2⟩, h.2.1, fun k hk => ⟨(h.2.2 k hk).1, Nat.lt_of_lt_of_le (h.2.2 k hk).2 hB.size⟩⟩
/-- a copied row of nodes, from M on -/
def Kp (M : Nat) (w : World) (K : Option Addr) (ck : Nat) (F : Fo) (bk : List Nat) : Prop := (F.len ≤ ck ∧ F.len ≤ maxLen ∧ KRow w K F bk) ∧ bk.Nodup ∧ ∀ k ∈ bk, M ≤ k ∧ k < w.heap.size
theorem Kp.of {M : Nat} {w : World} {v : Value} {F : Fo} {bl : List Nat} (h : GRow w M v F bl) (hm : F.len ≤ maxLen) : ∃ K ck bk, v = .slice K F.len ck ∧ Kp M w K ck F bk := by
  obtain ⟨K, ck, bk, h1, h2, h3, h4, h5⟩ := h.form
  exact ⟨K, ck, bk, h1, ⟨h2, hm, h3⟩, h4, h5⟩
theorem Kp.set {M g : Nat} {w : World} {K : Option Addr} {ck : Nat} {F : Fo} {bk : List Nat} (h : Kp M w K ck F bk) (hg : g < M) (j : Nat) (u : Value) : Kp M (w.setCell ⟨g, j, none⟩ u) K ck F bk :=
  ⟨⟨h.1.1, h.1.2.1, h.1.2.2.same fun k hk => Below.heap_setCell _ _ _ _ (by have := (h.2.2 k hk).1; show k ≠ g; omega)⟩, h.2.1, fun k hk => by rw [World.size_setCell]; exact h.2.2 k hk⟩
theorem lay6 {w : World} {g : Nat} {v0 v1 v2 v3 v4 v5 : Value} (h : Lay w g #[v0, v1, v2, v3, v4, v5]) : w.cell? ⟨g, 0, none⟩ = some v0 ∧ w.cell? ⟨g, 1, none⟩ = some v1 ∧ w.cell? ⟨g, 2, none⟩ = some v2 ∧ w.cell? ⟨g, 3, none⟩ = some v3 ∧ w.cell? ⟨g, 4, none⟩ = some v4 ∧ w.cell? ⟨g, 5, none⟩ = some v5 :=
  ⟨h.1 0, h.1 1, h.1 2, h.1 3, h.1 4, h.1 5⟩
end Go.Proofs.YthdkkpbhijlpaaaGreat
namespace Go.Proofs.YthdkkpbhijlpaaaGreat
open Go.ChangeShapes Go.WideShapes Go.ChangeAt Go.RowKit Go.Deep

/-- a row of one node, out of a literal -/
theorem GRow.litN {w : World} {base : Nat} {k sp : Int} {n t : ByteArray} {al : List (ByteArray × ByteArray)} {kids : Fo} {A K : Option Addr} {ca ck : Nat} {ba bk : List Nat} (hb : base ≤ w.heap.size) (hz : n.size ≤ maxLen ∧ t.size ≤ maxLen)
    (h4 : al.length ≤ ca ∧ al.length ≤ maxLen ∧ AlRow w A al ba) (h5 : kids.len ≤ ck ∧ kids.len ≤ maxLen ∧ KRow w K kids bk) (hn : (ba ++ bk).Nodup) (hl : ∀ q ∈ ba ++ bk, base ≤ q ∧ q < w.heap.size) :
    GRow (w.alloc (.cells #[.int .i64 k, .int .i64 sp, .string n, .string t, .slice A al.length ca, .slice K kids.len ck] 71)) base (.slice (some ⟨w.heap.size, 0, none⟩) 1 1) (.one k sp n t al kids) (ba ++ bk) := by
  have hk : ∀ q ∈ ba ++ bk, (w.alloc (.cells #[.int .i64 k, .int .i64 sp, .string n, .string t, .slice A al.length ca, .slice K kids.len ck] 71)).heap[q]? = w.heap[q]? := fun q hq => Below.heap_alloc w _ q (hl q hq).2
  refine ⟨_, World.ownsRow_lit w _ 1 hb (by decide) rfl, FoVals.same (F := .one k sp n t al kids) ⟨A, K, ca, ck, ba, bk, [], [], rfl, by simp, hz, h4, h5, rfl, rfl⟩ hk, hn, fun q hq => ⟨(hl q hq).1, by have := (hl q hq).2; simp; omega⟩, fun q hq hm => ?_⟩
  injection hq with hq
  subst hq
  exact absurd (hl _ hm).2 (Nat.lt_irrefl _)
set_option maxHeartbeats 4000000 in
set_option maxRecDepth 100000 in
theorem l08Node_text (X : Cf) (V : CfV) (sp : Int) (n t : ByteArray) (al : List (ByteArray × ByteArray)) (kids : Fo) (ca ck : Nat) (A K : Option Addr) (w : World) (ht : t.size ≤ maxLen) :
    Calls Tryz.prog 72 #[.agg #[.bool X.ha, .bool X.hb, .slice V.a1 X.al.length V.c1, .slice V.a2 X.rm.length V.c2, .slice V.a3 X.uw.length V.c3, .slice V.a4 X.at_.length V.c4, .slice V.a5 X.dp.length V.c5, .bool X.cm, .bool X.da], .agg #[.int .i64 2, .int .i64 sp, .string n, .string t, .slice A al.length ca, .slice K kids.len ck]] w (RowOut (.one 2 0 ⟨#[]⟩ t [] .nil) w) := by
  go_enter Tryz.func72, Tryz.ntmps72
  go_wp2
  go_ret
  have hg := GRow.litN (w := ((((w.alloc (.cells #[.bool X.ha, .bool X.hb, .slice V.a1 X.al.length V.c1, .slice V.a2 X.rm.length V.c2, .slice V.a3 X.uw.length V.c3, .slice V.a4 X.at_.length V.c4, .slice V.a5 X.dp.length V.c5, .bool X.cm, .bool X.da] 35)).alloc (.cells #[.int .i64 2, .int .i64 sp, .string n, .string t, .slice A al.length ca, .slice K kids.len ck] 71)).alloc (.cells #[] 121)).alloc (.cells #[] 71))) (base := w.heap.size) (k := 2) (sp := 0) (n := ⟨#[]⟩) (t := t) (al := []) (kids := .nil) (A := some ⟨w.heap.size + 1 + 1, 0, none⟩) (K := some ⟨w.heap.size + 1 + 1 + 1, 0, none⟩) (ca := 0) (ck := 0) (ba := []) (bk := []) (by simp; omega) ⟨Nat.zero_le _, ht⟩ ⟨Nat.le_refl _, Nat.zero_le _, Or.inl ⟨rfl, rfl⟩⟩ ⟨Nat.le_refl _, Nat.zero_le _, Or.inl ⟨rfl, rfl⟩⟩ List.nodup_nil (by simp)
  rw [show ((((w.alloc (.cells #[.bool X.ha, .bool X.hb, .slice V.a1 X.al.length V.c1, .slice V.a2 X.rm.length V.c2, .slice V.a3 X.uw.length V.c3, .slice V.a4 X.at_.length V.c4, .slice V.a5 X.dp.length V.c5, .bool X.cm, .bool X.da] 35)).alloc (.cells #[.int .i64 2, .int .i64 sp, .string n, .string t, .slice A al.length ca, .slice K kids.len ck] 71)).alloc (.cells #[] 121)).alloc (.cells #[] 71)).heap.size = w.heap.size + 1 + 1 + 1 + 1 by simp] at hg
  exact ⟨_, [], rfl, (((((Below.refl w.heap.size w).alloc (Nat.le_refl _) _).alloc (by simp) _).alloc (by simp; omega) _).alloc (by simp; omega) _).alloc (by simp; omega) _, hg⟩
set_option maxHeartbeats 4000000 in
set_option maxRecDepth 100000 in
theorem l08Node_com (X : Cf) (V : CfV) (sp : Int) (n t : ByteArray) (al : List (ByteArray × ByteArray)) (kids : Fo) (ca ck : Nat) (A K : Option Addr) (w : World) (ht2 : t.size ≤ 65536) :
    Calls Tryz.prog 72 #[.agg #[.bool X.ha, .bool X.hb, .slice V.a1 X.al.length V.c1, .slice V.a2 X.rm.length V.c2, .slice V.a3 X.uw.length V.c3, .slice V.a4 X.at_.length V.c4, .slice V.a5 X.dp.length V.c5, .bool X.cm, .bool X.da], .agg #[.int .i64 3, .int .i64 sp, .string n, .string t, .slice A al.length ca, .slice K kids.len ck]] w (RowOut (if (X.cm && commentIn t) = true then .one 3 0 ⟨#[]⟩ t [] .nil else .nil) w) := by
  have ht : t.size ≤ maxLen := by unfold maxLen; omega
  cases hc : X.cm with
  | false =>
    rw [show (false && commentIn t) = false from rfl, if_neg (by simp)]
    go_enter Tryz.func72, Tryz.ntmps72
    go_wp2
    go_ret
    have hg := GRow.lit (w := ((w.alloc (.cells #[.bool X.ha, .bool X.hb, .slice V.a1 X.al.length V.c1, .slice V.a2 X.rm.length V.c2, .slice V.a3 X.uw.length V.c3, .slice V.a4 X.at_.length V.c4, .slice V.a5 X.dp.length V.c5, .bool false, .bool X.da] 35)).alloc (.cells #[.int .i64 3, .int .i64 sp, .string n, .string t, .slice A al.length ca, .slice K kids.len ck] 71))) (base := w.heap.size) (by rw [World.size_alloc, World.size_alloc]; omega)
    rw [show ((w.alloc (.cells #[.bool X.ha, .bool X.hb, .slice V.a1 X.al.length V.c1, .slice V.a2 X.rm.length V.c2, .slice V.a3 X.uw.length V.c3, .slice V.a4 X.at_.length V.c4, .slice V.a5 X.dp.length V.c5, .bool false, .bool X.da] 35)).alloc (.cells #[.int .i64 3, .int .i64 sp, .string n, .string t, .slice A al.length ca, .slice K kids.len ck] 71)).heap.size = w.heap.size + 1 + 1 by simp] at hg
    exact ⟨_, [], rfl, (((Below.refl w.heap.size w).alloc (Nat.le_refl _) _).alloc (by simp) _).alloc (by simp; omega) _, hg⟩
  | true =>
    cases hq : commentIn t with
    | false =>
      have HQ := Lib.hid hq
      rw [if_neg (by simp)]
      go_enter Tryz.func72, Tryz.ntmps72
      go_wp2_with (go_at_call 96; refine (l02Comment_any t _ ht2).mono ?_; rintro e w' ⟨rfl, rfl⟩; rw [HQ.out])
      go_ret
      have hg := GRow.lit (w := ((w.alloc (.cells #[.bool X.ha, .bool X.hb, .slice V.a1 X.al.length V.c1, .slice V.a2 X.rm.length V.c2, .slice V.a3 X.uw.length V.c3, .slice V.a4 X.at_.length V.c4, .slice V.a5 X.dp.length V.c5, .bool true, .bool X.da] 35)).alloc (.cells #[.int .i64 3, .int .i64 sp, .string n, .string t, .slice A al.length ca, .slice K kids.len ck] 71))) (base := w.heap.size) (by rw [World.size_alloc, World.size_alloc]; omega)
      rw [show ((w.alloc (.cells #[.bool X.ha, .bool X.hb, .slice V.a1 X.al.length V.c1, .slice V.a2 X.rm.length V.c2, .slice V.a3 X.uw.length V.c3, .slice V.a4 X.at_.length V.c4, .slice V.a5 X.dp.length V.c5, .bool true, .bool X.da] 35)).alloc (.cells #[.int .i64 3, .int .i64 sp, .string n, .string t, .slice A al.length ca, .slice K kids.len ck] 71)).heap.size = w.heap.size + 1 + 1 by simp] at hg
      exact ⟨_, [], rfl, (((Below.refl w.heap.size w).alloc (Nat.le_refl _) _).alloc (by simp) _).alloc (by simp; omega) _, hg⟩
    | true =>
      have HQ := Lib.hid hq
      rw [if_pos (by simp)]
      go_enter Tryz.func72, Tryz.ntmps72
      go_wp2_with (go_at_call 96; refine (l02Comment_any t _ ht2).mono ?_; rintro e w' ⟨rfl, rfl⟩; rw [HQ.out])
      go_ret
      have hg := GRow.litN (w := ((((w.alloc (.cells #[.bool X.ha, .bool X.hb, .slice V.a1 X.al.length V.c1, .slice V.a2 X.rm.length V.c2, .slice V.a3 X.uw.length V.c3, .slice V.a4 X.at_.length V.c4, .slice V.a5 X.dp.length V.c5, .bool true, .bool X.da] 35)).alloc (.cells #[.int .i64 3, .int .i64 sp, .string n, .string t, .slice A al.length ca, .slice K kids.len ck] 71)).alloc (.cells #[] 121)).alloc (.cells #[] 71))) (base := w.heap.size) (k := 3) (sp := 0) (n := ⟨#[]⟩) (t := t) (al := []) (kids := .nil) (A := some ⟨w.heap.size + 1 + 1, 0, none⟩) (K := some ⟨w.heap.size + 1 + 1 + 1, 0, none⟩) (ca := 0) (ck := 0) (ba := []) (bk := []) (by simp; omega) ⟨Nat.zero_le _, ht⟩ ⟨Nat.le_refl _, Nat.zero_le _, Or.inl ⟨rfl, rfl⟩⟩ ⟨Nat.le_refl _, Nat.zero_le _, Or.inl ⟨rfl, rfl⟩⟩ List.nodup_nil (by simp)
      rw [show ((((w.alloc (.cells #[.bool X.ha, .bool X.hb, .slice V.a1 X.al.length V.c1, .slice V.a2 X.rm.length V.c2, .slice V.a3 X.uw.length V.c3, .slice V.a4 X.at_.length V.c4, .slice V.a5 X.dp.length V.c5, .bool true, .bool X.da] 35)).alloc (.cells #[.int .i64 3, .int .i64 sp, .string n, .string t, .slice A al.length ca, .slice K kids.len ck] 71)).alloc (.cells #[] 121)).alloc (.cells #[] 71)).heap.size = w.heap.size + 1 + 1 + 1 + 1 by simp] at hg
      exact ⟨_, [], rfl, (((((Below.refl w.heap.size w).alloc (Nat.le_refl _) _).alloc (by simp) _).alloc (by simp; omega) _).alloc (by simp; omega) _).alloc (by simp; omega) _, hg⟩
end Go.Proofs.YthdkkpbhijlpaaaGreat
