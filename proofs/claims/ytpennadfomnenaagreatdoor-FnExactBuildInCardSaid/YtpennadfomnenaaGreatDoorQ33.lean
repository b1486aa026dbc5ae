import Derived.Deep.AppendLies
import Derived.Deep.RegionLaw
import Derived.Test.YtpennadfomnenaaGreatDoorQ32
set_option linter.unusedVariables false
namespace Go.Proofs.YtpennadfomnenaaGreatDoor
open Go.ChangeShapes Go.WideShapes Go.ChangeAt Go.RowKit Go.Deep

/-- what a step of the model's builder leaves -/
def OutS (B bb : Nat) (fp : Nat → Prop) (ex : List Nat) (r : Rs) (w : World) (e : Ending) (w' : World) : Prop :=
  match r with
  | .bad c => e = .returned (.tuple #[]) ∧ w'.cell? ⟨bb, 3, none⟩ = some (.int .i64 c) ∧ Below B w w'
  | .ok y => e = .returned (.tuple #[]) ∧ But fp w w' ∧ ∃ sv nv nvs bl, BS w' B bb y sv nv nvs bl ∧ ∀ q, FpS bb sv nv bl q → fp q ∨ q ∈ ex ∨ w.heap.size ≤ q
/-- a node that is put by itself -/
def pushR (z : Zi) (k sp : Int) (n t : ByteArray) (al : List (ByteArray × ByteArray)) : Rs := if 120 < t.size then .bad 8 else .ok ⟨z.F.app (.one k sp n t al .nil), z.up, z.c⟩
theorem pushR_fit {z y : Zi} {k sp : Int} {n t : ByteArray} {al : List (ByteArray × ByteArray)} (hf : z.fit) (hr : cntZ z + 1 ≤ z.c) (h : pushR z k sp n t al = .ok y) : y.fit := by
  unfold pushR at h
  split at h
  · cases h
  · injection h with h
    subst h
    refine ⟨?_, hf.2.1, hf.2.2.1, fun x hx => ?_⟩
    · simp only [cntZ, Fo.len_app] at hr ⊢
      show z.F.len + 1 + _ ≤ _
      omega
    · simp only [Fo.last_snoc] at hx
      injection hx with hx
      rw [← hx]
      simp only; omega
set_option maxHeartbeats 4000000 in
set_option maxRecDepth 100000 in
theorem put_new (B bb : Nat) (z : Zi) (sv nv : Value) (nvs : List Value) (bl : List Nat) (k sp : Int) (n t : ByteArray) (al : List (ByteArray × ByteArray)) (A : Option Addr) (ca : Nat) (ba : List Nat) (w : World)
    (hz : n.size ≤ maxLen ∧ t.size ≤ maxLen) (ha : al.length ≤ ca ∧ al.length ≤ maxLen ∧ AlRow w A al ba) (hba : ba.Nodup) (hbl : ∀ q ∈ ba, B ≤ q ∧ q < w.heap.size ∧ ¬ FpS bb sv nv bl q) (h : BS w B bb z sv nv nvs bl)
    (hm : k ≠ 2 ∨ ∀ x, z.F.last = some x → x.1 ≠ 2) (hr : cntZ z + 1 ≤ z.c) :
    Calls Tryz.prog 194 #[.pointer (some ⟨bb, 0, none⟩), .agg #[.int .i64 k, .int .i64 sp, .string n, .string t, .slice A al.length ca, .slice none 0 0]] w (OutS B bb (FpS bb sv nv bl) ba (pushR z k sp n t al) w) := by
  obtain ⟨gn, cap, v, D, e, xs, bF, e1, e2, e3, e4, e5, e6, e7, ⟨e8, _⟩, e9⟩ := h.grow
  have hbb := (h.lt bb (Or.inl rfl)).2
  have p1 : w.cell? ⟨bb, 1, none⟩ = some nv := h.lay.1 1
  have f3 : w.frozen? ⟨bb, 3, none⟩ = false := h.lay.2 3
  have p3 : w.cell? ⟨bb, 3, none⟩ = some (.int .i64 0) := h.lay.1 3
  have q5 := e2.1
  have q5f := e2.2
  have hF : z.F.len ≤ 60 := by have h1 := h.fit.1; have h2 := h.fit.2.1; unfold cntZ at h1; omega
  have hm10 := h.fit.2.2.1
  have hgn := e7.2.1
  have hne := e7.1
  rw [e1] at p1
  rw [e3] at q5
  have HH := Lib.hid h
  have HG := Lib.hid (And.intro e4 (And.intro e5 (And.intro e6 e9)))
  have HE := Lib.hid (And.intro e1 (And.intro e3 e7))
  have HX := Lib.hid (And.intro hz (And.intro ha (And.intro hba hbl)))
  have HR := Lib.hid hr
  have htz := hz.2
  unfold maxLen at htz
  -- the last node of the row, if there is one
  have hlast : (k ≠ 2) ∨ (k = 2 ∧ z.F.len = 0) ∨ (k = 2 ∧ 0 < z.F.len ∧ ∃ gv k', D = some ⟨gv, 0, none⟩ ∧ gv < w.heap.size ∧ w.cell? ⟨gv, (z.F.len - 1) * 6, none⟩ = some (.int .i64 k') ∧ k' ≠ 2) := by
    rcases hm with hm | hm
    · exact Or.inl hm
    · by_cases hk : k = 2
      · rcases Fo.snoc_or z.F with hF | ⟨P, k', sp', n', t', al', kids', hF⟩
        · exact Or.inr (Or.inl ⟨hk, by rw [hF]; rfl⟩)
        · have hl : z.F.last = some (k', t') := by rw [hF, Fo.last_snoc]
          rw [hF] at e8
          obtain ⟨g, cap', f1, _, _, f4, f5, _, _⟩ := e8.last
          have hlen : z.F.len = P.len + 1 := by rw [hF, Fo.len_app]; rfl
          refine Or.inr (Or.inr ⟨hk, by omega, g, k', ?_, f4, by rw [hlen, Nat.add_sub_cancel]; exact f5.1, hm _ hl⟩)
          rw [e3] at f1
          injection f1
      · exact Or.inl hk
  have B1 := Lib.hid ((Below.refl w.heap.size w).alloc (Nat.le_refl _) (.cells #[.int .i64 k, .int .i64 sp, .string n, .string t, .slice A al.length ca, .slice none 0 0] 42))
  clear h e1 e2 e3 e4 e5 e6 e7 e8 e9 hz ha hba hbl hm hr
  unfold pushR
  rcases hlast with hk | ⟨hk, hl0⟩ | ⟨hk, hl0, gv, k', hD, hgv, hc, hk2⟩
  · have hk' : (k == 2) = false := by simpa using hk
    clear hk
    by_cases ht : 120 < t.size
    · rw [if_pos ht]
      go_enter Tryz.func194, Tryz.ntmps194
      go_wp2
      go_end0
      refine ⟨rfl, ?_, ?_⟩
      · exact (((Below.refl _ _).alloc (Nat.le_refl _) _).cell (p := ⟨bb, 3, none⟩) (by simpa using hbb)).trans (World.cell?_setCell_same _ _ _ p3)
      · exact ((Below.refl B w).setCell (p := ⟨bb, 3, none⟩) HH.out.le _).alloc (by have := HH.out.le; simp; omega) _
    · rw [if_neg ht]
      go_enter Tryz.func194, Tryz.ntmps194
      go_wp2
      have qa : (w.alloc (.cells #[.int .i64 k, .int .i64 sp, .string n, .string t, .slice A al.length ca, .slice none 0 0] 42)).cell? ⟨gn, z.up.length * 6 + 5, none⟩ = some (.slice D z.F.len e) := (B1.out.cell (p := ⟨gn, z.up.length * 6 + 5, none⟩) hgn).trans q5
      have qf : (w.alloc (.cells #[.int .i64 k, .int .i64 sp, .string n, .string t, .slice A al.length ca, .slice none 0 0] 42)).frozen? ⟨gn, z.up.length * 6 + 5, none⟩ = false := (B1.out.frozen (p := ⟨gn, z.up.length * 6 + 5, none⟩) hgn).trans q5f
      have pa : (w.alloc (.cells #[.int .i64 k, .int .i64 sp, .string n, .string t, .slice A al.length ca, .slice none 0 0] 42)).cell? ⟨bb, 1, none⟩ = some (.slice (some ⟨gn, 0, none⟩) (z.up.length + 1) cap) := (B1.out.cell (p := ⟨bb, 1, none⟩) hbb).trans p1
      have L1 := Lib.hid (Lay.new w #[.int .i64 k, .int .i64 sp, .string n, .string t, .slice A al.length ca, .slice none 0 0] 42)
      have hsz1 : w.heap.size < (w.alloc (.cells #[.int .i64 k, .int .i64 sp, .string n, .string t, .slice A al.length ca, .slice none 0 0] 42)).heap.size := by simp
      have HO : Hid ((w.alloc (.cells #[.int .i64 k, .int .i64 sp, .string n, .string t, .slice A al.length ca, .slice none 0 0] 42)).ownsRow B 42 6 (.slice D z.F.len e) z.F.len xs) := Lib.hid (by have := HG.out.1; rw [HE.out.2.1] at this; exact this.alloc _)
      have HVB : Hid (∀ q, (Value.slice D z.F.len e).ownBlock = some q → q ≠ bb ∧ q ≠ gn ∧ q < w.heap.size ∧ B ≤ q) := Lib.hid fun q hq => by have := HG.out.2.2.1 q (by rw [HE.out.2.1]; exact hq); exact ⟨this.1, this.2.1, this.2.2.2.1, this.2.2.2.2.1⟩
      generalize (w.alloc (.cells #[.int .i64 k, .int .i64 sp, .string n, .string t, .slice A al.length ca, .slice none 0 0] 42)) = wa at B1 L1 hsz1 qa qf pa HO ⊢
      obtain ⟨b0, b1', b2, b3, b4, b5⟩ := lay6 L1.out
      have hnb := World.new_ne wa ⟨bb, 1, none⟩ pa
      have hng := World.new_ne wa ⟨gn, z.up.length * 6 + 5, none⟩ qa
      have pb := (World.cell?_of_block (w := wa) (a := ⟨bb, 1, none⟩) (w' := wa.alloc (.cells #[.int .i64 k, .int .i64 sp, .string n, .string t, .slice A al.length ca, .slice none 0 0] 42)) (Below.heap_alloc wa _ bb (by omega))).trans pa
      have qb := (World.cell?_of_block (w := wa) (a := ⟨gn, z.up.length * 6 + 5, none⟩) (w' := wa.alloc (.cells #[.int .i64 k, .int .i64 sp, .string n, .string t, .slice A al.length ca, .slice none 0 0] 42)) (Below.heap_alloc wa _ gn (by omega))).trans qa
      have hix : ((z.up.length : Nat) : Int) < ((z.up.length : Nat) : Int) + 1 := by omega
      have hBw : B ≤ wa.heap.size := by have := HH.out.le; omega
      have hBb := HH.out.le
      obtain ⟨i0, hi0, hz0, hz1, hz2⟩ := info_of infoNode
      have HZ := Lib.hid (And.intro hz0 (And.intro hz1 hz2))
      clear hz0 hz1 hz2 p1 q5 q5f f3 p3
      go_region_law ((refine step_append_lies _ (by rfl) _ _ _ (by rfl) B 42 i0 _ 6 96 Tryz.underlying35 hi0 HZ.out.1 HZ.out.2.1 HZ.out.2.2 rfl (by omega) (.slice D z.F.len e) z.F.len xs (by rfl) (HO.out.alloc _) ⟨wa.heap.size, 0, none⟩ 1 1 [.int .i64 k, .int .i64 sp, .string n, .string t, .slice A al.length ca, .slice none 0 0] (by rfl) (by rfl) (World.news_of_block (cs := #[.int .i64 k, .int .i64 sp, .string n, .string t, .slice A al.length ca, .slice none 0 0]) (t := 42) (fr := (0, 0)) (heap_alloc_new wa _)) (by simp [Value.oneCell']) (by omega) (by unfold maxLen; omega) (by omega) (by simp; omega) (wa.heap.size + 1) (by simp) ?_; intro gg cap1 w1 hown1 hgrow hat hlt; have hbk : w1.heap[bb]? = wa.heap[bb]? := (hgrow.block bb (by simp; omega) (fun h => (HVB.out bb h.symm).1 rfl)).trans (Below.heap_alloc wa _ bb (by omega)); have hgk : w1.heap[gn]? = wa.heap[gn]? := (hgrow.block gn (by simp; omega) (fun h => (HVB.out gn h.symm).2.1 rfl)).trans (Below.heap_alloc wa _ gn (by omega)); have r0 := (World.cell?_of_block (w := wa) (a := ⟨gn, z.up.length * 6 + 5, none⟩) hgk).trans qa; have r1 := (World.frozen?_of_block (w := wa) (a := ⟨gn, z.up.length * 6 + 5, none⟩) hgk).trans qf; have r2 := (World.cell?_of_block (w := wa) (a := ⟨bb, 1, none⟩) hbk).trans pa; have HW1 := Lib.hid (And.intro hown1 (And.intro hgrow hat)); clear hown1 hgrow hat hlt hbk hgk))
      all_goals
        clear b0 b1' b2 b3 b4 b5 qa qf pa pb qb r0 r1 r2
        go_wp2
        go_end0
        have hk1 : ∀ q, q < w.heap.size → v.ownBlock ≠ some q → w1.heap[q]? = w.heap[q]? := fun q h1 h2 =>
          ((HW1.out.2.1.block q (Nat.lt_of_lt_of_le h1 (Nat.le_trans (Nat.le_of_lt hsz1) (by simp))) (fun e => h2 (by rw [HE.out.2.1]; exact e.symm))).trans (Below.heap_alloc wa _ q (Nat.lt_trans h1 hsz1))).trans (B1.out.block q h1)
        have hs1 : w.heap.size ≤ w1.heap.size := Nat.le_trans (by simp; omega) HW1.out.2.1.size
        have hat1 : v.ownBlock = some gg ∨ w.heap.size ≤ gg := by rw [HE.out.2.1]; exact HW1.out.2.2.imp id fun h => by omega
        have hfit := pushR_fit (n := n) (t := t) (al := al) (k := k) (sp := sp) HH.out.fit HR.out (by unfold pushR; rw [if_neg ht])
        obtain ⟨nvs', bl', r1, r2⟩ := HG.out.2.2.2 w1 gg cap1 k sp n t al .nil A none ca 0 ba [] _ hs1 hk1 HW1.out.1 hat1 HX.out.1 HX.out.2.1 ⟨Nat.le_refl _, Nat.zero_le _, Or.inl ⟨rfl, rfl⟩⟩ (by simpa using HX.out.2.2.1) (by simpa using HX.out.2.2.2) rfl hfit
        refine ⟨rfl, ?_, sv, nv, nvs', bl', r1, fun q hq => ?_⟩
        · have hb1 : But (FpS bb sv nv bl) w w1 := ⟨HW1.out.2.1.os.trans B1.out.os, HW1.out.2.1.tape.trans B1.out.tape, HW1.out.2.1.output.trans B1.out.output, hs1, fun q h1 h2 => hk1 q h1 fun e => h2 (Or.inr (Or.inr (Or.inr (HG.out.2.2.1 q e).2.2.2.2.2)))⟩
          exact hb1.setCell (p := ⟨gn, z.up.length * 6 + 5, none⟩) (Or.inl (Or.inr (Or.inr (Or.inl HE.out.2.2.2.2.2)))) _
        · rcases hq with hq | hq | hq | hq
          · exact Or.inl (Or.inl hq)
          · exact Or.inl (Or.inr (Or.inl hq))
          · exact Or.inl (Or.inr (Or.inr (Or.inl hq)))
          · rcases r2 q hq with h | h | h
            · exact Or.inl (Or.inr (Or.inr (Or.inr h)))
            · exact Or.inr (Or.inl (by simpa using h))
            · exact Or.inr (Or.inr h)
  · have hk' : (k == 2) = true := by simpa using hk
    clear hk
    have hl0' : ¬ ((z.F.len : Nat) : Int) > 0 := by omega
    have HL0 := Lib.hid hl0
    clear hl0
    by_cases ht : 120 < t.size
    · rw [if_pos ht]
      go_enter Tryz.func194, Tryz.ntmps194
      go_wp2
      go_end0
      refine ⟨rfl, ?_, ?_⟩
      · exact (((Below.refl _ _).alloc (Nat.le_refl _) _).cell (p := ⟨bb, 3, none⟩) (by simpa using hbb)).trans (World.cell?_setCell_same _ _ _ p3)
      · exact ((Below.refl B w).setCell (p := ⟨bb, 3, none⟩) HH.out.le _).alloc (by have := HH.out.le; simp; omega) _
    · rw [if_neg ht]
      go_enter Tryz.func194, Tryz.ntmps194
      go_wp2
      have qa : (w.alloc (.cells #[.int .i64 k, .int .i64 sp, .string n, .string t, .slice A al.length ca, .slice none 0 0] 42)).cell? ⟨gn, z.up.length * 6 + 5, none⟩ = some (.slice D z.F.len e) := (B1.out.cell (p := ⟨gn, z.up.length * 6 + 5, none⟩) hgn).trans q5
      have qf : (w.alloc (.cells #[.int .i64 k, .int .i64 sp, .string n, .string t, .slice A al.length ca, .slice none 0 0] 42)).frozen? ⟨gn, z.up.length * 6 + 5, none⟩ = false := (B1.out.frozen (p := ⟨gn, z.up.length * 6 + 5, none⟩) hgn).trans q5f
      have pa : (w.alloc (.cells #[.int .i64 k, .int .i64 sp, .string n, .string t, .slice A al.length ca, .slice none 0 0] 42)).cell? ⟨bb, 1, none⟩ = some (.slice (some ⟨gn, 0, none⟩) (z.up.length + 1) cap) := (B1.out.cell (p := ⟨bb, 1, none⟩) hbb).trans p1
      have L1 := Lib.hid (Lay.new w #[.int .i64 k, .int .i64 sp, .string n, .string t, .slice A al.length ca, .slice none 0 0] 42)
      have hsz1 : w.heap.size < (w.alloc (.cells #[.int .i64 k, .int .i64 sp, .string n, .string t, .slice A al.length ca, .slice none 0 0] 42)).heap.size := by simp
      have HO : Hid ((w.alloc (.cells #[.int .i64 k, .int .i64 sp, .string n, .string t, .slice A al.length ca, .slice none 0 0] 42)).ownsRow B 42 6 (.slice D z.F.len e) z.F.len xs) := Lib.hid (by have := HG.out.1; rw [HE.out.2.1] at this; exact this.alloc _)
      have HVB : Hid (∀ q, (Value.slice D z.F.len e).ownBlock = some q → q ≠ bb ∧ q ≠ gn ∧ q < w.heap.size ∧ B ≤ q) := Lib.hid fun q hq => by have := HG.out.2.2.1 q (by rw [HE.out.2.1]; exact hq); exact ⟨this.1, this.2.1, this.2.2.2.1, this.2.2.2.2.1⟩
      generalize (w.alloc (.cells #[.int .i64 k, .int .i64 sp, .string n, .string t, .slice A al.length ca, .slice none 0 0] 42)) = wa at B1 L1 hsz1 qa qf pa HO ⊢
      obtain ⟨b0, b1', b2, b3, b4, b5⟩ := lay6 L1.out
      have hnb := World.new_ne wa ⟨bb, 1, none⟩ pa
      have hng := World.new_ne wa ⟨gn, z.up.length * 6 + 5, none⟩ qa
      have pb := (World.cell?_of_block (w := wa) (a := ⟨bb, 1, none⟩) (w' := wa.alloc (.cells #[.int .i64 k, .int .i64 sp, .string n, .string t, .slice A al.length ca, .slice none 0 0] 42)) (Below.heap_alloc wa _ bb (by omega))).trans pa
      have qb := (World.cell?_of_block (w := wa) (a := ⟨gn, z.up.length * 6 + 5, none⟩) (w' := wa.alloc (.cells #[.int .i64 k, .int .i64 sp, .string n, .string t, .slice A al.length ca, .slice none 0 0] 42)) (Below.heap_alloc wa _ gn (by omega))).trans qa
      have hix : ((z.up.length : Nat) : Int) < ((z.up.length : Nat) : Int) + 1 := by omega
      have hBw : B ≤ wa.heap.size := by have := HH.out.le; omega
      have hBb := HH.out.le
      obtain ⟨i0, hi0, hz0, hz1, hz2⟩ := info_of infoNode
      have HZ := Lib.hid (And.intro hz0 (And.intro hz1 hz2))
      clear hz0 hz1 hz2 p1 q5 q5f f3 p3
      go_region_law ((refine step_append_lies _ (by rfl) _ _ _ (by rfl) B 42 i0 _ 6 96 Tryz.underlying35 hi0 HZ.out.1 HZ.out.2.1 HZ.out.2.2 rfl (by omega) (.slice D z.F.len e) z.F.len xs (by rfl) (HO.out.alloc _) ⟨wa.heap.size, 0, none⟩ 1 1 [.int .i64 k, .int .i64 sp, .string n, .string t, .slice A al.length ca, .slice none 0 0] (by rfl) (by rfl) (World.news_of_block (cs := #[.int .i64 k, .int .i64 sp, .string n, .string t, .slice A al.length ca, .slice none 0 0]) (t := 42) (fr := (0, 0)) (heap_alloc_new wa _)) (by simp [Value.oneCell']) (by omega) (by unfold maxLen; omega) (by omega) (by simp; omega) (wa.heap.size + 1) (by simp) ?_; intro gg cap1 w1 hown1 hgrow hat hlt; have hbk : w1.heap[bb]? = wa.heap[bb]? := (hgrow.block bb (by simp; omega) (fun h => (HVB.out bb h.symm).1 rfl)).trans (Below.heap_alloc wa _ bb (by omega)); have hgk : w1.heap[gn]? = wa.heap[gn]? := (hgrow.block gn (by simp; omega) (fun h => (HVB.out gn h.symm).2.1 rfl)).trans (Below.heap_alloc wa _ gn (by omega)); have r0 := (World.cell?_of_block (w := wa) (a := ⟨gn, z.up.length * 6 + 5, none⟩) hgk).trans qa; have r1 := (World.frozen?_of_block (w := wa) (a := ⟨gn, z.up.length * 6 + 5, none⟩) hgk).trans qf; have r2 := (World.cell?_of_block (w := wa) (a := ⟨bb, 1, none⟩) hbk).trans pa; have HW1 := Lib.hid (And.intro hown1 (And.intro hgrow hat)); clear hown1 hgrow hat hlt hbk hgk))
      all_goals
        clear b0 b1' b2 b3 b4 b5 qa qf pa pb qb r0 r1 r2
        go_wp2
        go_end0
        have hk1 : ∀ q, q < w.heap.size → v.ownBlock ≠ some q → w1.heap[q]? = w.heap[q]? := fun q h1 h2 =>
          ((HW1.out.2.1.block q (Nat.lt_of_lt_of_le h1 (Nat.le_trans (Nat.le_of_lt hsz1) (by simp))) (fun e => h2 (by rw [HE.out.2.1]; exact e.symm))).trans (Below.heap_alloc wa _ q (Nat.lt_trans h1 hsz1))).trans (B1.out.block q h1)
        have hs1 : w.heap.size ≤ w1.heap.size := Nat.le_trans (by simp; omega) HW1.out.2.1.size
        have hat1 : v.ownBlock = some gg ∨ w.heap.size ≤ gg := by rw [HE.out.2.1]; exact HW1.out.2.2.imp id fun h => by omega
        have hfit := pushR_fit (n := n) (t := t) (al := al) (k := k) (sp := sp) HH.out.fit HR.out (by unfold pushR; rw [if_neg ht])
        obtain ⟨nvs', bl', r1, r2⟩ := HG.out.2.2.2 w1 gg cap1 k sp n t al .nil A none ca 0 ba [] _ hs1 hk1 HW1.out.1 hat1 HX.out.1 HX.out.2.1 ⟨Nat.le_refl _, Nat.zero_le _, Or.inl ⟨rfl, rfl⟩⟩ (by simpa using HX.out.2.2.1) (by simpa using HX.out.2.2.2) rfl hfit
        refine ⟨rfl, ?_, sv, nv, nvs', bl', r1, fun q hq => ?_⟩
        · have hb1 : But (FpS bb sv nv bl) w w1 := ⟨HW1.out.2.1.os.trans B1.out.os, HW1.out.2.1.tape.trans B1.out.tape, HW1.out.2.1.output.trans B1.out.output, hs1, fun q h1 h2 => hk1 q h1 fun e => h2 (Or.inr (Or.inr (Or.inr (HG.out.2.2.1 q e).2.2.2.2.2)))⟩
          exact hb1.setCell (p := ⟨gn, z.up.length * 6 + 5, none⟩) (Or.inl (Or.inr (Or.inr (Or.inl HE.out.2.2.2.2.2)))) _
        · rcases hq with hq | hq | hq | hq
          · exact Or.inl (Or.inl hq)
          · exact Or.inl (Or.inr (Or.inl hq))
          · exact Or.inl (Or.inr (Or.inr (Or.inl hq)))
          · rcases r2 q hq with h | h | h
            · exact Or.inl (Or.inr (Or.inr (Or.inr h)))
            · exact Or.inr (Or.inl (by simpa using h))
            · exact Or.inr (Or.inr h)
  · have hk' : (k == 2) = true := by simpa using hk
    clear hk
    have hl0' : ((z.F.len : Nat) : Int) > 0 := by omega
    clear hl0
    have hk2' : (k' == 2) = false := by simpa using hk2
    subst hD
    have hgw : gv < w.heap.size := hgv
    clear hk2
    by_cases ht : 120 < t.size
    · rw [if_pos ht]
      go_enter Tryz.func194, Tryz.ntmps194
      go_wp2
      go_end0
      refine ⟨rfl, ?_, ?_⟩
      · exact (((Below.refl _ _).alloc (Nat.le_refl _) _).cell (p := ⟨bb, 3, none⟩) (by simpa using hbb)).trans (World.cell?_setCell_same _ _ _ p3)
      · exact ((Below.refl B w).setCell (p := ⟨bb, 3, none⟩) HH.out.le _).alloc (by have := HH.out.le; simp; omega) _
    · rw [if_neg ht]
      go_enter Tryz.func194, Tryz.ntmps194
      go_wp2
      have qa : (w.alloc (.cells #[.int .i64 k, .int .i64 sp, .string n, .string t, .slice A al.length ca, .slice none 0 0] 42)).cell? ⟨gn, z.up.length * 6 + 5, none⟩ = some (.slice (some ⟨gv, 0, none⟩) z.F.len e) := (B1.out.cell (p := ⟨gn, z.up.length * 6 + 5, none⟩) hgn).trans q5
      have qf : (w.alloc (.cells #[.int .i64 k, .int .i64 sp, .string n, .string t, .slice A al.length ca, .slice none 0 0] 42)).frozen? ⟨gn, z.up.length * 6 + 5, none⟩ = false := (B1.out.frozen (p := ⟨gn, z.up.length * 6 + 5, none⟩) hgn).trans q5f
      have pa : (w.alloc (.cells #[.int .i64 k, .int .i64 sp, .string n, .string t, .slice A al.length ca, .slice none 0 0] 42)).cell? ⟨bb, 1, none⟩ = some (.slice (some ⟨gn, 0, none⟩) (z.up.length + 1) cap) := (B1.out.cell (p := ⟨bb, 1, none⟩) hbb).trans p1
      have L1 := Lib.hid (Lay.new w #[.int .i64 k, .int .i64 sp, .string n, .string t, .slice A al.length ca, .slice none 0 0] 42)
      have hsz1 : w.heap.size < (w.alloc (.cells #[.int .i64 k, .int .i64 sp, .string n, .string t, .slice A al.length ca, .slice none 0 0] 42)).heap.size := by simp
      have HO : Hid ((w.alloc (.cells #[.int .i64 k, .int .i64 sp, .string n, .string t, .slice A al.length ca, .slice none 0 0] 42)).ownsRow B 42 6 (.slice (some ⟨gv, 0, none⟩) z.F.len e) z.F.len xs) := Lib.hid (by have := HG.out.1; rw [HE.out.2.1] at this; exact this.alloc _)
      have HVB : Hid (∀ q, (Value.slice (some ⟨gv, 0, none⟩) z.F.len e).ownBlock = some q → q ≠ bb ∧ q ≠ gn ∧ q < w.heap.size ∧ B ≤ q) := Lib.hid fun q hq => by have := HG.out.2.2.1 q (by rw [HE.out.2.1]; exact hq); exact ⟨this.1, this.2.1, this.2.2.2.1, this.2.2.2.2.1⟩
      generalize (w.alloc (.cells #[.int .i64 k, .int .i64 sp, .string n, .string t, .slice A al.length ca, .slice none 0 0] 42)) = wa at B1 L1 hsz1 qa qf pa HO ⊢
      obtain ⟨b0, b1', b2, b3, b4, b5⟩ := lay6 L1.out
      have hnb := World.new_ne wa ⟨bb, 1, none⟩ pa
      have hng := World.new_ne wa ⟨gn, z.up.length * 6 + 5, none⟩ qa
      have pb := (World.cell?_of_block (w := wa) (a := ⟨bb, 1, none⟩) (w' := wa.alloc (.cells #[.int .i64 k, .int .i64 sp, .string n, .string t, .slice A al.length ca, .slice none 0 0] 42)) (Below.heap_alloc wa _ bb (by omega))).trans pa
      have qb := (World.cell?_of_block (w := wa) (a := ⟨gn, z.up.length * 6 + 5, none⟩) (w' := wa.alloc (.cells #[.int .i64 k, .int .i64 sp, .string n, .string t, .slice A al.length ca, .slice none 0 0] 42)) (Below.heap_alloc wa _ gn (by omega))).trans qa
      have hix : ((z.up.length : Nat) : Int) < ((z.up.length : Nat) : Int) + 1 := by omega
      have hBw : B ≤ wa.heap.size := by have := HH.out.le; omega
      have hBb := HH.out.le
      obtain ⟨i0, hi0, hz0, hz1, hz2⟩ := info_of infoNode
      have HZ := Lib.hid (And.intro hz0 (And.intro hz1 hz2))
      clear hz0 hz1 hz2 p1 q5 q5f f3 p3
      go_region_law ((refine step_append_lies _ (by rfl) _ _ _ (by rfl) B 42 i0 _ 6 96 Tryz.underlying35 hi0 HZ.out.1 HZ.out.2.1 HZ.out.2.2 rfl (by omega) (.slice (some ⟨gv, 0, none⟩) z.F.len e) z.F.len xs (by rfl) (HO.out.alloc _) ⟨wa.heap.size, 0, none⟩ 1 1 [.int .i64 k, .int .i64 sp, .string n, .string t, .slice A al.length ca, .slice none 0 0] (by rfl) (by rfl) (World.news_of_block (cs := #[.int .i64 k, .int .i64 sp, .string n, .string t, .slice A al.length ca, .slice none 0 0]) (t := 42) (fr := (0, 0)) (heap_alloc_new wa _)) (by simp [Value.oneCell']) (by omega) (by unfold maxLen; omega) (by omega) (by simp; omega) (wa.heap.size + 1) (by simp) ?_; intro gg cap1 w1 hown1 hgrow hat hlt; have hbk : w1.heap[bb]? = wa.heap[bb]? := (hgrow.block bb (by simp; omega) (fun h => (HVB.out bb h.symm).1 rfl)).trans (Below.heap_alloc wa _ bb (by omega)); have hgk : w1.heap[gn]? = wa.heap[gn]? := (hgrow.block gn (by simp; omega) (fun h => (HVB.out gn h.symm).2.1 rfl)).trans (Below.heap_alloc wa _ gn (by omega)); have r0 := (World.cell?_of_block (w := wa) (a := ⟨gn, z.up.length * 6 + 5, none⟩) hgk).trans qa; have r1 := (World.frozen?_of_block (w := wa) (a := ⟨gn, z.up.length * 6 + 5, none⟩) hgk).trans qf; have r2 := (World.cell?_of_block (w := wa) (a := ⟨bb, 1, none⟩) hbk).trans pa; have HW1 := Lib.hid (And.intro hown1 (And.intro hgrow hat)); clear hown1 hgrow hat hlt hbk hgk))
      all_goals
        clear b0 b1' b2 b3 b4 b5 qa qf pa pb qb r0 r1 r2
        go_wp2
        go_end0
        have hk1 : ∀ q, q < w.heap.size → v.ownBlock ≠ some q → w1.heap[q]? = w.heap[q]? := fun q h1 h2 =>
          ((HW1.out.2.1.block q (Nat.lt_of_lt_of_le h1 (Nat.le_trans (Nat.le_of_lt hsz1) (by simp))) (fun e => h2 (by rw [HE.out.2.1]; exact e.symm))).trans (Below.heap_alloc wa _ q (Nat.lt_trans h1 hsz1))).trans (B1.out.block q h1)
        have hs1 : w.heap.size ≤ w1.heap.size := Nat.le_trans (by simp; omega) HW1.out.2.1.size
        have hat1 : v.ownBlock = some gg ∨ w.heap.size ≤ gg := by rw [HE.out.2.1]; exact HW1.out.2.2.imp id fun h => by omega
        have hfit := pushR_fit (n := n) (t := t) (al := al) (k := k) (sp := sp) HH.out.fit HR.out (by unfold pushR; rw [if_neg ht])
        obtain ⟨nvs', bl', r1, r2⟩ := HG.out.2.2.2 w1 gg cap1 k sp n t al .nil A none ca 0 ba [] _ hs1 hk1 HW1.out.1 hat1 HX.out.1 HX.out.2.1 ⟨Nat.le_refl _, Nat.zero_le _, Or.inl ⟨rfl, rfl⟩⟩ (by simpa using HX.out.2.2.1) (by simpa using HX.out.2.2.2) rfl hfit
        refine ⟨rfl, ?_, sv, nv, nvs', bl', r1, fun q hq => ?_⟩
        · have hb1 : But (FpS bb sv nv bl) w w1 := ⟨HW1.out.2.1.os.trans B1.out.os, HW1.out.2.1.tape.trans B1.out.tape, HW1.out.2.1.output.trans B1.out.output, hs1, fun q h1 h2 => hk1 q h1 fun e => h2 (Or.inr (Or.inr (Or.inr (HG.out.2.2.1 q e).2.2.2.2.2)))⟩
          exact hb1.setCell (p := ⟨gn, z.up.length * 6 + 5, none⟩) (Or.inl (Or.inr (Or.inr (Or.inl HE.out.2.2.2.2.2)))) _
        · rcases hq with hq | hq | hq | hq
          · exact Or.inl (Or.inl hq)
          · exact Or.inl (Or.inr (Or.inl hq))
          · exact Or.inl (Or.inr (Or.inr (Or.inl hq)))
          · rcases r2 q hq with h | h | h
            · exact Or.inl (Or.inr (Or.inr (Or.inr h)))
            · exact Or.inr (Or.inl (by simpa using h))
            · exact Or.inr (Or.inr h)
end Go.Proofs.YtpennadfomnenaaGreatDoor
