import Derived.Test.YtpennadfomnenaaGreatDoorQ26
set_option linter.unusedVariables false
namespace Go.Proofs.YtpennadfomnenaaGreatDoor
open Go.ChangeShapes Go.WideShapes Go.ChangeAt Go.RowKit Go.Deep

theorem OutI.from {bb : Nat} {fp : Nat → Prop} {ex : List Nat} {r : Rs} {w w0 : World} {e : Ending} {w' : World} (hB : Below w.heap.size w w0) (hbb : bb ≤ w.heap.size) (h : OutI bb fp ex r w0 e w') : OutI bb fp ex r w e w' := by
  cases r with
  | bad c => exact ⟨h.1, (hB.mono hbb).trans h.2⟩
  | ok y =>
    obtain ⟨h1, h2, v, v0, pv, ps, bF, bl, h3, h4⟩ := h
    refine ⟨h1, (But.of_below hB).trans h2 (fun q hq => Or.inl hq), v, v0, pv, ps, bF, bl, h3, fun k hk => ?_⟩
    rcases h4 k hk with h | h | h
    · exact Or.inl h
    · exact Or.inr (Or.inl h)
    · exact Or.inr (Or.inr (Nat.le_trans hB.size h))
theorem OutI.ex {bb : Nat} {fp : Nat → Prop} {ex : List Nat} {r : Rs} {w : World} {e : Ending} {w' : World} (h : OutI bb fp [] r w e w') : OutI bb fp ex r w e w' := by
  cases r with
  | bad c => exact h
  | ok y =>
    obtain ⟨h1, h2, v, v0, pv, ps, bF, bl, h3, h4⟩ := h
    refine ⟨h1, h2, v, v0, pv, ps, bF, bl, h3, fun k hk => ?_⟩
    rcases h4 k hk with h | h | h
    · exact Or.inl h
    · simp at h
    · exact Or.inr (Or.inr h)
set_option maxHeartbeats 2000000 in
set_option maxRecDepth 100000 in
theorem takeB_any (bb : Nat) (z : Zi) (v v0 pv : Value) (ps : List Value) (bF bl : List Nat) (T : Tk) (TA : Option Addr) (tc : Nat) (ba : List Nat) (w : World) (hTn : T.n.size ≤ maxLen) (hTt : T.t.size ≤ 65536)
    (ha : T.al.length ≤ tc ∧ T.al.length ≤ maxLen ∧ AlRow w TA T.al ba) (hba : ba.Nodup) (hbl : ∀ q ∈ ba, bb < q ∧ q < w.heap.size ∧ ¬ FpI bb v pv bF bl q) (h : BI w bb z v v0 pv ps bF bl) :
    Calls Tryz.prog 137 #[.pointer (some ⟨bb, 0, none⟩), T.val TA tc] w (OutI bb (FpI bb v pv bF bl) ba (z.take T) w) := by
  obtain ⟨tk, ta, tl, tn, tt, tal, ts⟩ := T
  simp only at hTn hTt ha
  have hbb := (h.lt bb (Or.inl rfl)).2
  have B0 := Lib.hid ((Below.refl w.heap.size w).alloc (Nat.le_refl _) (.cells #[.int .i64 tk, .int .i64 (ta : Int), .int .i64 (tl : Int), .string tn, .string tt, .slice TA tal.length tc, .bool ts] 29))
  have H0 := Lib.hid (h.next B0.out)
  have HX := Lib.hid (And.intro ha (And.intro hba hbl))
  have HT := Lib.hid (And.intro hTn hTt)
  have HFR : Hid (∀ {ex : List Nat} {r : Rs} {e : Ending} {w' : World}, OutI bb (FpI bb v pv bF bl) ex r (w.alloc (.cells #[.int .i64 tk, .int .i64 (ta : Int), .int .i64 (tl : Int), .string tn, .string tt, .slice TA tal.length tc, .bool ts] 29)) e w' → OutI bb (FpI bb v pv bF bl) ex r w e w') := Lib.hid fun hh => hh.from B0.out (Nat.le_of_lt hbb)
  clear h ha hba hbl hTn hTt
  unfold Tk.val
  dsimp only
  by_cases k1 : tk = 1
  · subst k1
    have HE : Hid (z.take ⟨1, ta, tl, tn, tt, tal, ts⟩ = z.words tt) := Lib.hid rfl
    have HC := Lib.hid (addWords_any bb z v v0 pv ps bF bl tt _ HT.out.2 H0.out)
    go_enter Tryz.func137, Tryz.ntmps137
    go_wp2_with (go_at_call 189; refine HC.out.mono ?_; intro e w1 hO; obtain ⟨c, rfl, hO2⟩ := hO.ret; clear hO)
    go_ret
    rw [HE.out]
    exact HFR.out (OutI.ex hO2.out)
  · have k1' : (tk == 1) = false := by simpa using k1
    by_cases k4 : tk = 4
    · subst k4
      have HE : Hid (z.take ⟨4, ta, tl, tn, tt, tal, ts⟩ = z.add 3 0 ⟨#[]⟩ tt []) := Lib.hid rfl
      have HC := Lib.hid (add_plain bb z v v0 pv ps bF bl 3 tt _ (by have := HT.out.2; unfold maxLen; omega) H0.out)
      clear k1
      go_enter Tryz.func137, Tryz.ntmps137
      go_wp2_with (go_at_call 190; refine HC.out.mono ?_; intro e w1 hO; obtain ⟨c, rfl, hO2⟩ := hO.ret; clear hO)
      go_ret
      rw [HE.out]
      exact HFR.out (OutI.ex hO2.out)
    · have k4' : (tk == 4) = false := by simpa using k4
      by_cases k2 : tk = 2
      · subst k2
        have HE : Hid (z.take ⟨2, ta, tl, tn, tt, tal, ts⟩ = z.begin ⟨2, ta, tl, tn, tt, tal, ts⟩) := Lib.hid rfl
        have HC := Lib.hid (begin_any bb z v v0 pv ps bF bl ⟨2, ta, tl, tn, tt, tal, ts⟩ TA tc ba _ HT.out.1 ⟨HX.out.1.1, HX.out.1.2.1, HX.out.1.2.2.same fun q hq => B0.out.block q (HX.out.2.2 q hq).2.1⟩ HX.out.2.1 (fun q hq => ⟨(HX.out.2.2 q hq).1, Nat.lt_of_lt_of_le (HX.out.2.2 q hq).2.1 B0.out.size, (HX.out.2.2 q hq).2.2⟩) H0.out)
        unfold Tk.val at HC
        dsimp only at HC
        clear k1 k4
        go_enter Tryz.func137, Tryz.ntmps137
        go_wp2_with (go_at_call 191; refine HC.out.mono ?_; intro e w1 hO; obtain ⟨c, rfl, hO2⟩ := hO.ret; clear hO)
        go_ret
        rw [HE.out]
        exact HFR.out hO2.out
      · have k2' : (tk == 2) = false := by simpa using k2
        by_cases k3 : tk = 3
        · subst k3
          have HE : Hid (z.take ⟨3, ta, tl, tn, tt, tal, ts⟩ = .ok (z.close tn)) := Lib.hid rfl
          have HC := Lib.hid (end_any bb z v v0 pv ps bF bl tn _ H0.out)
          clear k1 k4 k2
          go_enter Tryz.func137, Tryz.ntmps137
          go_wp2_with (go_at_call 192; refine HC.out.mono ?_; rintro e w1 ⟨rfl, hO⟩; have HO := Lib.hid hO; clear hO)
          go_ret
          rw [HE.out]
          obtain ⟨h1, v', v0', pv', ps', bF', bl', h3, h4⟩ := HO.out
          exact HFR.out ⟨rfl, h1, v', v0', pv', ps', bF', bl', h3, fun q hq => (h4 q hq).imp id Or.inr⟩
        · have k3' : (tk == 3) = false := by simpa using k3
          have HE : Hid (z.take ⟨tk, ta, tl, tn, tt, tal, ts⟩ = .ok z) := Lib.hid (by simp [Zi.take, k1, k4, k2, k3])
          clear k1 k4 k2 k3
          go_enter Tryz.func137, Tryz.ntmps137
          go_wp2
          go_ret
          rw [HE.out]
          exact HFR.out ⟨rfl, But.refl _ _, v, v0, pv, ps, bF, bl, H0.out, fun q hq => Or.inl hq⟩
end Go.Proofs.YtpennadfomnenaaGreatDoor
