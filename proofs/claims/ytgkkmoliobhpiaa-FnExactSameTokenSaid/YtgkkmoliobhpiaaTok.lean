import Derived.Test.YtgkkmoliobhpiaaEq
namespace Go.Proofs.Ytgkkmoliobhpiaa
open Go.ChangeShapes Go.WideShapes Go.ChangeAt Go.RowKit Go.Deep

/-- a token's value -/
def tokV (k a l : Int) (n t : ByteArray) (A : Option Addr) (len c : Nat) (s : Bool) : Value := .agg #[.int .i64 k, .int .i64 a, .int .i64 l, .string n, .string t, .slice A len c, .bool s]

theorem szToken_any (k a l : Int) (n t : ByteArray) (al : List (ByteArray × ByteArray)) (s : Bool) (m : Nat) (w : World) (A : Option Addr) (c b o hi : Nat) (hl : m ≤ 1048576)
    (h1 : n.size ≤ maxLen) (h2 : t.size ≤ maxLen) (hA : RowAt 0 hi A al.length b o) (hal : AsAt w b o al) (hh : hi ≤ w.heap.size) :
    Calls Try.prog 6 #[.agg #[.int .i64 k, .int .i64 a, .int .i64 l, .string n, .string t, .slice A al.length c, .bool s], .int .i64 (m : Int)] w fun e w' =>
      e = .returned (.int .i64 (left m (n.size + t.size + (al.length + asSize al)))) ∧ Below w.heap.size w w' := by
  have hg := (Below.refl w.heap.size w).alloc (Nat.le_refl _) (.cells #[.int .i64 k, .int .i64 a, .int .i64 l, .string n, .string t, .slice A al.length c, .bool s] 24)
  have hal' : AsAt (w.alloc (.cells #[.int .i64 k, .int .i64 a, .int .i64 l, .string n, .string t, .slice A al.length c, .bool s] 24)) b o al := by
    cases al with
    | nil => trivial
    | cons x r => exact hal.carry fun o => hg.cell (p := ⟨b, o, none⟩) (by have := (hA.2 (by simp)).2.2; show b < _; omega)
  have HG := Lib.hid hg
  have HN := Lib.hid hal'
  have HSZ := Lib.hid hg.size
  clear hg hal' hal
  unfold maxLen at h1 h2
  by_cases c1 : n.size ≤ m
  · by_cases c2 : n.size + t.size ≤ m
    · by_cases c3 : al.length + asSize al ≤ m - (n.size + t.size)
      · have HL3 := Lib.hid (left_le c3)
        have HM := Lib.hid (left_le (l := m) (n := n.size + t.size + (al.length + asSize al)) (by omega))
        go_enter Try.func6, Try.ntmps6
        go_wp2_with (go_at_call 26; rw [show (m : Int) - (n.size : Int) - (t.size : Int) = ((m - (n.size + t.size) : Nat) : Int) by omega]; go_loud (refine (szAttrS_any al (m - (n.size + t.size)) _ A c b o hi (by omega) hA (Nat.le_trans hh HSZ.out) HN.out).mono ?_; rintro e w' ⟨rfl, hB'⟩; rw [HL3.out]; have HB' := Lib.hid hB'; clear hB'))
        go_ret
        exact ⟨by rw [HM.out]; go_num, HG.out.trans (HB'.out.mono HSZ.out)⟩
      · have HL3 := Lib.hid (left_gt c3)
        have HM := Lib.hid (left_gt (l := m) (n := n.size + t.size + (al.length + asSize al)) (by omega))
        go_enter Try.func6, Try.ntmps6
        go_wp2_with (go_at_call 26; rw [show (m : Int) - (n.size : Int) - (t.size : Int) = ((m - (n.size + t.size) : Nat) : Int) by omega]; go_loud (refine (szAttrS_any al (m - (n.size + t.size)) _ A c b o hi (by omega) hA (Nat.le_trans hh HSZ.out) HN.out).mono ?_; rintro e w' ⟨rfl, hB'⟩; rw [HL3.out]))
        go_ret
        exact ⟨by rw [HM.out]; rfl, HG.out.trans (hB'.mono HSZ.out)⟩
    · have HM := Lib.hid (left_gt (l := m) (n := n.size + t.size + (al.length + asSize al)) (by omega))
      go_enter Try.func6, Try.ntmps6
      go_wp2
      go_ret
      exact ⟨by rw [HM.out]; rfl, HG.out⟩
  · have HM := Lib.hid (left_gt (l := m) (n := n.size + t.size + (al.length + asSize al)) (by omega))
    go_enter Try.func6, Try.ntmps6
    go_wp2
    go_ret
    exact ⟨by rw [HM.out]; rfl, HG.out⟩

/-- a token that is handed back from a variable -/
theorem ret_tok {fn : Func} {p : Tmp} {R : Ending → World → Prop} {a : Act} {W : World} {g : Nat} {v0 v1 v2 v3 v4 v5 v6 : Value} (hres : fn.results = #[.cell p 29])
    (hL : Lay W g #[v0, v1, v2, v3, v4, v5, v6]) (hp : a.tmps.getD p undef = .pointer (some ⟨g, 0, none⟩)) (hd : a.defers = []) (hR : R (.returned (.agg #[v0, v1, v2, v3, v4, v5, v6])) W) : bodyPost Try.prog fn R .ret a W := by
  refine bodyPost_ret (v := .agg #[v0, v1, v2, v3, v4, v5, v6]) ?_ hd hR
  have hp' : a.tmps[p]?.getD undef = .pointer (some ⟨g, 0, none⟩) := by simpa using hp
  have h0 := hL.1
  simp [results, hres, hp', go_sem, h0]

theorem toToken_any (k a l : Int) (n t : ByteArray) (al : List (ByteArray × ByteArray)) (s : Bool) (w : World) (A : Option Addr) (c b o hi : Nat) (hll : al.length ≤ 1048576)
    (_ : n.size ≤ maxLen) (_ : t.size ≤ maxLen) (hA : RowAt 0 hi A al.length b o) (hal : AsAt w b o al) (hh : hi ≤ w.heap.size) :
    Calls Try.prog 8 #[.agg #[.int .i64 k, .int .i64 a, .int .i64 l, .string n, .string t, .slice A al.length c, .bool s]] w fun e w' =>
      ∃ g, e = .returned (.agg #[.int .i64 k, .int .i64 a, .int .i64 l, .string n, .string t, .slice (some ⟨g, 0, none⟩) al.length al.length, .bool s]) ∧ Below w.heap.size w w' ∧
        w.heap.size ≤ g ∧ g < w'.heap.size ∧ AsAt w' g 0 al := by
  have HA := Lib.hid hA
  have HN := Lib.hid hal
  clear hal hA
  go_enter Try.func8, Try.ntmps8
  go_wp2_with (go_at_call 28; go_loud (refine (toAttrS_any al _ A c b o hi HA.out hll ?a1 ?a2).mono ?a3; (case a1 => (simp; omega)); (case a2 => exact al_below HA.out HN.out (by go_grown) hh); rintro e w' ⟨rfl, hB', hlt, hat⟩; simp only [World.size_alloc] at hB' hlt hat ⊢; obtain ⟨L1, L2, L3, B3⟩ := three_lay hB'; have r6 := L1.1 6; have e0 := L3.1 0; have e1 := L3.1 1; have e2 := L3.1 2; have e3 := L3.1 3; have e4 := L3.1 4; have e5 := L3.1 5; have e6 := L3.1 6; have f5 := L3.2 5; have f6 := L3.2 6; have n0 := L2.1; have n1 := L2.2; have KB := Lib.hid B3; have KA := Lib.hid hat; have KL := Lib.hid hlt; clear L1 L2 L3 B3 hat hB' hlt; simp at r6 e0 e1 e2 e3 e4 e5 e6))
  (try simp only [Exit.inBlock, Exit.then])
  have M2 : Lay w' (w.heap.size + 1) _ := ⟨n0, n1⟩
  have M3 := ((((((((M2.setOther (g' := w.heap.size + 1 + 1) (by omega) 5 (.slice (some ⟨w.heap.size + 1 + 1 + 1, 0, none⟩) al.length al.length)).setOther (g' := w.heap.size + 1 + 1) (by omega) 6 (.bool s)).set 0 (.int .i64 k)).set 1 (.int .i64 a)).set 2 (.int .i64 l)).set 3 (.string n)).set 4 (.string t)).set 5 (.slice (some ⟨w.heap.size + 1 + 1 + 1, 0, none⟩) al.length al.length)).set 6 (.bool s)
  have hKL := KL.out
  refine ret_tok rfl M3 rfl rfl ⟨_, rfl, ?_, ?_, ?_, ?_⟩
  · refine Below.trans (b := w') KB.out ?_
    go_grown
  · omega
  · simp; omega
  · refine KA.out.carry fun o => ?_
    have p1 : w.heap.size + 1 ≠ w.heap.size + 1 + 1 + 1 := by omega
    have p2 : w.heap.size + 1 + 1 ≠ w.heap.size + 1 + 1 + 1 := by omega
    rw [oth p1, oth p1, oth p1, oth p1, oth p1, oth p1, oth p1, oth p2, oth p2]

theorem eqToken_same (k a l : Int) (n t : ByteArray) (al : List (ByteArray × ByteArray)) (s : Bool) (w : World) (A A' : Option Addr) (c c' b o b' o' lo hi lo' hi' : Nat)
    (hA : RowAt lo hi A al.length b o) (hal : AsAt w b o al) (hh : hi ≤ w.heap.size) (hA' : RowAt lo' hi' A' al.length b' o') (hal' : AsAt w b' o' al) (hh' : hi' ≤ w.heap.size) :
    Calls Try.prog 10 #[.agg #[.int .i64 k, .int .i64 a, .int .i64 l, .string n, .string t, .slice A al.length c, .bool s], .agg #[.int .i64 k, .int .i64 a, .int .i64 l, .string n, .string t, .slice A' al.length c', .bool s]] w fun e w' =>
      e = .returned (.bool true) ∧ Below w.heap.size w w' := by
  have HA := Lib.hid hA
  have HN := Lib.hid hal
  have HA' := Lib.hid hA'
  have HN' := Lib.hid hal'
  clear hal hA hal' hA'
  go_enter Try.func10, Try.ntmps10
  go_wp2_with (go_at_call 30; go_loud (refine (eqAttrS_same al _ A A' c c' b b' o o' lo hi lo' hi' HA.out HA'.out ?a1 ?a2 ?a3 ?a4).mono ?a5; (case a1 => (simp; omega)); (case a2 => (simp; omega)); (case a3 => exact al_below HA.out HN.out (by go_grown) hh); (case a4 => exact al_below HA'.out HN'.out (by go_grown) hh'); rintro e w1 ⟨rfl, hB'⟩; simp only [World.size_alloc] at hB'; obtain ⟨L1, L2, B3⟩ := two_lay hB'; have r6 := L1.1 6; have r6' := L2.1 6; have KB := Lib.hid B3; simp at r6 r6'; clear L1 L2 B3 hB'))
  go_ret
  exact ⟨rfl, KB.out⟩
end Go.Proofs.Ytgkkmoliobhpiaa
