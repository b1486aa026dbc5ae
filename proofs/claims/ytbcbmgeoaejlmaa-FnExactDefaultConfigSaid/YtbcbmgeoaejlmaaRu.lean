
import Derived.Test.YtbcbmgeoaejlmaaNm
import Derived.Test.YtbcbmgeoaejlmaaEq
namespace Go.Proofs.Ytbcbmgeoaejlmaa
open Go.ChangeShapes Go.WideShapes Go.ChangeAt Go.RowKit Go.Deep

theorem lay3 {w : World} {g : Nat} {v0 v1 v2 : Value} (h : Lay w g #[v0, v1, v2]) : w.cell? ⟨g, 0, none⟩ = some v0 ∧ w.cell? ⟨g, 1, none⟩ = some v1 ∧ w.cell? ⟨g, 2, none⟩ = some v2 := ⟨h.1 0, h.1 1, h.1 2⟩
theorem Lay.drew3 {w : World} {g : Nat} {cs : Array Value} (h : Lay w g cs) : Lay w.drew g cs := ⟨h.1, h.2⟩
/-- a rule: its space, its name, its attributes -/
abbrev Ru := Int × ByteArray × List ByteArray
/-- a rule's cells -/
def RuAt (w : World) (g o : Nat) (x : Ru) : Prop :=
  w.cell? ⟨g, o, none⟩ = some (.int .i64 x.1) ∧ w.cell? ⟨g, o + 1, none⟩ = some (.string x.2.1) ∧ x.2.1.size ≤ maxLen ∧ ∃ B c, w.cell? ⟨g, o + 2, none⟩ = some (.slice B x.2.2.length c) ∧ x.2.2.length ≤ c ∧ NmIn w B x.2.2
theorem RuAt.next {w w' : World} {g o : Nat} {x : Ru} (h : RuAt w g o x) (hB : Below w.heap.size w w') : RuAt w' g o x := by
  obtain ⟨h1, h2, h3, B, c, h4, hc, h5⟩ := h
  have hg : g < w.heap.size := World.block_lt_of_cell? w _ h1
  exact ⟨(hB.cell (p := ⟨g, o, none⟩) hg).trans h1, (hB.cell (p := ⟨g, o + 1, none⟩) hg).trans h2, h3, B, c, (hB.cell (p := ⟨g, o + 2, none⟩) hg).trans h4, hc, h5.next hB⟩
/-- rules that stand somewhere -/
def RuIn (w : World) (A : Option Addr) (l : List Ru) : Prop :=
  l.length ≤ maxLen ∧ (l = [] ∨ ∃ g o, A = some ⟨g, o, none⟩ ∧ ∀ k (h : k < l.length), RuAt w g (o + k * 3) l[k])
theorem RuIn.next {w w' : World} {A : Option Addr} {l : List Ru} (h : RuIn w A l) (hB : Below w.heap.size w w') : RuIn w' A l := by
  refine ⟨h.1, ?_⟩
  rcases h.2 with h | ⟨g, o, e, h⟩
  · exact Or.inl h
  · exact Or.inr ⟨g, o, e, fun k hk => (h k hk).next hB⟩
theorem RuIn.drew {w : World} {A : Option Addr} {l : List Ru} (h : RuIn w A l) : RuIn w.drew A l := h.next (Below.refl _ _).drew
theorem RuIn.nil (w : World) (A : Option Addr) : RuIn w A [] := ⟨Nat.zero_le _, Or.inl rfl⟩
/-- .. the k-th -/
theorem RuIn.get {w : World} {A : Option Addr} {l : List Ru} (h : RuIn w A l) {k : Nat} (hk : k < l.length) : ∃ g o, A = some ⟨g, o, none⟩ ∧ g < w.heap.size ∧ RuAt w g (o + k * 3) l[k] := by
  rcases h.2 with h | ⟨g, o, e, h⟩
  · subst h; exact absurd hk (Nat.not_lt_zero _)
  · exact ⟨g, o, e, World.block_lt_of_cell? w _ (h k hk).1, h k hk⟩
theorem RuIn.take {w : World} {A : Option Addr} {l : List Ru} (h : RuIn w A l) (k : Nat) : RuIn w A (l.take k) := by
  refine ⟨by have := h.1; simp; omega, ?_⟩
  rcases h.2 with h | ⟨g, o, e, h⟩
  · subst h; exact Or.inl (by simp)
  · exact Or.inr ⟨g, o, e, fun j hj => by
      have hj' : j < l.length := by simp at hj; omega
      rw [List.getElem_take]; exact h j hj'⟩

def ruSize (x : Ru) : Nat := x.2.1.size + (x.2.2.length + nmSize x.2.2)
def rusSize : List Ru → Nat
  | [] => 0
  | x :: r => ruSize x + rusSize r
theorem rusSize_take {l : List Ru} {k : Nat} (hk : k < l.length) : rusSize (l.take (k + 1)) = rusSize (l.take k) + ruSize l[k] := by
  induction l generalizing k with
  | nil => exact absurd hk (Nat.not_lt_zero _)
  | cons x r ih =>
    cases k with
    | zero => simp [rusSize]
    | succ k => simp only [List.take_succ_cons, rusSize, List.getElem_cons_succ]; rw [ih (by simpa using hk)]; omega
theorem rusSize_le (l : List Ru) (k : Nat) : rusSize (l.take k) ≤ rusSize l := by
  induction l generalizing k with
  | nil => simp [rusSize]
  | cons x r ih =>
    cases k with
    | zero => simp [rusSize]
    | succ k => simp only [List.take_succ_cons, rusSize]; have := ih k; omega

theorem szRule_any (sp : Int) (n : ByteArray) (al : List ByteArray) (m : Nat) (w : World) (A : Option Addr) (c : Nat) (hm : m ≤ 1048576) (hn : n.size ≤ maxLen) (h : NmIn w A al) :
    Calls Try.prog 119 #[.agg #[.int .i64 sp, .string n, .slice A al.length c], .int .i64 (m : Int)] w fun e w' => e = .returned (.int .i64 (left m (ruSize (sp, n, al)))) ∧ Below w.heap.size w w' := by
  have hg := (Below.refl w.heap.size w).alloc (Nat.le_refl _) (.cells #[.int .i64 sp, .string n, .slice A al.length c] 136)
  have HN := Lib.hid (h.next hg)
  have HG := Lib.hid hg
  clear h hg
  unfold maxLen at hn
  unfold ruSize
  simp only
  by_cases c1 : n.size ≤ m
  · by_cases c3 : al.length + nmSize al ≤ m - n.size
    · have HL3 := Lib.hid (left_le c3)
      have HM := Lib.hid (left_le (l := m) (n := n.size + (al.length + nmSize al)) (by omega))
      have hnn : 0 ≤ ((m - n.size : Nat) : Int) - ((al.length + nmSize al : Nat) : Int) := by omega
      go_enter Try.func119, Try.ntmps119
      go_wp2_with (go_at_call 61; rw [show (m : Int) - (n.size : Int) = ((m - n.size : Nat) : Int) by omega]; go_loud (refine (szStringS_any al (m - n.size) _ A c (by omega) HN.out).mono ?_; rintro e w' ⟨rfl, rfl⟩; rw [HL3.out]))
      go_ret
      exact ⟨by rw [HM.out]; go_num, HG.out⟩
    · have HL3 := Lib.hid (left_gt c3)
      have HM := Lib.hid (left_gt (l := m) (n := n.size + (al.length + nmSize al)) (by omega))
      go_enter Try.func119, Try.ntmps119
      go_wp2_with (go_at_call 61; rw [show (m : Int) - (n.size : Int) = ((m - n.size : Nat) : Int) by omega]; go_loud (refine (szStringS_any al (m - n.size) _ A c (by omega) HN.out).mono ?_; rintro e w' ⟨rfl, rfl⟩; rw [HL3.out]))
      go_ret
      exact ⟨by rw [HM.out]; rfl, HG.out⟩
  · have HM := Lib.hid (left_gt (l := m) (n := n.size + (al.length + nmSize al)) (by omega))
    go_enter Try.func119, Try.ntmps119
    go_wp2
    go_ret
    exact ⟨by rw [HM.out]; rfl, HG.out⟩

/-- a rule that is handed back from a variable -/
theorem ret_rule {fn : Func} {p : Tmp} {R : Ending → World → Prop} {a : Act} {W : World} {g : Nat} {v0 v1 v2 : Value} (hres : fn.results = #[.cell p 89])
    (hL : Lay W g #[v0, v1, v2]) (hp : a.tmps.getD p undef = .pointer (some ⟨g, 0, none⟩)) (hd : a.defers = []) (hR : R (.returned (.agg #[v0, v1, v2])) W) : bodyPost Try.prog fn R .ret a W := by
  refine bodyPost_ret (v := .agg #[v0, v1, v2]) ?_ hd hR
  have hp' : a.tmps[p]?.getD undef = .pointer (some ⟨g, 0, none⟩) := by simpa using hp
  have h0 := hL.1
  simp [results, hres, hp', go_sem, h0]

theorem toRule_any (sp : Int) (n : ByteArray) (al : List ByteArray) (w : World) (A : Option Addr) (c : Nat) (hll : al.length ≤ 1048576) (_ : n.size ≤ maxLen) (h : NmIn w A al) :
    Calls Try.prog 127 #[.agg #[.int .i64 sp, .string n, .slice A al.length c]] w fun e w' =>
      ∃ g, e = .returned (.agg #[.int .i64 sp, .string n, .slice (some ⟨g, 0, none⟩) al.length al.length]) ∧ Below w.heap.size w w' ∧ w.heap.size ≤ g ∧ NmIn w' (some ⟨g, 0, none⟩) al := by
  have HA := Lib.hid h
  clear h
  go_enter Try.func127, Try.ntmps127
  go_wp2_with (go_at_call 66; go_loud (refine (toStringS_any al _ A c hll ?a1).mono ?a3; (case a1 => exact HA.out.next (by go_grown)); rintro e w' ⟨rfl, hB', hat⟩; simp only [World.size_alloc] at hB' hat ⊢; obtain ⟨L1, L2, L3, B3⟩ := three_lay hB'; have r2 := L1.1 2; have e0 := L3.1 0; have e1 := L3.1 1; have e2 := L3.1 2; have f2 := L3.2 2; have n0 := L2.1; have n1 := L2.2; have KB := Lib.hid B3; have KA := Lib.hid hat; clear L1 L2 L3 B3 hat hB'; simp at r2 e0 e1 e2))
  (try simp only [Exit.inBlock, Exit.then])
  have M2 : Lay w' (w.heap.size + 1) _ := ⟨n0, n1⟩
  have M3 := (((M2.setOther (g' := w.heap.size + 1 + 1) (by omega) 2 (.slice (some ⟨w.heap.size + 1 + 1 + 1, 0, none⟩) al.length al.length)).set 0 (.int .i64 sp)).set 1 (.string n)).set 2 (.slice (some ⟨w.heap.size + 1 + 1 + 1, 0, none⟩) al.length al.length)
  refine ret_rule rfl M3 rfl rfl ⟨_, rfl, ?_, ?_, ?_⟩
  · refine Below.trans (b := w') KB.out ?_
    go_grown
  · omega
  · refine KA.out.carry fun g o hg _ j _ => ?_
    obtain ⟨rfl, _⟩ := addr_inj hg
    have p1 : w.heap.size + 1 ≠ w.heap.size + 1 + 1 + 1 := by omega
    have p2 : w.heap.size + 1 + 1 ≠ w.heap.size + 1 + 1 + 1 := by omega
    rw [oth p1, oth p1, oth p1, oth p2]

theorem eqRule_same (sp : Int) (n : ByteArray) (al : List ByteArray) (w : World) (A A' : Option Addr) (c c' : Nat) (h : NmIn w A al) (h' : NmIn w A' al) :
    Calls Try.prog 133 #[.agg #[.int .i64 sp, .string n, .slice A al.length c], .agg #[.int .i64 sp, .string n, .slice A' al.length c']] w fun e w' => e = .returned (.bool true) ∧ Below w.heap.size w w' := by
  have HA := Lib.hid h
  have HA' := Lib.hid h'
  clear h h'
  go_enter Try.func133, Try.ntmps133
  go_wp2_with (go_at_call 47; go_loud (refine (eqNm_same al _ A A' c c' ?a3 ?a4).mono ?a5; (case a3 => exact HA.out.next (by go_grown)); (case a4 => exact HA'.out.next (by go_grown)); rintro e w1 ⟨rfl, hB'⟩; simp only [World.size_alloc] at hB'; obtain ⟨L1, L2, B3⟩ := two_lay hB'; have KB := Lib.hid B3; clear L1 L2 B3 hB'))
  go_ret
  exact ⟨rfl, KB.out⟩
end Go.Proofs.Ytbcbmgeoaejlmaa
