
import Derived.Test.YtbcbmgeoaejlmaaSwitch
import Derived.Maps.Own
import Derived.Maps.OwnOps
import Derived.Maps.Views
namespace Go.Proofs.Ytbcbmgeoaejlmaa
open Go.ChangeShapes Go.WideShapes Go.ChangeAt Go.RowKit Go.Maps

theorem keysLaw : Keyed Try.prog 9 := string_keyed Try.underlying9
theorem zero4 (w : World) : (zeroValue 4).run Try.prog w = .ok (.bool false) w := by kernel_rfl
/-- block b of w is a map of texts to true, of at most n entries, just those of ls; of what lay in w0 nothing has turned -/
def SetFrom (w0 w : World) (b n : Nat) (ls : List (List UInt8)) : Prop :=
  (∃ D : DataW Unit, IsMap D ∧ w.ownsMap Try.prog 9 (plainElem Try.prog 4) b n D ∧
    ∀ l : List UInt8, D.atKey (.string l) (.lit (.bool false)) = .lit (.bool (ls.any fun x => x == l))) ∧
  Below w0.heap.size w0 w ∧ w0.heap.size ≤ b

theorem setFrom_made (w : World) : SetFrom w (w.alloc (.map #[] 0)) w.heap.size 0 [] :=
  ⟨⟨.map [], isMap_empty, World.ownsMap_made _ _ _ _, fun _ => rfl⟩, (Below.refl _ _).alloc (Nat.le_refl _) _, Nat.le_refl _⟩

theorem key_string (s : ByteArray) (h : s.size ≤ maxLen) : keyOf Try.prog 9 (.string s) = some (.string s.data.toList) := WideMaps.keyOf_string_mk Try.underlying9 h
theorem isKey_string (l : List UInt8) : WideAt.IsKeyLit (.string l) := by simp [WideAt.IsKeyLit]

theorem setFrom_put {w0 w : World} {b n : Nat} {ls : List (List UInt8)} (h : SetFrom w0 w b n ls) (hn : n < maxLen) (l : List UInt8) (hl : l.length ≤ maxLen) :
    ∃ w', (Instr.mapUpdate 167 (.map (some b)) (.string ⟨l.toArray⟩) (.bool true)).run Try.prog w = .ok () w' ∧ SetFrom w0 w' b (n + 1) (ls ++ [l]) := by
  obtain ⟨⟨D, hD, hown, hat⟩, hb, hle⟩ := h
  obtain ⟨w', hrun, hown', hg⟩ := hown.update keysLaw Try.underlying167 hn (key_string ⟨l.toArray⟩ (by simpa [ByteArray.size] using hl)) (plainElem_bool Try.underlying4 true)
  refine ⟨w', hrun, ⟨_, hD.put _ _, hown', fun k => ?_⟩, hb.grown hg hb.size (fun k hk => by cases hk; exact hle), hle⟩
  by_cases e : k = l
  · subst e
    rw [atKey_put_same hD (isKey_string _)]; simp
  · rw [atKey_put_other (by simpa using e), hat k]
    have e2 : (l == k) = false := by rw [beq_eq_false_iff_ne]; exact fun x => e x.symm
    rw [List.any_append]; simp [e2]
theorem wpList_insert_set {ops : Array Oper} {rest : List Oper} {o : Oper} {a : Act} {Q : Exit → Act → World → Prop} (w0 w : World)
    (hg : o.guard = none) (m x v : Operand) (hop : o.op = Op.insert 167 m x v) (b n : Nat) (ls : List (List UInt8)) (l : List UInt8)
    (hm : a.eval m = .map (some b)) (hx : a.eval x = .string ⟨l.toArray⟩) (hv : a.eval v = .bool true) (h : SetFrom w0 w b n ls) (hn : n < maxLen) (hl : l.length ≤ maxLen)
    (hK : ∀ w', SetFrom w0 w' b (n + 1) (ls ++ [l]) → wpList Try.prog ops Q rest (a.put o.dst undef) w') :
    wpList Try.prog ops Q (o :: rest) a w := by
  refine wpList_plain hg fun K' hK' => ?_
  obtain ⟨w', hrun, r⟩ := setFrom_put h hn l hl
  unfold Oper.wp
  simp [execOp, hop, hm, hx, hv, hrun, Result.andThen]
  exact hK' _ _ (hK w' r)

set_option maxRecDepth 100000 in
theorem wpList_lookup_set {ops : Array Oper} {rest : List Oper} {o : Oper} {a : Act} {Q : Exit → Act → World → Prop} (w0 w : World)
    (hg : o.guard = none) (m x : Operand) (hop : o.op = Op.lookup 167 m x false) (b n : Nat) (ls : List (List UInt8)) (s : ByteArray)
    (hm : a.eval m = .map (some b)) (hx : a.eval x = .string s) (h : SetFrom w0 w b n ls) (hs : s.size ≤ maxLen)
    (hK : wpList Try.prog ops Q rest (a.put o.dst (.bool (inL ls s))) w) :
    wpList Try.prog ops Q (o :: rest) a w := by
  refine wpList_plain hg fun K' hK' => ?_
  obtain ⟨⟨D, hD, hown, hat⟩, _⟩ := h
  obtain ⟨u, ps, hrun, hu⟩ := hown.lookup keysLaw Try.underlying167 (zero4 w) (plainElem_bool Try.underlying4 false) (key_string s hs)
  rw [hat, ← ByteArray.toList_eq] at hu
  have hu' : u = .bool (inL ls s) := by
    unfold plainElem at hu
    rw [Try.underlying4] at hu
    cases u <;> simp at hu
    rw [hu.1]; rfl
  subst hu'
  unfold Oper.wp
  simp [execOp, hop, hm, hx, hrun, Result.andThen]
  exact hK' _ _ hK

set_option maxHeartbeats 1000000 in
theorem implIsBanned_any (s : ByteArray) (w : World) (hs : s.size ≤ maxLen) :
    Calls Try.prog 151 #[.string s] w fun e w' => e = .returned (.bool (inL bannedL s)) ∧ Below w.heap.size w w' := by
  have hmm := @run_makeMap Try.prog
  have hset := setFrom_made w
  have HS := Lib.hid hs
  clear hs
  go_enter Try.func151, Try.ntmps151
  go_wp2_with (first | (refine wpList_insert_set w _ rfl _ _ _ rfl _ _ _ _ rfl rfl rfl (by assumption) (by decide) (by decide) ?_; clear hset; intro w1 hset) | (refine wpList_lookup_set w _ rfl _ _ rfl _ _ _ _ rfl rfl hset HS.out ?_))
  go_ret
  exact ⟨rfl, hset.2.1⟩

set_option maxHeartbeats 1000000 in
theorem implIsLink_any (s : ByteArray) (w : World) (hs : s.size ≤ maxLen) :
    Calls Try.prog 171 #[.string s] w fun e w' => e = .returned (.bool (inL linkL s)) ∧ Below w.heap.size w w' := by
  have hmm := @run_makeMap Try.prog
  have hset := setFrom_made w
  have HS := Lib.hid hs
  clear hs
  go_enter Try.func171, Try.ntmps171
  go_wp2_with (first | (refine wpList_insert_set w _ rfl _ _ _ rfl _ _ _ _ rfl rfl rfl (by assumption) (by decide) (by decide) ?_; clear hset; intro w1 hset) | (refine wpList_lookup_set w _ rfl _ _ rfl _ _ _ _ rfl rfl hset HS.out ?_))
  go_ret
  exact ⟨rfl, hset.2.1⟩
end Go.Proofs.Ytbcbmgeoaejlmaa
