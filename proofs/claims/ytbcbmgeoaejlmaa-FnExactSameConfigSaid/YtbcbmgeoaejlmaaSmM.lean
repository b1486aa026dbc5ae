
import Derived.Test.YtbcbmgeoaejlmaaCfData
namespace Go.Proofs.Ytbcbmgeoaejlmaa
open Go.ChangeShapes Go.WideShapes Go.ChangeAt Go.RowKit Go.Deep Go.Maps

/-- the same -/
noncomputable def eqB {α : Type} (a b : α) : Bool := @decide (a = b) (Classical.propDecidable _)
theorem eqB_yes {α : Type} {a b : α} (h : a = b) : true = eqB a b := by simp [eqB, h]
theorem eqB_no {α : Type} {a b : α} (h : a ≠ b) : false = eqB a b := by simp [eqB, h]
theorem list_same {α : Type} {l m : List α} (hl : l.length = m.length) (h : ∀ i, i < l.length → l[i]? = m[i]?) : l = m := by
  apply List.ext_getElem?
  intro i
  by_cases hi : i < l.length
  · exact h i hi
  · rw [List.getElem?_eq_none (by omega), List.getElem?_eq_none (by omega)]

theorem l00SameTexts_any (l m : List ByteArray) (w : World) (A B : Option Addr) (c d : Nat) (hr : NmIn w A l) (hs : NmIn w B m) :
    Calls Try.prog 137 #[.slice A l.length c, .slice B m.length d] w fun e w' => e = .returned (.bool (eqB l m)) ∧ Below w.heap.size w w' := by
  have hl := hr.1
  have hm := hs.1
  unfold maxLen at hl hm
  have HC := Lib.hid hr
  have HD := Lib.hid hs
  clear hr hs
  by_cases hn : l.length = m.length
  · have HN := Lib.hid hn
    go_enter Try.func137, Try.ntmps137
    go_wp2
    go_loopw [5] (fun i wr => ∃ k : Nat, k ≤ l.length ∧ i = .int .i64 k ∧ Hid (∀ i, i < k → l[i]? = m[i]?) ∧ Hid (Below w.heap.size w wr)) (fun i wr => l.length - (intOf i).toNat)
    case atStart => exact ⟨0, by omega, rfl, Lib.hid (fun i h => absurd h (Nat.not_lt_zero _)), Lib.hid (Below.refl _ _)⟩
    case round =>
      obtain ⟨k, hk, rfl, HA, HB⟩ := hrel
      by_cases hlt : k < l.length
      · have hlt2 : k < m.length := by have := HN.out; omega
        obtain ⟨g, o, rfl, hg, t1, _⟩ := HC.out.get hlt
        obtain ⟨g2, o2, rfl, hg2, t2, _⟩ := HD.out.get hlt2
        have s1 := (HB.out.cell (p := ⟨g, o + k, none⟩) hg).trans t1
        have s2 := (HB.out.cell (p := ⟨g2, o2 + k, none⟩) hg2).trans t2
        clear t1 t2
        cases hf : (l[k].toList == m[k].toList) with
        | false =>
          have HF := Lib.hid hf
          go_wp2
          go_quiet (fail)
          go_wp2
          go_ret
          exact ⟨ret_bool (eqB_no (fun e => by have := HF.out; simp only [e] at this; simp at this)), below_drewN HB.out _⟩
        | true =>
          have HF := Lib.hid hf
          go_wp2
          go_quiet (fail)
          go_wp2
          go_roundw
          case rel => exact ⟨k + 1, by omega, by go_num, Lib.hid (fun i hi => by
            by_cases hik : i < k
            · exact HA.out i hik
            · obtain rfl : i = k := by omega
              rw [List.getElem?_eq_getElem hlt, List.getElem?_eq_getElem hlt2]; exact congrArg some (ba_same (by simpa using HF.out))), Lib.hid (below_drewN HB.out _)⟩
          case measure => simp [intOf]; omega
      · obtain rfl : k = l.length := by omega
        go_wp2
        go_ret
        exact ⟨ret_bool (eqB_yes (list_same HN.out HA.out)), HB.out⟩
  · have hn' : ¬ (l.length : Int) = (m.length : Int) := by omega
    have HN := Lib.hid hn
    go_enter Try.func137, Try.ntmps137
    go_wp2
    go_ret
    exact ⟨ret_bool (eqB_no (fun e => HN.out (by rw [e]))), Below.refl _ _⟩
theorem slicesEqual_any (l m : List ByteArray) (w : World) (A B : Option Addr) (c d : Nat) (hr : NmIn w A l) (hs : NmIn w B m) :
    Calls Try.prog 76 #[.slice A l.length c, .slice B m.length d] w fun e w' => e = .returned (.bool (eqB l m)) ∧ Below w.heap.size w w' := by
  have hl := hr.1
  have hm := hs.1
  unfold maxLen at hl hm
  have HC := Lib.hid hr
  have HD := Lib.hid hs
  clear hr hs
  by_cases hn : l.length = m.length
  · have HN := Lib.hid hn
    go_enter Try.func76, Try.ntmps76
    go_wp2
    go_loopw [13] (fun i wr => ∃ k : Nat, k ≤ l.length ∧ i = .int .i64 k ∧ Hid (∀ i, i < k → l[i]? = m[i]?) ∧ Hid (Below w.heap.size w wr)) (fun i wr => l.length - (intOf i).toNat)
    case atStart => exact ⟨0, by omega, rfl, Lib.hid (fun i h => absurd h (Nat.not_lt_zero _)), Lib.hid (Below.refl _ _)⟩
    case round =>
      obtain ⟨k, hk, rfl, HA, HB⟩ := hrel
      by_cases hlt : k < l.length
      · have hlt2 : k < m.length := by have := HN.out; omega
        obtain ⟨g, o, rfl, hg, t1, _⟩ := HC.out.get hlt
        obtain ⟨g2, o2, rfl, hg2, t2, _⟩ := HD.out.get hlt2
        have s1 := (HB.out.cell (p := ⟨g, o + k, none⟩) hg).trans t1
        have s2 := (HB.out.cell (p := ⟨g2, o2 + k, none⟩) hg2).trans t2
        clear t1 t2
        cases hf : (l[k].toList == m[k].toList) with
        | false =>
          have HF := Lib.hid hf
          go_wp2
          go_quiet (fail)
          go_wp2
          go_ret
          exact ⟨ret_bool (eqB_no (fun e => by have := HF.out; simp only [e] at this; simp at this)), below_drewN HB.out _⟩
        | true =>
          have HF := Lib.hid hf
          go_wp2
          go_quiet (fail)
          go_wp2
          go_roundw
          case rel => exact ⟨k + 1, by omega, by go_num, Lib.hid (fun i hi => by
            by_cases hik : i < k
            · exact HA.out i hik
            · obtain rfl : i = k := by omega
              rw [List.getElem?_eq_getElem hlt, List.getElem?_eq_getElem hlt2]; exact congrArg some (ba_same (by simpa using HF.out))), Lib.hid (below_drewN HB.out _)⟩
          case measure => simp [intOf]; omega
      · obtain rfl : k = l.length := by omega
        go_wp2
        go_ret
        exact ⟨ret_bool (eqB_yes (list_same HN.out HA.out)), HB.out⟩
  · have hn' : ¬ (l.length : Int) = (m.length : Int) := by omega
    have HN := Lib.hid hn
    go_enter Try.func76, Try.ntmps76
    go_wp2
    go_ret
    exact ⟨ret_bool (eqB_no (fun e => HN.out (by rw [e]))), Below.refl _ _⟩
end Go.Proofs.Ytbcbmgeoaejlmaa
