
import Derived.Test.YtbcbmgeoaejlmaaRuB
import Derived.Shelf.Abstract
namespace Go.Proofs.Ytbcbmgeoaejlmaa
open Go.ChangeShapes Go.WideShapes Go.ChangeAt Go.RowKit Go.Deep

/-- a rule of that space and name -/
def ruIs (sp : Int) (n : ByteArray) (x : Ru) : Bool := (x.1 == sp) && (x.2.1.toList == n.toList)
def hasRu (l : List Ru) (sp : Int) (n : ByteArray) : Bool := l.any (ruIs sp n)
theorem hasRu_take {l : List Ru} {sp : Int} {n : ByteArray} {k : Nat} (hk : k < l.length) : hasRu (l.take (k + 1)) sp n = (hasRu (l.take k) sp n || ruIs sp n l[k]) := by
  unfold hasRu; rw [List.take_succ_eq_append_getElem hk, List.any_append]; simp only [List.any_cons, List.any_nil, Bool.or_false]
theorem hasRu_hit {l : List Ru} {sp : Int} {n : ByteArray} {k : Nat} (hk : k < l.length) (h : ruIs sp n l[k] = true) : hasRu l sp n = true := by
  rw [hasRu, List.any_eq_true]; exact ⟨_, List.getElem_mem hk, h⟩
/-- the first k of them differ in space or name -/
def disGo (l : List Ru) : Nat → Bool
  | 0 => true
  | k + 1 => disGo l k && (match l[k]? with | some x => !hasRu (l.take k) x.1 x.2.1 | none => true)
theorem disGo_succ {l : List Ru} {k : Nat} (hk : k < l.length) : disGo l (k + 1) = (disGo l k && !hasRu (l.take k) l[k].1 l[k].2.1) := by
  rw [disGo, List.getElem?_eq_getElem hk]
theorem disGo_false {l : List Ru} {k : Nat} : ∀ {m : Nat}, k ≤ m → disGo l k = false → disGo l m = false
  | 0, h, h2 => by rw [Nat.le_zero.1 h] at h2; exact h2
  | m + 1, h, h2 => by
    by_cases e : k = m + 1
    · subst e; exact h2
    · rw [disGo, disGo_false (m := m) (by omega) h2]; rfl
/-- the rules of a list are so, and (ats or not) have attributes -/
def bareB (ats : Bool) (x : Ru) : Bool := ats || (x.2.2.length == 0)
noncomputable def rulesB (ats : Bool) (l : List Ru) : Bool := decide (l.length ≤ 10) && l.all ruleB && disGo l l.length && l.all (bareB ats)

theorem all_step {α : Type} {p : α → Bool} {l : List α} {k : Nat} (hk : k < l.length) (h : (l.take k).all p = true) (h2 : p l[k] = true) : (l.take (k + 1)).all p = true := by
  rw [List.take_succ_eq_append_getElem hk, List.all_append, h]; simp [h2]
theorem all_no {α : Type} {p : α → Bool} {l : List α} {k : Nat} (hk : k < l.length) (h2 : p l[k] = false) : l.all p = false := by
  rw [List.all_eq_false]; exact ⟨l[k], List.getElem_mem hk, by simp [h2]⟩
theorem any_no {α : Type} {p : α → Bool} {l : List α} {k : Nat} (hk : k < l.length) (h : (l.take k).any p = false) (h2 : p l[k] = false) : (l.take (k + 1)).any p = false := by
  rw [List.take_succ_eq_append_getElem hk, List.any_append, h]; simp [h2]
theorem any_hit {α : Type} {p : α → Bool} {l : List α} {k : Nat} (hk : k < l.length) (h2 : p l[k] = true) : l.any p = true := by
  rw [List.any_eq_true]; exact ⟨l[k], List.getElem_mem hk, h2⟩

/-- what a function over rules answers -/
def RuFn (P : Program) (g : Nat) (first cap : Array Value) (p : Ru → Bool) (l : List Ru) (w : World) : Prop :=
  ∀ k (h : k < l.length) (W : World) (B : Option Addr) (cc : Nat), Below w.heap.size w W → l[k].2.1.size ≤ maxLen → l[k].2.2.length ≤ cc → NmIn W B l[k].2.2 →
    Calls P g (first ++ #[.agg #[.int .i64 l[k].1, .string l[k].2.1, .slice B l[k].2.2.length cc]] ++ cap) W fun e w' => e = .returned (.bool (p l[k])) ∧ Below W.heap.size W w'

theorem ruIndexFunc_any (g : Nat) (first cap : Array Value) (p : Ru → Bool) (eg : ∀ args w, (callFunc g args).run Try.prog w = .ok (.enter g args) w) (l : List Ru) (w : World) (A : Option Addr) (c : Nat) (hl : RuIn w A l) (hf : RuFn Try.prog g first cap p l w) :
    Calls Try.prog 179 #[.slice A l.length c, .func (.func g) first cap] w fun e w' => ∃ k : Int, e = .returned (.int .i64 k) ∧ decide (0 ≤ k) = l.any p ∧ Below w.heap.size w w' := by
  have hml := hl.1
  unfold maxLen at hml
  have HL := Lib.hid hl
  have HF := Lib.hid hf
  clear hl hf
  go_enter Try.func179, Try.ntmps179
  go_wp2
  go_loopw [8] (fun i wr => ∃ k : Nat, i = .int .i64 (k : Int) ∧ k ≤ l.length ∧ Hid ((l.take k).any p = false ∧ Below w.heap.size w wr)) (fun i wr => l.length - (intOf i).toNat)
  case atStart => exact ⟨0, rfl, Nat.zero_le _, Lib.hid ⟨by simp, Below.refl _ _⟩⟩
  case round =>
    obtain ⟨k, rfl, hk, HH⟩ := hrel
    by_cases hkl : k < l.length
    · obtain ⟨b, o, rfl, hlt, t1, t2, t3, B, cc, t4, t6, t5⟩ := (HL.out.next HH.out.2).get hkl
      have hc := HF.out k hkl wr B cc HH.out.2 t3 t6 t5
      clear t3 t5 t6
      by_cases ho : p l[k] = true
      · have HO := Lib.hid ho
        clear ho
        go_wp2_with (go_at_fn g; refine hc.mono ?_; rintro e w' ⟨rfl, hB⟩; rw [HO.out]; have HB := Lib.hid hB; clear hB)
        go_ret
        exact ⟨(k : Int), rfl, by rw [any_hit hkl HO.out]; first | done | simp, HH.out.2.trans (HB.out.mono HH.out.2.size)⟩
      · have ho' : p l[k] = false := by simpa using ho
        have HO := Lib.hid ho'
        clear ho ho'
        go_wp2_with (go_at_fn g; refine hc.mono ?_; rintro e w' ⟨rfl, hB⟩; rw [HO.out]; have HB := Lib.hid hB; clear hB)
        go_roundw
        case rel => exact ⟨k + 1, by go_num, by omega, Lib.hid ⟨any_no hkl HH.out.1 HO.out, HH.out.2.trans (HB.out.mono HH.out.2.size)⟩⟩
        case measure => simp [intOf]; omega
    · obtain rfl : k = l.length := by omega
      go_wp2
      go_ret
      exact ⟨-1, rfl, by have := HH.out.1; rw [List.take_length] at this; rw [this]; rfl, HH.out.2⟩
theorem ruContainsFunc_any (g : Nat) (first cap : Array Value) (p : Ru → Bool) (eg : ∀ args w, (callFunc g args).run Try.prog w = .ok (.enter g args) w) (l : List Ru) (w : World) (A : Option Addr) (c : Nat) (hl : RuIn w A l) (hf : RuFn Try.prog g first cap p l w) :
    Calls Try.prog 143 #[.slice A l.length c, .func (.func g) first cap] w fun e w' => e = .returned (.bool (l.any p)) ∧ Below w.heap.size w w' := by
  have HL := Lib.hid hl
  have HF := Lib.hid hf
  clear hl hf
  go_enter Try.func143, Try.ntmps143
  go_wp2_with (go_at_call 179; refine (ruIndexFunc_any g first cap p eg l _ A c HL.out HF.out).mono ?_; rintro e w' ⟨k, rfl, hk, hB⟩; have HK := Lib.hid hk; have HB := Lib.hid hB; clear hk hB)
  go_ret
  exact ⟨ret_bool (by rw [← HK.out]), HB.out⟩

/-- what a function over texts answers -/
def NmFn (P : Program) (g : Nat) (first cap : Array Value) (p : ByteArray → Bool) (l : List ByteArray) (w : World) : Prop :=
  ∀ k (h : k < l.length) (W : World), Below w.heap.size w W → l[k].size ≤ maxLen → Calls P g (first ++ #[.string l[k]] ++ cap) W fun e w' => e = .returned (.bool (p l[k])) ∧ Below W.heap.size W w'
theorem nmIndexFunc_any (g : Nat) (first cap : Array Value) (p : ByteArray → Bool) (eg : ∀ args w, (callFunc g args).run Try.prog w = .ok (.enter g args) w) (l : List ByteArray) (w : World) (A : Option Addr) (c : Nat) (hl : NmIn w A l) (hf : NmFn Try.prog g first cap p l w) :
    Calls Try.prog 194 #[.slice A l.length c, .func (.func g) first cap] w fun e w' => ∃ k : Int, e = .returned (.int .i64 k) ∧ decide (0 ≤ k) = l.any p ∧ Below w.heap.size w w' := by
  have hml := hl.1
  unfold maxLen at hml
  have HL := Lib.hid hl
  have HF := Lib.hid hf
  clear hl hf
  go_enter Try.func194, Try.ntmps194
  go_wp2
  go_loopw [8] (fun i wr => ∃ k : Nat, i = .int .i64 (k : Int) ∧ k ≤ l.length ∧ Hid ((l.take k).any p = false ∧ Below w.heap.size w wr)) (fun i wr => l.length - (intOf i).toNat)
  case atStart => exact ⟨0, rfl, Nat.zero_le _, Lib.hid ⟨by simp, Below.refl _ _⟩⟩
  case round =>
    obtain ⟨k, rfl, hk, HH⟩ := hrel
    by_cases hkl : k < l.length
    · obtain ⟨b, o, rfl, hlt, t1, t3⟩ := (HL.out.next HH.out.2).get hkl
      have hc := HF.out k hkl wr HH.out.2 t3
      clear t3
      by_cases ho : p l[k] = true
      · have HO := Lib.hid ho
        clear ho
        go_wp2_with (go_at_fn g; refine hc.mono ?_; rintro e w' ⟨rfl, hB⟩; rw [HO.out]; have HB := Lib.hid hB; clear hB)
        go_ret
        exact ⟨(k : Int), rfl, by rw [any_hit hkl HO.out]; first | done | simp, HH.out.2.trans (HB.out.mono HH.out.2.size)⟩
      · have ho' : p l[k] = false := by simpa using ho
        have HO := Lib.hid ho'
        clear ho ho'
        go_wp2_with (go_at_fn g; refine hc.mono ?_; rintro e w' ⟨rfl, hB⟩; rw [HO.out]; have HB := Lib.hid hB; clear hB)
        go_roundw
        case rel => exact ⟨k + 1, by go_num, by omega, Lib.hid ⟨any_no hkl HH.out.1 HO.out, HH.out.2.trans (HB.out.mono HH.out.2.size)⟩⟩
        case measure => simp [intOf]; omega
    · obtain rfl : k = l.length := by omega
      go_wp2
      go_ret
      exact ⟨-1, rfl, by have := HH.out.1; rw [List.take_length] at this; rw [this]; rfl, HH.out.2⟩
theorem nmContainsFunc_any (g : Nat) (first cap : Array Value) (p : ByteArray → Bool) (eg : ∀ args w, (callFunc g args).run Try.prog w = .ok (.enter g args) w) (l : List ByteArray) (w : World) (A : Option Addr) (c : Nat) (hl : NmIn w A l) (hf : NmFn Try.prog g first cap p l w) :
    Calls Try.prog 180 #[.slice A l.length c, .func (.func g) first cap] w fun e w' => e = .returned (.bool (l.any p)) ∧ Below w.heap.size w w' := by
  have HL := Lib.hid hl
  have HF := Lib.hid hf
  clear hl hf
  go_enter Try.func180, Try.ntmps180
  go_wp2_with (go_at_call 194; refine (nmIndexFunc_any g first cap p eg l _ A c HL.out HF.out).mono ?_; rintro e w' ⟨k, rfl, hk, hB⟩; have HK := Lib.hid hk; have HB := Lib.hid hB; clear hk hB)
  go_ret
  exact ⟨ret_bool (by rw [← HK.out]), HB.out⟩

theorem isNoRule_any (sp : Int) (n : ByteArray) (al : List ByteArray) (w : World) (A : Option Addr) (c : Nat) (hn : n.size ≤ maxLen) (hlc : al.length ≤ c) (hr : NmIn w A al) :
    Calls Try.prog 175 #[.agg #[.int .i64 sp, .string n, .slice A al.length c]] w fun e w' => e = .returned (.bool (!ruleB (sp, n, al))) ∧ Below w.heap.size w w' := by
  have HN := Lib.hid hr
  clear hr
  go_enter Try.func175, Try.ntmps175
  go_wp2_with (go_at_call 193; refine (implRuleOK_any sp n al _ A c hn hlc (HN.out.next (by go_grown))).mono ?_; rintro e w' ⟨rfl, hB⟩; have HB := Lib.hid hB; clear hB)
  go_ret
  exact ⟨rfl, by first | exact HB.out | exact Below.trans (by go_grown) (HB.out.mono (by simp))⟩
theorem hasAttrs_any (sp : Int) (n : ByteArray) (al : List ByteArray) (w : World) (A : Option Addr) (c : Nat) :
    Calls Try.prog 176 #[.agg #[.int .i64 sp, .string n, .slice A al.length c]] w fun e w' => e = .returned (.bool (!bareB false (sp, n, al))) ∧ Below w.heap.size w w' := by
  by_cases h : al.length = 0
  · have hc : ¬ ((al.length : Nat) : Int) > 0 := by omega
    go_enter Try.func176, Try.ntmps176
    go_wp2
    go_ret
    exact ⟨ret_bool (by simp [bareB, h]), by go_grown⟩
  · have hc : ((al.length : Nat) : Int) > 0 := by omega
    go_enter Try.func176, Try.ntmps176
    go_wp2
    go_ret
    exact ⟨ret_bool (by rw [show bareB false (sp, n, al) = false from (by show (false || (al.length == 0)) = false; simpa using h)]; simpa using hc), by go_grown⟩
end Go.Proofs.Ytbcbmgeoaejlmaa
