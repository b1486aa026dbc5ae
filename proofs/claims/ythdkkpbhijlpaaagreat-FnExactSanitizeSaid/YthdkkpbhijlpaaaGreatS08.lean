import Derived.WalkSmall
import Derived.Shelf.Abstract
import Derived.Maps.Own
import Derived.Maps.OwnOps
import Derived.Maps.OwnSet
import Derived.Maps.Views
import Derived.DeepKeys4
import Derived.Deep.RegionHeld3
import Derived.Test.YthdkkpbhijlpaaaGreatS07
import Derived.Test.YthdkkpbhijlpaaaGreatS05
import Derived.Test.YthdkkpbhijlpaaaGreatS03
import Derived.Test.YthdkkpbhijlpaaaGreatS00
import Derived.Test.YthdkkpbhijlpaaaGreatS06
set_option linter.unusedVariables false
namespace Go.Proofs.YthdkkpbhijlpaaaGreat
open Go.ChangeShapes Go.WideShapes Go.ChangeAt Go.RowKit

theorem lowerByte_q (c : Int) (h0 : 0 ≤ c) (h1 : c ≤ 255) (w : World) :
    Calls Tryz.prog 211 #[.int .u8 c] w fun e w' => e = .returned (.int .u8 (lowB c)) ∧ w' = w :=
  (lowerByte_any c h0 h1 w).mono fun _ _ ⟨a, b⟩ => ⟨a, b.symm⟩
def Drawn (w wr : World) : Prop := ∃ q, wr = w.drewN q
theorem Drawn.refl (w : World) : Drawn w w := ⟨0, rfl⟩
theorem Drawn.more {w wr : World} (h : Drawn w wr) (n : Nat) : Drawn w (wr.drewN n) := by obtain ⟨q, rfl⟩ := h; exact ⟨q + n, by rw [World.drewN_drewN]⟩
theorem byte_lo (b : UInt8) : (0 : Int) ≤ (b.toNat : Int) := by omega
theorem byte_hi (b : UInt8) : (b.toNat : Int) ≤ 255 := by have := b.toNat_lt; omega
def badB (s : ByteArray) : Bool := decide (s.size ≤ 65536) && badL s.data.toList 0
set_option maxHeartbeats 2000000 in
theorem implBadLink_any (s : ByteArray) (w : World) (hs : s.size ≤ maxLen) :
    Calls Tryz.prog 202 #[.string s] w fun e w' => e = .returned (.bool (badB s)) ∧ Drawn w w' := by
  unfold maxLen at hs
  by_cases hlen : (s.size : Int) ≤ 65536
  · have HB := Lib.hid (show badB s = badL s.data.toList 0 by rw [badB, decide_eq_true (by omega : s.size ≤ 65536)]; rfl)
    go_enter Tryz.func202, Tryz.ntmps202
    go_wp2
    go_loopw [4, 3, 5, 22, 29] (fun i k _ _ _ wr => ∃ n m : Nat, n ≤ s.size ∧ m ≤ 11 ∧ i = .int .i64 n ∧ k = .int .i64 m ∧ badL (s.data.toList.drop n) m = badL s.data.toList 0 ∧ Drawn w wr) (fun i _ _ _ _ _ => s.size - (intOf i).toNat)
    case atStart => exact ⟨0, 0, by omega, by omega, rfl, rfl, rfl, Drawn.refl _⟩
    case round =>
      obtain ⟨n, m, hn, hm, rfl, rfl, hall, hdr⟩ := hrel
      have HA := Lib.hid hall
      clear hall
      by_cases hlt : n < s.size
      · by_cases hm2 : m < 11
        · by_cases h9 : ((s[n].toNat : Int) == 9) = true
          · have HK := Lib.hid (show skipB (s[n].toNat : Int) m = true by simp [skipB, h9])
            go_wp2
            go_roundw
            case rel => exact ⟨n + 1, m, by omega, by omega, by go_num, rfl, badL_skip hlt hm2 HK.out HA.out, hdr⟩
            case measure => simp [intOf]; omega
          · have h9' : ((s[n].toNat : Int) == 9) = false := by simpa using h9
            clear h9
            by_cases h10 : ((s[n].toNat : Int) == 10) = true
            · have HK := Lib.hid (show skipB (s[n].toNat : Int) m = true by simp [skipB, h10])
              go_wp2
              go_roundw
              case rel => exact ⟨n + 1, m, by omega, by omega, by go_num, rfl, badL_skip hlt hm2 HK.out HA.out, hdr⟩
              case measure => simp [intOf]; omega
            · have h10' : ((s[n].toNat : Int) == 10) = false := by simpa using h10
              clear h10
              by_cases h13 : ((s[n].toNat : Int) == 13) = true
              · have HK := Lib.hid (show skipB (s[n].toNat : Int) m = true by simp [skipB, h13])
                go_wp2
                go_roundw
                case rel => exact ⟨n + 1, m, by omega, by omega, by go_num, rfl, badL_skip hlt hm2 HK.out HA.out, hdr⟩
                case measure => simp [intOf]; omega
              · have h13' : ((s[n].toNat : Int) == 13) = false := by simpa using h13
                clear h13
                by_cases h32 : (s[n].toNat : Int) ≤ 32
                · by_cases hm0 : m = 0
                  · have hm0' : ((m : Int) == 0) = true := by simp [hm0]
                    have HK := Lib.hid (show skipB (s[n].toNat : Int) m = true by simp [skipB, h32, hm0])
                    clear hm0
                    go_wp2
                    go_roundw
                    case rel => exact ⟨n + 1, m, by omega, by omega, by go_num, rfl, badL_skip hlt hm2 HK.out HA.out, hdr⟩
                    case measure => simp [intOf]; omega
                  · have hm0' : ((m : Int) == 0) = false := by simp; omega
                    have HK := Lib.hid (show skipB (s[n].toNat : Int) m = false by simp [skipB]; simp at h9' h10' h13'; omega)
                    have HW := Lib.hid (show m < wantS.size by rw [size_want]; exact hm2)
                    go_wp2
                    go_quiet ((go_at_call 211; exact Calls.quiet_of_same (lowerByte_q _ (byte_lo _) (byte_hi _) _)))
                    go_wp2
                    · go_ret
                      exact ⟨ret_bool (by rw [HB.out]; exact badL_miss hlt hm2 HK.out (want_ne HW.out (by assumption)) HA.out), hdr.more _⟩
                    · go_roundw
                      case rel => exact ⟨n + 1, m + 1, by omega, by omega, by go_num, by go_num, badL_hit hlt hm2 HK.out (want_eq HW.out (by assumption)) HA.out, hdr.more _⟩
                      case measure => simp [intOf]; omega
                · have HK := Lib.hid (show skipB (s[n].toNat : Int) m = false by simp [skipB]; simp at h9' h10' h13'; omega)
                  have HW := Lib.hid (show m < wantS.size by rw [size_want]; exact hm2)
                  go_wp2
                  go_quiet ((go_at_call 211; exact Calls.quiet_of_same (lowerByte_q _ (byte_lo _) (byte_hi _) _)))
                  go_wp2
                  · go_ret
                    exact ⟨ret_bool (by rw [HB.out]; exact badL_miss hlt hm2 HK.out (want_ne HW.out (by assumption)) HA.out), hdr.more _⟩
                  · go_roundw
                    case rel => exact ⟨n + 1, m + 1, by omega, by omega, by go_num, by go_num, badL_hit hlt hm2 HK.out (want_eq HW.out (by assumption)) HA.out, hdr.more _⟩
                    case measure => simp [intOf]; omega
        · obtain rfl : m = 11 := by omega
          go_wp2
          go_ret
          exact ⟨ret_bool (by rw [HB.out, ← HA.out, badL_full]), hdr⟩
      · obtain rfl : n = s.size := by omega
        go_wp2
        go_ret
        exact ⟨ret_bool (by rw [HB.out]; exact badL_end HA.out), hdr⟩
  · go_enter Tryz.func202, Tryz.ntmps202
    go_wp2
    go_ret
    exact ⟨ret_bool (by rw [badB, decide_eq_false (by omega)]; rfl), Drawn.refl _⟩
theorem Drawn.below {w wr : World} (h : Drawn w wr) (B : Nat) : Below B w wr := by obtain ⟨q, rfl⟩ := h; exact below_drewN (Below.refl _ _) q
end Go.Proofs.YthdkkpbhijlpaaaGreat
namespace Go.Proofs.YthdkkpbhijlpaaaGreat
open Go.ChangeShapes Go.WideShapes Go.ChangeAt Go.RowKit Go.Deep

theorem lay2h {w : World} {g : Nat} {v0 v1 : Value} (h : Lay w g #[v0, v1]) : w.cell? ⟨g, 0, none⟩ = some v0 ∧ w.cell? ⟨g, 1, none⟩ = some v1 := ⟨h.1 0, h.1 1⟩
def harmB (n v : ByteArray) : Bool := handlerB n || (inL linkL n && badB v)
/-- an attribute's box, made at w -/
def AttrBox (w W : World) (n v : ByteArray) : Prop := Lay W w.heap.size #[.string n, .string v] ∧ Below w.heap.size w W ∧ w.heap.size < W.heap.size
theorem AttrBox.next {w W W' : World} {n v : ByteArray} (h : AttrBox w W n v) (hB : Below W.heap.size W W') : AttrBox w W' n v :=
  ⟨h.1.below hB h.2.2, h.2.1.trans (hB.mono h.2.1.size), Nat.lt_of_lt_of_le h.2.2 hB.size⟩
theorem AttrBox.new (w : World) (n v : ByteArray) (t : TypeId) : AttrBox w (w.alloc (.cells #[.string n, .string v] t)) n v := ⟨Lay.new _ _ _, (Below.refl _ _).alloc (Nat.le_refl _) _, by simp⟩
set_option maxHeartbeats 2000000 in
theorem isHarmful_any (n v : ByteArray) (w : World) (h1 : n.size ≤ maxLen) (h2 : v.size ≤ maxLen) :
    Calls Tryz.prog 184 #[.agg #[.string n, .string v]] w fun e w' => e = .returned (.bool (harmB n v)) ∧ Below w.heap.size w w' := by
  have HX := Lib.hid (AttrBox.new w n v 121)
  have HN := Lib.hid (And.intro h1 h2)
  obtain ⟨r0, r1⟩ := lay2h HX.out.1
  clear h1 h2
  cases hq : handlerB n with
  | true =>
    have HQ := Lib.hid hq
    have HM : Hid (harmB n v = true) := Lib.hid (by rw [harmB, hq]; rfl)
    clear hq
    go_enter Tryz.func184, Tryz.ntmps184
    go_wp2_with fail
    refine (implIsHandler_any n _ HN.out.1).mono ?_
    rintro e w1 ⟨rfl, rfl⟩
    rw [HQ.out]
    go_wp2
    go_ret
    exact ⟨by rw [HM.out]; try rfl, HX.out.2.1⟩
  | false =>
    have HQ := Lib.hid hq
    cases hz : inL linkL n with
    | false =>
      have HZ := Lib.hid hz
      have HM : Hid (harmB n v = false) := Lib.hid (by rw [harmB, hq, hz]; rfl)
      clear hq hz
      go_enter Tryz.func184, Tryz.ntmps184
      go_wp2_with fail
      refine (implIsHandler_any n _ HN.out.1).mono ?_
      rintro e w1 ⟨rfl, rfl⟩
      rw [HQ.out]
      go_wp2_with fail
      refine (implIsLink_any n _ HN.out.1).mono ?_
      rintro e w2 ⟨rfl, hB⟩
      rw [HZ.out]
      have HX := Lib.hid (HX.out.next hB)
      clear hB r0 r1
      go_wp2
      go_ret
      exact ⟨by rw [HM.out]; try rfl, HX.out.2.1⟩
    | true =>
      have HZ := Lib.hid hz
      have HM : Hid (harmB n v = badB v) := Lib.hid (by rw [harmB, hq, hz]; simp)
      clear hq hz
      go_enter Tryz.func184, Tryz.ntmps184
      go_wp2_with fail
      refine (implIsHandler_any n _ HN.out.1).mono ?_
      rintro e w1 ⟨rfl, rfl⟩
      rw [HQ.out]
      go_wp2_with fail
      refine (implIsLink_any n _ HN.out.1).mono ?_
      rintro e w2 ⟨rfl, hB⟩
      rw [HZ.out]
      have HX := Lib.hid (HX.out.next hB)
      clear hB r0 r1
      obtain ⟨r0, r1⟩ := lay2h HX.out.1
      go_wp2_with fail
      refine (implBadLink_any v _ HN.out.2).mono ?_
      rintro e w3 ⟨rfl, hD⟩
      have HX := Lib.hid (HX.out.next (hD.below _))
      clear hD r0 r1
      go_wp2
      go_ret
      exact ⟨by rw [HM.out]; try rfl, HX.out.2.1⟩
end Go.Proofs.YthdkkpbhijlpaaaGreat
namespace Go.Proofs.YthdkkpbhijlpaaaGreat
open Go.ChangeShapes Go.WideShapes Go.ChangeAt Go.RowKit Go.Deep

/-- a rule of that space and name -/
def ruIs (sp : Int) (n : ByteArray) (x : Ru) : Bool := (x.1 == sp) && (x.2.1.toList == n.toList)
def hasRu (l : List Ru) (sp : Int) (n : ByteArray) : Bool := l.any (ruIs sp n)
theorem hasRu_take {l : List Ru} {sp : Int} {n : ByteArray} {k : Nat} (hk : k < l.length) : hasRu (l.take (k + 1)) sp n = (hasRu (l.take k) sp n || ruIs sp n l[k]) := by
  unfold hasRu; rw [List.take_succ_eq_append_getElem hk, List.any_append]; simp only [List.any_cons, List.any_nil, Bool.or_false]
/-- the first k of them differ in space or name -/
def disGo (l : List Ru) : Nat → Bool
  | 0 => true
  | k + 1 => disGo l k && (match l[k]? with | some x => !hasRu (l.take k) x.1 x.2.1 | none => true)
theorem disGo_succ {l : List Ru} {k : Nat} (hk : k < l.length) : disGo l (k + 1) = (disGo l k && !hasRu (l.take k) l[k].1 l[k].2.1) := by
  rw [disGo, List.getElem?_eq_getElem hk]
theorem disGo_false {l : List Ru} {k : Nat} : ∀ {m : Nat}, k ≤ m → disGo l k = false → disGo l m = false
  | 0, h, h2 => by rw [Nat.le_zero.1 h] at h2; exact h2
  | m + 1, h, h2 => by
    by_cases e : k = m + 1
    · subst e; exact h2
    · rw [disGo, disGo_false (m := m) (by omega) h2]; rfl
/-- the rules of a list are so, and (ats or not) have attributes -/
def bareB (ats : Bool) (x : Ru) : Bool := ats || (x.2.2.length == 0)
noncomputable def rulesB (ats : Bool) (l : List Ru) : Bool := decide (l.length ≤ 10) && l.all ruleB && disGo l l.length && l.all (bareB ats)
theorem all_step {α : Type} {p : α → Bool} {l : List α} {k : Nat} (hk : k < l.length) (h : (l.take k).all p = true) (h2 : p l[k] = true) : (l.take (k + 1)).all p = true := by
  rw [List.take_succ_eq_append_getElem hk, List.all_append, h]; simp [h2]
theorem all_no {α : Type} {p : α → Bool} {l : List α} {k : Nat} (hk : k < l.length) (h2 : p l[k] = false) : l.all p = false := by
  rw [List.all_eq_false]; exact ⟨l[k], List.getElem_mem hk, by simp [h2]⟩
theorem any_no {α : Type} {p : α → Bool} {l : List α} {k : Nat} (hk : k < l.length) (h : (l.take k).any p = false) (h2 : p l[k] = false) : (l.take (k + 1)).any p = false := by
  rw [List.take_succ_eq_append_getElem hk, List.any_append, h]; simp [h2]
theorem any_hit {α : Type} {p : α → Bool} {l : List α} {k : Nat} (hk : k < l.length) (h2 : p l[k] = true) : l.any p = true := by
  rw [List.any_eq_true]; exact ⟨l[k], List.getElem_mem hk, h2⟩
/-- what a function over rules answers -/
def RuFn (P : Program) (g : Nat) (first cap : Array Value) (p : Ru → Bool) (l : List Ru) (w : World) : Prop :=
  ∀ k (h : k < l.length) (W : World) (B : Option Addr) (cc : Nat), Below w.heap.size w W → l[k].2.1.size ≤ maxLen → l[k].2.2.length ≤ cc → NmIn W B l[k].2.2 →
    Calls P g (first ++ #[.agg #[.int .i64 l[k].1, .string l[k].2.1, .slice B l[k].2.2.length cc]] ++ cap) W fun e w' => e = .returned (.bool (p l[k])) ∧ Below W.heap.size W w'
theorem ruIndexFunc_any (g : Nat) (first cap : Array Value) (p : Ru → Bool) (eg : ∀ args w, (callFunc g args).run Tryz.prog w = .ok (.enter g args) w) (l : List Ru) (w : World) (A : Option Addr) (c : Nat) (hl : RuIn w A l) (hf : RuFn Tryz.prog g first cap p l w) :
    Calls Tryz.prog 133 #[.slice A l.length c, .func (.func g) first cap] w fun e w' => ∃ k : Int, e = .returned (.int .i64 k) ∧ decide (0 ≤ k) = l.any p ∧ Below w.heap.size w w' := by
  have hml := hl.1
  unfold maxLen at hml
  have HL := Lib.hid hl
  have HF := Lib.hid hf
  clear hl hf
  go_enter Tryz.func133, Tryz.ntmps133
  go_wp2
  go_loopw [8] (fun i wr => ∃ k : Nat, i = .int .i64 (k : Int) ∧ k ≤ l.length ∧ Hid ((l.take k).any p = false ∧ Below w.heap.size w wr)) (fun i wr => l.length - (intOf i).toNat)
  case atStart => exact ⟨0, rfl, Nat.zero_le _, Lib.hid ⟨by simp, Below.refl _ _⟩⟩
  case round =>
    obtain ⟨k, rfl, hk, HH⟩ := hrel
    by_cases hkl : k < l.length
    · obtain ⟨b, o, rfl, hlt, t1, t2, t3, B, cc, t4, t6, t5⟩ := (HL.out.next HH.out.2).get hkl
      have hc := HF.out k hkl wr B cc HH.out.2 t3 t6 t5
      clear t3 t5 t6
      by_cases ho : p l[k] = true
      · have HO := Lib.hid ho
        clear ho
        go_wp2_with (go_at_fn g; refine hc.mono ?_; rintro e w' ⟨rfl, hB⟩; rw [HO.out]; have HB := Lib.hid hB; clear hB)
        go_ret
        exact ⟨(k : Int), rfl, by rw [any_hit hkl HO.out]; first | done | simp, HH.out.2.trans (HB.out.mono HH.out.2.size)⟩
      · have ho' : p l[k] = false := by simpa using ho
        have HO := Lib.hid ho'
        clear ho ho'
        go_wp2_with (go_at_fn g; refine hc.mono ?_; rintro e w' ⟨rfl, hB⟩; rw [HO.out]; have HB := Lib.hid hB; clear hB)
        go_roundw
        case rel => exact ⟨k + 1, by go_num, by omega, Lib.hid ⟨any_no hkl HH.out.1 HO.out, HH.out.2.trans (HB.out.mono HH.out.2.size)⟩⟩
        case measure => simp [intOf]; omega
    · obtain rfl : k = l.length := by omega
      go_wp2
      go_ret
      exact ⟨-1, rfl, by have := HH.out.1; rw [List.take_length] at this; rw [this]; rfl, HH.out.2⟩
theorem ruContainsFunc_any (g : Nat) (first cap : Array Value) (p : Ru → Bool) (eg : ∀ args w, (callFunc g args).run Tryz.prog w = .ok (.enter g args) w) (l : List Ru) (w : World) (A : Option Addr) (c : Nat) (hl : RuIn w A l) (hf : RuFn Tryz.prog g first cap p l w) :
    Calls Tryz.prog 81 #[.slice A l.length c, .func (.func g) first cap] w fun e w' => e = .returned (.bool (l.any p)) ∧ Below w.heap.size w w' := by
  have HL := Lib.hid hl
  have HF := Lib.hid hf
  clear hl hf
  go_enter Tryz.func81, Tryz.ntmps81
  go_wp2_with (go_at_call 133; refine (ruIndexFunc_any g first cap p eg l _ A c HL.out HF.out).mono ?_; rintro e w' ⟨k, rfl, hk, hB⟩; have HK := Lib.hid hk; have HB := Lib.hid hB; clear hk hB)
  go_ret
  exact ⟨ret_bool (by rw [← HK.out]), HB.out⟩
/-- what a function over texts answers -/
def NmFn (P : Program) (g : Nat) (first cap : Array Value) (p : ByteArray → Bool) (l : List ByteArray) (w : World) : Prop :=
  ∀ k (h : k < l.length) (W : World), Below w.heap.size w W → l[k].size ≤ maxLen → Calls P g (first ++ #[.string l[k]] ++ cap) W fun e w' => e = .returned (.bool (p l[k])) ∧ Below W.heap.size W w'
theorem nmIndexFunc_any (g : Nat) (first cap : Array Value) (p : ByteArray → Bool) (eg : ∀ args w, (callFunc g args).run Tryz.prog w = .ok (.enter g args) w) (l : List ByteArray) (w : World) (A : Option Addr) (c : Nat) (hl : NmIn w A l) (hf : NmFn Tryz.prog g first cap p l w) :
    Calls Tryz.prog 177 #[.slice A l.length c, .func (.func g) first cap] w fun e w' => ∃ k : Int, e = .returned (.int .i64 k) ∧ decide (0 ≤ k) = l.any p ∧ Below w.heap.size w w' := by
  have hml := hl.1
  unfold maxLen at hml
  have HL := Lib.hid hl
  have HF := Lib.hid hf
  clear hl hf
  go_enter Tryz.func177, Tryz.ntmps177
  go_wp2
  go_loopw [8] (fun i wr => ∃ k : Nat, i = .int .i64 (k : Int) ∧ k ≤ l.length ∧ Hid ((l.take k).any p = false ∧ Below w.heap.size w wr)) (fun i wr => l.length - (intOf i).toNat)
  case atStart => exact ⟨0, rfl, Nat.zero_le _, Lib.hid ⟨by simp, Below.refl _ _⟩⟩
  case round =>
    obtain ⟨k, rfl, hk, HH⟩ := hrel
    by_cases hkl : k < l.length
    · obtain ⟨b, o, rfl, hlt, t1, t3⟩ := (HL.out.next HH.out.2).get hkl
      have hc := HF.out k hkl wr HH.out.2 t3
      clear t3
      by_cases ho : p l[k] = true
      · have HO := Lib.hid ho
        clear ho
        go_wp2_with (go_at_fn g; refine hc.mono ?_; rintro e w' ⟨rfl, hB⟩; rw [HO.out]; have HB := Lib.hid hB; clear hB)
        go_ret
        exact ⟨(k : Int), rfl, by rw [any_hit hkl HO.out]; first | done | simp, HH.out.2.trans (HB.out.mono HH.out.2.size)⟩
      · have ho' : p l[k] = false := by simpa using ho
        have HO := Lib.hid ho'
        clear ho ho'
        go_wp2_with (go_at_fn g; refine hc.mono ?_; rintro e w' ⟨rfl, hB⟩; rw [HO.out]; have HB := Lib.hid hB; clear hB)
        go_roundw
        case rel => exact ⟨k + 1, by go_num, by omega, Lib.hid ⟨any_no hkl HH.out.1 HO.out, HH.out.2.trans (HB.out.mono HH.out.2.size)⟩⟩
        case measure => simp [intOf]; omega
    · obtain rfl : k = l.length := by omega
      go_wp2
      go_ret
      exact ⟨-1, rfl, by have := HH.out.1; rw [List.take_length] at this; rw [this]; rfl, HH.out.2⟩
theorem nmContainsFunc_any (g : Nat) (first cap : Array Value) (p : ByteArray → Bool) (eg : ∀ args w, (callFunc g args).run Tryz.prog w = .ok (.enter g args) w) (l : List ByteArray) (w : World) (A : Option Addr) (c : Nat) (hl : NmIn w A l) (hf : NmFn Tryz.prog g first cap p l w) :
    Calls Tryz.prog 134 #[.slice A l.length c, .func (.func g) first cap] w fun e w' => e = .returned (.bool (l.any p)) ∧ Below w.heap.size w w' := by
  have HL := Lib.hid hl
  have HF := Lib.hid hf
  clear hl hf
  go_enter Tryz.func134, Tryz.ntmps134
  go_wp2_with (go_at_call 177; refine (nmIndexFunc_any g first cap p eg l _ A c HL.out HF.out).mono ?_; rintro e w' ⟨k, rfl, hk, hB⟩; have HK := Lib.hid hk; have HB := Lib.hid hB; clear hk hB)
  go_ret
  exact ⟨ret_bool (by rw [← HK.out]), HB.out⟩
theorem isNoRule_any (sp : Int) (n : ByteArray) (al : List ByteArray) (w : World) (A : Option Addr) (c : Nat) (hn : n.size ≤ maxLen) (hlc : al.length ≤ c) (hr : NmIn w A al) :
    Calls Tryz.prog 126 #[.agg #[.int .i64 sp, .string n, .slice A al.length c]] w fun e w' => e = .returned (.bool (!ruleB (sp, n, al))) ∧ Below w.heap.size w w' := by
  have HN := Lib.hid hr
  clear hr
  go_enter Tryz.func126, Tryz.ntmps126
  go_wp2_with (go_at_call 175; refine (implRuleOK_any sp n al _ A c hn hlc (HN.out.next (by go_grown))).mono ?_; rintro e w' ⟨rfl, hB⟩; have HB := Lib.hid hB; clear hB)
  go_ret
  exact ⟨rfl, by first | exact HB.out | exact Below.trans (by go_grown) (HB.out.mono (by simp))⟩
theorem hasAttrs_any (sp : Int) (n : ByteArray) (al : List ByteArray) (w : World) (A : Option Addr) (c : Nat) :
    Calls Tryz.prog 128 #[.agg #[.int .i64 sp, .string n, .slice A al.length c]] w fun e w' => e = .returned (.bool (!bareB false (sp, n, al))) ∧ Below w.heap.size w w' := by
  by_cases h : al.length = 0
  · have hc : ¬ ((al.length : Nat) : Int) > 0 := by omega
    go_enter Tryz.func128, Tryz.ntmps128
    go_wp2
    go_ret
    exact ⟨ret_bool (by simp [bareB, h]), by go_grown⟩
  · have hc : ((al.length : Nat) : Int) > 0 := by omega
    go_enter Tryz.func128, Tryz.ntmps128
    go_wp2
    go_ret
    exact ⟨ret_bool (by rw [show bareB false (sp, n, al) = false from (by show (false || (al.length == 0)) = false; simpa using h)]; simpa using hc), by go_grown⟩
end Go.Proofs.YthdkkpbhijlpaaaGreat
namespace Go.Proofs.YthdkkpbhijlpaaaGreat
open Go.ChangeShapes Go.WideShapes Go.ChangeAt Go.RowKit Go.Deep Go.Maps

/-- an element reads as itself -/
def rdV (v : Value) : Option (DataW Value × List MemPlace) := some (.held v, [])
theorem ba_same {a b : ByteArray} (h : a.toList = b.toList) : a = b := by
  rw [ByteArray.toList_eq, ByteArray.toList_eq] at h
  cases a; cases b
  simp only at h
  congr
  exact Array.ext' h
theorem ruKeyed : Keyed Tryz.prog 114 :=
  Keyed.of_law (deep_law_laid (by kernel_rfl) (m := 3) (by omega) (of_decide_eq_true (by kernel_rfl)) (by kernel_rfl) (by kernel_rfl))
theorem ruled_key (sp : Int) (n : ByteArray) (h : (Lit.int .i64 sp).wf = true) (hn : n.size ≤ maxLen) : ∃ kl, keyOf Tryz.prog 114 (.agg #[.int .i64 sp, .string n]) = some kl := by
  obtain ⟨m, hm⟩ : ∃ m, Tryz.prog.types.size = m + 1 := ⟨Tryz.prog.types.size - 1, by have : 1 ≤ Tryz.prog.types.size := of_decide_eq_true (by kernel_rfl); omega⟩
  have hk : Tryz.prog.keyType 114 = true := by kernel_rfl
  have c2 : Tryz.prog.cellsOf 114 = 2 := by kernel_rfl
  have ci : Tryz.prog.cellsOf 3 = 1 := by kernel_rfl
  have cs : Tryz.prog.cellsOf 9 = 1 := by kernel_rfl
  have hf : (Value.agg #[.int .i64 sp, .string n]).formed Tryz.prog 114 = true := by
    simp [Value.formed, Tryz.underlying114, c2]
  have h1 : Tryz.prog.keyLits (m + 1 + 1) 114 [.int .i64 sp, .string n] = some [.int .i64 sp, .string n.data.toList] := by
    simp [Program.keyLits, Tryz.underlying114, Tryz.underlying3, Tryz.underlying9, c2, ci, cs, h, hn]
  unfold keyOf
  rw [Tryz.underlying114]
  simp only
  rw [hk, hf, hm]
  simp only [Bool.and_self, if_true]
  exact ⟨_, by rw [show (Value.agg #[.int .i64 sp, .string n]).cells.toList = [.int .i64 sp, .string n] from rfl, h1]; rfl⟩
def RuVal (w : World) (x : Ru) (v : Value) : Prop := ∃ B c, v = .agg #[.int .i64 x.1, .string x.2.1, .slice B x.2.2.length c] ∧ x.2.2.length ≤ c ∧ NmIn w B x.2.2
/-- block b of w is a map of at most n entries, one for each of c spaces and names, those of l -/
def RuMap (w0 w : World) (b n : Nat) (l : List Ru) (c : Nat) : Prop :=
  (∃ D : DataW Value, w.ownsMap Tryz.prog 114 rdV b n D ∧ Maps.size D = c ∧
    ∀ (sp : Int) (nm : ByteArray) (kl : Lit), keyOf Tryz.prog 114 (.agg #[.int .i64 sp, .string nm]) = some kl → Maps.has D kl = hasRu l sp nm ∧
      (hasRu l sp nm = true → ∃ x ∈ l, ruIs sp nm x = true ∧ ∃ v, RuVal w0 x v ∧ ∀ z, D.atKey kl z = .held v)) ∧
  Below w0.heap.size w0 w ∧ w0.heap.size ≤ b
theorem RuMap.made (w : World) : RuMap w (w.alloc (.map #[] 0)) w.heap.size 0 [] 0 :=
  ⟨⟨.map [], World.ownsMap_made _ _ _ _, rfl, fun _ _ _ _ => ⟨rfl, fun h => by cases h⟩⟩, (Below.refl _ _).alloc (Nat.le_refl _) _, Nat.le_refl _⟩
theorem RuMap.next {w0 w w' : World} {b n c : Nat} {l : List Ru} (h : RuMap w0 w b n l c) (hB : Below w.heap.size w w') : RuMap w0 w' b n l c := by
  obtain ⟨⟨D, h1, h2, h3⟩, h4, h5⟩ := h
  refine ⟨⟨D, ?_, h2, h3⟩, h4.trans (hB.mono h4.size), h5⟩
  have hlt := h1.lt
  obtain ⟨es, clock, hb, F, hs, hD⟩ := h1
  exact ⟨es, clock, (hB.block b hlt).trans hb, F, hs, hD⟩
theorem hasRu_snoc (l : List Ru) (x : Ru) (sp : Int) (n : ByteArray) : hasRu (l ++ [x]) sp n = (hasRu l sp n || ruIs sp n x) := by
  unfold hasRu; rw [List.any_append]; simp
theorem ruIs_eq {sp : Int} {n : ByteArray} {x : Ru} (h : ruIs sp n x = true) : sp = x.1 ∧ n = x.2.1 := by
  simp only [ruIs, Bool.and_eq_true, beq_iff_eq] at h
  exact ⟨h.1.symm, ba_same h.2.symm⟩
set_option maxRecDepth 100000 in
theorem RuMap.put {w0 w : World} {b n c : Nat} {l : List Ru} (h : RuMap w0 w b n l c) (hn : n < maxLen) (x : Ru) (hx : (Lit.int .i64 x.1).wf = true) (hz : x.2.1.size ≤ maxLen) {v : Value} (hv : RuVal w0 x v) :
    ∃ w', (Instr.mapUpdate 158 (.map (some b)) (.agg #[.int .i64 x.1, .string x.2.1]) v).run Tryz.prog w = .ok () w' ∧ RuMap w0 w' b (n + 1) (l ++ [x]) (if hasRu l x.1 x.2.1 = true then c else c + 1) ∧ w.grownBy w' (some b) := by
  obtain ⟨⟨D, hown, hsz, hat⟩, hb, hle⟩ := h
  obtain ⟨kl, hkl⟩ := ruled_key x.1 x.2.1 hx hz
  obtain ⟨w', hrun, hown', hg⟩ := hown.update ruKeyed Tryz.underlying158 hn hkl (show rdV v = some (.held v, []) from rfl)
  have hT := hown.tidy ruKeyed
  have hkk : WideAt.IsKeyLit kl := ruKeyed.key hkl
  refine ⟨w', hrun, ⟨⟨_, hown', ?_, fun sp nm kl' hk' => ?_⟩, hb.grown hg hb.size (fun k hk => by cases hk; exact hle), hle⟩, hg⟩
  · rw [Maps.size_put hT, (hat _ _ _ hkl).1, hsz]
  · by_cases e : kl' = kl
    · subst e
      have he := ruKeyed.inj hk' hkl
      have e1 : sp = x.1 := by injection he with he; simp at he; exact he.1
      have e2 : nm = x.2.1 := by injection he with he; simp at he; exact he.2
      subst e1 e2
      have hi : ruIs x.1 x.2.1 x = true := by simp [ruIs]
      rw [hasRu_snoc, hi, Bool.or_true]
      exact ⟨Maps.has_put_same hT.isMap hkk _, fun _ => ⟨x, by simp, hi, v, hv, fun z => Maps.atKey_put_same hT.isMap hkk _ _⟩⟩
    · have hi : ruIs sp nm x = false := by
        cases hh : ruIs sp nm x with
        | false => rfl
        | true =>
          obtain ⟨e1, e2⟩ := ruIs_eq hh
          subst e1 e2
          rw [hkl] at hk'
          exact absurd (Option.some.inj hk').symm e
      rw [hasRu_snoc, hi, Bool.or_false, Maps.has_put_other e]
      obtain ⟨a1, a2⟩ := hat sp nm kl' hk'
      refine ⟨a1, fun hh => ?_⟩
      obtain ⟨y, hy, h1, u, hu, h2⟩ := a2 hh
      exact ⟨y, by simp [hy], h1, u, hu, fun z => by rw [Maps.atKey_put_other e]; exact h2 z⟩
/-- how many differ -/
def cntR (l : List Ru) : Nat → Nat
  | 0 => 0
  | k + 1 => match l[k]? with | some x => if hasRu (l.take k) x.1 x.2.1 = true then cntR l k else cntR l k + 1 | none => cntR l k
theorem cntR_succ {l : List Ru} {k : Nat} (hk : k < l.length) : cntR l (k + 1) = if hasRu (l.take k) l[k].1 l[k].2.1 = true then cntR l k else cntR l k + 1 := by
  rw [cntR, List.getElem?_eq_getElem hk]
theorem cntR_le (l : List Ru) : ∀ k, cntR l k ≤ k
  | 0 => Nat.le_refl _
  | k + 1 => by
    rw [cntR]
    have := cntR_le l k
    split
    · split <;> omega
    · omega
theorem cntR_dis (l : List Ru) : ∀ k, k ≤ l.length → decide (cntR l k = k) = disGo l k
  | 0, _ => rfl
  | k + 1, hk => by
    have ih := cntR_dis l k (by omega)
    have hle := cntR_le l k
    rw [cntR_succ (by omega), disGo_succ (by omega)]
    cases h : hasRu (l.take k) l[k].1 l[k].2.1 with
    | true => simp; omega
    | false =>
      rw [if_neg (by simp), ← ih]
      simp
/-- a key that is handed back from a variable -/
theorem ret_ruled {fn : Func} {p : Tmp} {R : Ending → World → Prop} {a : Act} {W : World} {g : Nat} {v0 v1 : Value} (hres : fn.results = #[.cell p 114])
    (hL : Lay W g #[v0, v1]) (hp : a.tmps.getD p undef = .pointer (some ⟨g, 0, none⟩)) (hd : a.defers = []) (hR : R (.returned (.agg #[v0, v1])) W) : bodyPost Tryz.prog fn R .ret a W := by
  refine bodyPost_ret (v := .agg #[v0, v1]) ?_ hd hR
  have hp' : a.tmps[p]?.getD undef = .pointer (some ⟨g, 0, none⟩) := by simpa using hp
  have h0 := hL.1
  simp [results, hres, hp', go_sem, h0]
theorem ruledBy_any (sp : Int) (n : ByteArray) (al : List ByteArray) (w : World) (A : Option Addr) (c : Nat) :
    Calls Tryz.prog 132 #[.agg #[.int .i64 sp, .string n, .slice A al.length c]] w fun e w' => e = .returned (.agg #[.int .i64 sp, .string n]) ∧ Below w.heap.size w w' := by
  go_enter Tryz.func132, Tryz.ntmps132
  go_wp2
  (try simp only [Exit.inBlock, Exit.then])
  have L := Lay.new (w.alloc (.cells #[.int .i64 sp, .string n, .slice A al.length c] 106)) #[.int .i64 sp, .string n] 114
  simp only [World.size_alloc] at L
  exact ret_ruled rfl L rfl rfl ⟨rfl, by go_grown⟩
end Go.Proofs.YthdkkpbhijlpaaaGreat
