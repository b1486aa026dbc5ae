
import Derived.Test.YtbcbmgeoaejlmaaSmM
namespace Go.Proofs.Ytbcbmgeoaejlmaa
open Go.ChangeShapes Go.WideShapes Go.ChangeAt Go.RowKit Go.Deep Go.Maps

/-- a function that tells whether two rules are the same -/
def RuEq (P : Program) (g : Nat) : Prop :=
  ∀ (x y : Ru) (W : World) (B C : Option Addr) (cc dd : Nat), x.2.1.size ≤ maxLen → x.2.2.length ≤ cc → NmIn W B x.2.2 → y.2.1.size ≤ maxLen → y.2.2.length ≤ dd → NmIn W C y.2.2 →
    Calls P g #[.agg #[.int .i64 x.1, .string x.2.1, .slice B x.2.2.length cc], .agg #[.int .i64 y.1, .string y.2.1, .slice C y.2.2.length dd]] W fun e w' => e = .returned (.bool (eqB x y)) ∧ Below W.heap.size W w'

theorem ruEqualFunc_any (g : Nat) (eg : ∀ args w, (callFunc g args).run Try.prog w = .ok (.enter g args) w) (l m : List Ru) (w : World) (A B : Option Addr) (c d : Nat) (hl : RuIn w A l) (hm : RuIn w B m) (hf : RuEq Try.prog g) :
    Calls Try.prog 74 #[.slice A l.length c, .slice B m.length d, .func (.func g) #[] #[]] w fun e w' => e = .returned (.bool (eqB l m)) ∧ Below w.heap.size w w' := by
  have hml := hl.1
  have hmm := hm.1
  unfold maxLen at hml hmm
  have HL := Lib.hid hl
  have HM := Lib.hid hm
  have HF := Lib.hid hf
  clear hl hm hf
  by_cases hn : l.length = m.length
  · have HN := Lib.hid hn
    go_enter Try.func74, Try.ntmps74
    go_wp2
    clear hn
    go_loopw [17] (fun i wr => ∃ k : Nat, i = .int .i64 (k : Int) ∧ k ≤ l.length ∧ Hid ((∀ i, i < k → l[i]? = m[i]?) ∧ Below w.heap.size w wr)) (fun i wr => l.length - (intOf i).toNat)
    case atStart => exact ⟨0, rfl, Nat.zero_le _, Lib.hid ⟨fun i h => absurd h (Nat.not_lt_zero _), Below.refl _ _⟩⟩
    case round =>
      obtain ⟨k, rfl, hk, HH⟩ := hrel
      by_cases hkl : k < l.length
      · have hkm : k < m.length := by have := HN.out; omega
        obtain ⟨b, o, rfl, hlt, t1, t2, t3, B1, cc, t4, t6, t5⟩ := (HL.out.next HH.out.2).get hkl
        obtain ⟨b', o', rfl, hlt', u1, u2, u3, B2, dd, u4, u6, u5⟩ := (HM.out.next HH.out.2).get hkm
        have T := Lib.hid (And.intro t3 (And.intro t6 t5))
        have U := Lib.hid (And.intro u3 (And.intro u6 u5))
        clear t3 t5 t6 u3 u5 u6
        by_cases ho : l[k] = m[k]
        · have HO := Lib.hid ho
          have HQ := Lib.hid (eqB_yes ho).symm
          clear ho
          go_wp2_with (go_at_fn g; refine (HF.out l[k] m[k] _ B1 B2 cc dd T.out.1 T.out.2.1 (T.out.2.2.next (by go_grown)) U.out.1 U.out.2.1 (U.out.2.2.next (by go_grown))).mono ?_; rintro e w' ⟨rfl, hB⟩; rw [HQ.out]; have HB := Lib.hid (Below.trans (show Below wr.heap.size wr _ from by go_grown) (hB.mono (by simp <;> omega))); clear hB)
          go_roundw
          case rel => exact ⟨k + 1, by go_num, by omega, Lib.hid ⟨fun i hi => by
            by_cases hik : i < k
            · exact HH.out.1 i hik
            · obtain rfl : i = k := by omega
              rw [List.getElem?_eq_getElem hkl, List.getElem?_eq_getElem hkm]; exact congrArg some HO.out, HH.out.2.trans (HB.out.mono HH.out.2.size)⟩⟩
          case measure => simp [intOf]; omega
        · have HO := Lib.hid ho
          have HQ := Lib.hid (eqB_no ho).symm
          clear ho
          go_wp2_with (go_at_fn g; refine (HF.out l[k] m[k] _ B1 B2 cc dd T.out.1 T.out.2.1 (T.out.2.2.next (by go_grown)) U.out.1 U.out.2.1 (U.out.2.2.next (by go_grown))).mono ?_; rintro e w' ⟨rfl, hB⟩; rw [HQ.out]; have HB := Lib.hid (Below.trans (show Below wr.heap.size wr _ from by go_grown) (hB.mono (by simp <;> omega))); clear hB)
          go_ret
          exact ⟨ret_bool (eqB_no (fun e => HO.out (by simp only [e]))), HH.out.2.trans (HB.out.mono HH.out.2.size)⟩
      · obtain rfl : k = l.length := by omega
        have hn := HN.out
        go_wp2
        go_ret
        exact ⟨ret_bool (eqB_yes (list_same HN.out HH.out.1)), HH.out.2⟩
  · have hn' : ¬ (l.length : Int) = (m.length : Int) := by omega
    have HN := Lib.hid hn
    go_enter Try.func74, Try.ntmps74
    go_wp2
    go_ret
    exact ⟨ret_bool (eqB_no (fun e => HN.out (by rw [e]))), Below.refl _ _⟩
end Go.Proofs.Ytbcbmgeoaejlmaa
