import Derived.Test.YtpennadfomnenaaGreatDoorProg
import Derived.WalkKit
import Derived.ProofKit
import Derived.Lib.Hide
import Derived.Below
import Derived.Laws.Concat
import Derived.Laws.RangeString
import Derived.WalkSpells
import Derived.BigQuiet
import Derived.Deep.QuietTactic
import Derived.WalkSmall
import Derived.IntWalk
import Derived.Deep.Draws
import Derived.Maps.AppendAt
import Derived.Laws.IdiomStrings
import Derived.Lib.SlBytesRow
import Derived.Test.YtpennadfomnenaaGreatDoorQ00
set_option linter.unusedVariables false
namespace Go.Proofs.YtpennadfomnenaaGreatDoor
open Go.ChangeShapes Go.WideShapes Go.ChangeAt Go.RowKit

theorem byte_of_int {c : UInt8} {n : Nat} (hn : n < 256) (h : ((c.toNat : Int) == (n : Int)) = true) : c = UInt8.ofNat n := by
  have h' : (c.toNat : Int) = n := by simpa using h
  apply UInt8.toNat_inj.1
  simp; omega
/-- 't[i:j]' of a text -/
theorem cut_at (s : ByteArray) (i j : Nat) (hij : i ≤ j) (hj : j ≤ s.size) (x y : Int) (hx : x = i) (hy : y = j) (w : World) :
    (Instr.slice 9 (.string s) (some (.int .i64 x)) (some (.int .i64 y)) none).run Tryz.prog w = .ok (.string (s.extract i j)) w := by
  subst hx hy
  rw [run_slice_string_if w 9 s .i64 .i64 _ _ Tryz.underlying9, if_pos (by omega), if_pos (by omega)]
  simp
theorem ret_string {a b : ByteArray} (h : a = b) : Ending.returned (.string a) = .returned (.string b) := by rw [h]
end Go.Proofs.YtpennadfomnenaaGreatDoor
namespace Go.Proofs.YtpennadfomnenaaGreatDoor
open Go.ChangeShapes Go.WideShapes Go.ChangeAt Go.RowKit

/-- the bytes from a place on -/
def rest (s : ByteArray) (p : Nat) : List UInt8 := s.data.toList.drop p
theorem rest_len (s : ByteArray) (p : Nat) : (rest s p).length = s.size - p := by simp [rest]
theorem rest_at {s : ByteArray} {p i : Nat} (h : p + i < s.size) : (rest s p)[i]? = some (s[p + i]'h) := by
  rw [rest, List.getElem?_drop]; exact byte_at h
theorem rest_cons {s : ByteArray} {p : Nat} (h : p < s.size) : rest s p = s[p] :: rest s (p + 1) := by
  unfold rest; rw [List.drop_eq_getElem_cons (by simpa using h)]; rfl
/-- what the model tells of an escape -/
def OneP (s : ByteArray) (p : Nat) (w : World) (e : Ending) (w' : World) : Prop := ∃ (c n : Int), e = .returned (.tuple #[.int .u8 c, .int .i64 n]) ∧
  ((∃ b m, oneAt (rest s p) = some (b, m) ∧ c = (b.toNat : Int) ∧ n = (m : Int)) ∨ (oneAt (rest s p) = none ∧ c = 0 ∧ n = 0)) ∧ Below w.heap.size w w'
/-- from p up to m no ';' stands -/
def NoSemi (s : ByteArray) (p m : Nat) : Prop := ∀ j (h : j < s.size), p ≤ j → j < m → s[j] ≠ 59
theorem NoSemi.succ {s : ByteArray} {p m : Nat} (h : NoSemi s p m) (hm : m < s.size) (h1 : s[m] ≠ 59) : NoSemi s p (m + 1) := fun j hj h2 h3 => by
  by_cases e : j = m
  · subst e; exact h1
  · exact h j hj h2 (by omega)
theorem noSemi_rest {s : ByteArray} {p m : Nat} (h : NoSemi s p m) (hm : m = s.size ∨ m = p + 6) : ∀ i, i < 6 → (rest s p)[i]? ≠ some 59 := fun i hi => by
  by_cases hl : p + i < s.size
  · rw [rest_at hl]
    intro e
    injection e with e1
    exact h (p + i) hl (by omega) (by omega) e1
  · rw [List.getElem?_eq_none (by rw [rest_len]; omega)]
    intro e; cases e
theorem cut_list' (s : ByteArray) (a b : Nat) : (s.extract a b).data.toList = (s.data.toList.take b).drop a := by
  rw [ByteArray.data_extract, Array.toList_extract, List.extract_eq_take_drop, List.drop_take]
/-- the escape of a number, as it stands -/
theorem rest_number {s : ByteArray} {p m : Nat} (h1 : p + 2 ≤ m) (hm : m < s.size) (h59 : s[m] = 59) : rest s p = s[p]'(by omega) :: s[p + 1]'(by omega) :: ((s.extract (p + 2) m).data.toList ++ 59 :: rest s (m + 1)) := by
  rw [rest_cons (by omega), rest_cons (by omega)]
  congr 2
  rw [cut_list']
  have e : rest s (p + 1 + 1) = (s.data.toList.take m).drop (p + 2) ++ rest s m := by
    unfold rest
    conv => lhs; rw [← List.take_append_drop m s.data.toList]
    rw [List.drop_append_of_le_length (by simp; omega)]
  rw [e, rest_cons hm, h59]
theorem extract_len {s : ByteArray} {a b : Nat} (h : b ≤ s.size) : (s.extract a b).data.toList.length = b - a := by
  rw [cut_list']; simp; omega
theorem one_number_at {s : ByteArray} {p m : Nat} (hno : NoName (rest s p) 4) (h38 : ∀ h : p < s.size, s[p] = 38) (h35 : ∀ h : p + 1 < s.size, s[p + 1] = 35) (h1 : p + 2 ≤ m) (h6 : m < p + 6) (hm : m < s.size) (h59 : s[m] = 59) (hns : NoSemi s p m) :
    oneAt (rest s p) = (num3 (s.extract (p + 2) m).data.toList).map fun n => (UInt8.ofNat n, m + 1 - p) := by
  have hr := rest_number h1 hm h59
  have hl := extract_len (s := s) (a := p + 2) (b := m) (by omega)
  rw [hr] at hno ⊢
  rw [one_digits hno (h38 _) (h35 _) (by omega) (fun c hc => ?_)]
  · congr 1
    funext n
    rw [hl]; congr 1; omega
  · obtain ⟨i, hi, rfl⟩ := List.getElem_of_mem hc
    rw [hl] at hi
    have e : (s.extract (p + 2) m).data.toList[i]? = some (s[p + 2 + i]'(by omega)) := by
      rw [cut_list', List.getElem?_drop, List.getElem?_take, if_pos (by omega)]
      exact byte_at (by omega)
    rw [List.getElem?_eq_getElem (by rw [hl]; exact hi)] at e
    injection e with e1
    rw [e1]
    exact hns _ (by omega) (by omega) (by omega)
def nmS : List ByteArray := nmL.map fun l => ⟨l.toArray⟩
/-- block L holds the names -/
def NamesAt (L : Nat) (w : World) : Prop := w.heap[L]? = some (.cells (nmS.map Value.string).toArray 9)
theorem NamesAt.cell {L : Nat} {w : World} (h : NamesAt L w) {k : Nat} (hk : k < nmL.length) : w.cell? ⟨L, k, none⟩ = some (.string ⟨nmL[k].toArray⟩) := by
  have hk' : k < nmS.length := hk
  unfold World.cell?
  rw [h]
  simp [hk']
  simp [nmS]
theorem NamesAt.new (w : World) : NamesAt w.heap.size (w.alloc (.cells (nmS.map Value.string).toArray 9)) := by
  show (w.heap.push _)[w.heap.size]? = _
  simp
theorem cut_list (s : ByteArray) (a b : Nat) : (s.extract a b).data.toList = (s.data.toList.take b).drop a := by
  rw [ByteArray.data_extract, Array.toList_extract, List.extract_eq_take_drop, List.drop_take]
/-- a name stands there just if so many bytes are there, and are it -/
theorem named_yes {s : ByteArray} {p : Nat} {nm : ByteArray} (_hp : p + nm.size ≤ s.size) (h : ((s.extract p (p + nm.size)).toList == nm.toList) = true) : nm.data.toList <+: rest s p := by
  have e : (s.extract p (p + nm.size)).toList = nm.toList := by simpa using h
  rw [ByteArray.toList_eq, ByteArray.toList_eq, cut_list, List.drop_take] at e
  rw [← e, show p + nm.size - p = nm.size by omega]
  exact List.take_prefix _ _
theorem named_no {s : ByteArray} {p : Nat} {nm : ByteArray} (h : ¬ p + nm.size ≤ s.size ∨ ((s.extract p (p + nm.size)).toList == nm.toList) = false) (h0 : p ≤ s.size) : ¬ nm.data.toList <+: rest s p := by
  intro hp
  have hl := hp.length_le
  rw [rest_len] at hl
  have hz : nm.data.toList.length = nm.size := by simp
  rcases h with h | h
  · omega
  · have e : ¬ (s.extract p (p + nm.size)).toList = nm.toList := by simpa using h
    apply e
    rw [ByteArray.toList_eq, ByteArray.toList_eq, cut_list, List.drop_take, show p + nm.size - p = nm.size by omega]
    obtain ⟨t, ht⟩ := hp
    show (rest s p).take nm.size = _
    rw [← ht, ← hz, List.take_left]
set_option maxHeartbeats 4000000 in
set_option maxRecDepth 100000 in
theorem l02One_any (s : ByteArray) (p : Nat) (hp : p < s.size) (hs : s.size ≤ 65536) (h38 : s[p] = 38) (w : World) :
    Calls Tryz.prog 156 #[.string s, .int .i64 (p : Int)] w (OneP s p w) := by
  have H38 := Lib.hid h38
  clear h38
  go_enter Tryz.func156, Tryz.ntmps156
  go_wp2
  obtain ⟨W, hW⟩ : ∃ W, W = w.alloc (.cells (nmS.map Value.string).toArray 9) := ⟨_, rfl⟩
  have hN : NamesAt w.heap.size W := by rw [hW]; exact NamesAt.new w
  have hbW : Below w.heap.size w W := by rw [hW]; exact (Below.refl _ w).alloc (Nat.le_refl _) _
  have HW := Lib.hid hW
  clear hW
  go_loopw [7] (fun i wr => ∃ k : Nat, k ≤ 4 ∧ i = .int .i64 k ∧ NoName (rest s p) k ∧ ∃ q, wr = W.drewN q) (fun i _ => 4 - (intOf i).toNat)
  case atStart => exact ⟨0, by omega, rfl, NoName.zero _, 0, by rw [HW.out]; rfl⟩
  case round =>
    obtain ⟨k, hk, rfl, hno, q, rfl⟩ := hrel
    have HNo := Lib.hid hno
    clear hno
    by_cases hlt : k < 4
    · have hlt' : k < nmL.length := hlt
      have hki : (k : Int) < 4 := by omega
      have hc : W.cell? ⟨w.heap.size, k, none⟩ = some (.string ⟨nmL[k].toArray⟩) := hN.cell hlt'
      have hz5 : nmL[k].length ≤ 6 := by
        have : ∀ j : Fin 4, nmL[j].length ≤ 6 := by decide
        exact this ⟨k, hlt⟩
      obtain ⟨nm, hnm⟩ : ∃ nm : ByteArray, nm = ⟨nmL[k].toArray⟩ := ⟨_, rfl⟩
      rw [← hnm] at hc
      have hnl : nm.data.toList = nmL[k] := by rw [hnm]
      have hsz : nm.size ≤ 6 := by
        have : nm.data.toList.length = nm.size := by simp
        rw [hnl] at this; omega
      have HNM := Lib.hid hnl
      clear hnm hnl hz5
      have ew : IntKind.i64.wrap ((p : Int) + (nm.size : Int)) = (p : Int) + (nm.size : Int) := IntWalk.i64_in _ (by omega)
      by_cases h1 : (p : Int) + (nm.size : Int) ≤ (s.size : Int)
      · have hx := cut_at s p (p + nm.size) (by omega) (by omega) p ((p : Int) + (nm.size : Int)) rfl (by omega)
        by_cases h2 : ((s.extract p (p + nm.size)).toList == nm.toList) = true
        · have HY := Lib.hid (named_yes (by omega) h2)
          go_wp2
          go_quiet (fail)
          have hbq : Below w.heap.size w ((W.drewN q).drewN nq) := below_drewN (below_drewN hbW q) nq
          generalize (W.drewN q).drewN nq = W2 at hbq ⊢
          go_wp2
          go_ret2
          refine ⟨_, _, rfl, Or.inl ⟨_, _, one_named hlt' (by rw [← HNM.out]; exact HY.out), ?_, ?_⟩, hbq⟩
          · rfl
          · rw [← HNM.out]; simp
        · have h2' : ((s.extract p (p + nm.size)).toList == nm.toList) = false := by simpa using h2
          clear h2
          have HY := Lib.hid (named_no (Or.inr h2') (by omega))
          go_wp2
          go_quiet (fail)
          go_wp2
          go_roundw
          case rel => exact ⟨k + 1, by omega, by go_num, HNo.out.succ hlt' (by rw [← HNM.out]; exact HY.out), q + nq, rfl⟩
          case measure => simp [intOf]; omega
      · have h1' : decide ((p : Int) + (nm.size : Int) ≤ (s.size : Int)) = false := by simpa using h1
        have HY := Lib.hid (named_no (s := s) (p := p) (nm := nm) (Or.inl (by omega)) (by omega))
        clear h1
        go_wp2
        go_quiet (fail)
        go_wp2
        go_roundw
        case rel => exact ⟨k + 1, by omega, by go_num, HNo.out.succ hlt' (by rw [← HNM.out]; exact HY.out), q + nq, rfl⟩
        case measure => simp [intOf]; omega
    · obtain rfl : k = 4 := by omega
      have hbq : Below w.heap.size w (W.drewN q) := below_drewN hbW q
      generalize W.drewN q = W2 at hbq ⊢
      by_cases h3 : s.size ≤ p + 3
      · have HO := Lib.hid (one_short HNo.out (by rw [rest_len]; omega))
        have h3' : (s.size : Int) ≤ (p : Int) + 3 := by omega
        clear h3
        go_wp2
        go_ret2
        exact ⟨0, 0, rfl, Or.inr ⟨HO.out, rfl, rfl⟩, hbq⟩
      · have h3' : decide ((s.size : Int) ≤ (p : Int) + 3) = false := by simp; omega
        have hp1 : p + 1 < s.size := by omega
        have hp1' : (p : Int) + 1 < (s.size : Int) := by omega
        by_cases h35 : (s[p + 1].toNat : Int) = 35
        · have h35' : ((s[p + 1].toNat : Int) != 35) = false := by simp [h35]
          have H35 := Lib.hid h35
          clear h35
          have H35b := Lib.hid (show s[p + 1] = 35 from UInt8.toNat_inj.1 (by have := H35.out; show (s[p + 1]).toNat = 35; omega))
          clear H35
          go_wp2
          go_loop [9] (fun i => ∃ m : Nat, p + 2 ≤ m ∧ m ≤ p + 6 ∧ m ≤ s.size ∧ i = .int .i64 m ∧ NoSemi s p m) (fun i => p + 6 - (intOf i).toNat)
          case atStart =>
            refine ⟨p + 2, Nat.le_refl _, by omega, by omega, by go_num, fun j hj h1 h2 => ?_⟩
            by_cases e : j = p
            · subst e; rw [H38.out]; decide
            · obtain rfl : j = p + 1 := by omega
              rw [H35b.out]; decide
          case round =>
            obtain ⟨m, hm1, hm2, hm3, rfl, hns⟩ := hrel
            have HNS := Lib.hid hns
            clear hns
            by_cases hms : m < s.size
            · by_cases hm6 : (m : Int) < (p : Int) + 6
              · by_cases h59 : ((s[m].toNat : Int) == 59) = true
                · have H59 := Lib.hid (show s[m] = 59 from byte_of_int (n := 59) (by omega) h59)
                  have HO := Lib.hid (one_number_at HNo.out (fun _ => H38.out) (fun _ => H35b.out) hm1 (by omega) hms H59.out HNS.out)
                  have hx := cut_at s (p + 2) m hm1 (by omega) ((p : Int) + 2) m (by omega) rfl
                  have hxs : (s.extract (p + 2) m).size ≤ 3 := by rw [ByteArray.size_extract]; omega
                  generalize s.extract (p + 2) m = d at hx hxs HO
                  go_wp2_with (go_at_call 203; refine (l00Number_any d hxs _).mono ?_)
                  rintro e w1 ⟨z, b, rfl, hz, rfl⟩
                  rcases hz with ⟨rfl, hz1, hz2, hz3⟩ | ⟨hz, hz3⟩
                  · have HZ := Lib.hid hz3
                    clear hz3
                    go_wp2_with (go_at_call 103; refine (l01In_any z 1 126 _).mono ?_; rintro e w2 ⟨rfl, rfl⟩)
                    have hzn : IntKind.u8.wrap z = z := IntWalk.u8_in z (by omega)
                    go_wp2
                    go_ret2
                    refine ⟨_, _, rfl, Or.inl ⟨UInt8.ofNat z.toNat, m + 1 - p, by rw [HO.out, HZ.out]; rfl, ?_, ?_⟩, hbq⟩
                    · simp; omega
                    · omega
                  · have HO2 := Lib.hid (show oneAt (rest s p) = none by rw [HO.out, hz3]; rfl)
                    clear hz3
                    cases b
                    · go_wp2
                      go_ret2
                      exact ⟨0, 0, rfl, Or.inr ⟨HO2.out, rfl, rfl⟩, hbq⟩
                    · have hz' : z < 1 ∨ (1 ≤ z ∧ decide (z ≤ 126) = false) := by
                        rcases hz with h | h | h
                        · cases h
                        · exact Or.inl h
                        · exact Or.inr ⟨by omega, by simp; omega⟩
                      clear hz
                      rcases hz' with hz | ⟨hz, hz2⟩
                      all_goals
                        go_wp2_with (go_at_call 103; refine (l01In_any z 1 126 _).mono ?_; rintro e w2 ⟨rfl, rfl⟩)
                        go_ret2
                        exact ⟨0, 0, rfl, Or.inr ⟨HO2.out, rfl, rfl⟩, hbq⟩
                · have h59' : ((s[m].toNat : Int) == 59) = false := by simpa using h59
                  have HN' := Lib.hid (HNS.out.succ hms (fun e => h59 (by rw [e]; rfl)))
                  clear h59
                  go_wp2
                  go_round
                  case rel => exact ⟨m + 1, by omega, by omega, by omega, by go_num, HN'.out⟩
                  case measure => simp [intOf]; omega
              · have hm6' : decide ((m : Int) < (p : Int) + 6) = false := by simpa using hm6
                have HO := Lib.hid (one_noEnd HNo.out (noSemi_rest HNS.out (Or.inr (by omega))))
                clear hm6
                go_wp2
                go_ret2
                exact ⟨0, 0, rfl, Or.inr ⟨HO.out, rfl, rfl⟩, hbq⟩
            · obtain rfl : m = s.size := by omega
              have HO := Lib.hid (one_noEnd HNo.out (noSemi_rest HNS.out (Or.inl rfl)))
              go_wp2
              go_ret2
              exact ⟨0, 0, rfl, Or.inr ⟨HO.out, rfl, rfl⟩, hbq⟩
        · have h35' : ((s[p + 1].toNat : Int) != 35) = true := by simpa using h35
          have HO := Lib.hid (one_noHash HNo.out (by
            rw [rest_at (by omega)]
            intro e
            injection e with e1
            apply h35
            rw [e1]; rfl))
          clear h35
          go_wp2
          go_ret2
          exact ⟨0, 0, rfl, Or.inr ⟨HO.out, rfl, rfl⟩, hbq⟩
end Go.Proofs.YtpennadfomnenaaGreatDoor
namespace Go.Proofs.YtpennadfomnenaaGreatDoor
open Go.ChangeShapes Go.WideShapes Go.ChangeAt Go.RowKit

theorem Tryz.info5 : (Tryz.prog.info? 5).map (fun i => (i.zero, i.size, i.bytes)) = some (some (.int .u8 0), 1, 1) := by kernel_rfl
abbrev cellU (b : UInt8) : Value := .int .u8 (b.toNat : Int)
/-- v is a slice of bytes of the call's own, its bytes are l; of what lay in w0 nothing has turned -/
def OwnB (w0 w : World) (v : Value) (l : List UInt8) : Prop :=
  w.ownsRow w0.heap.size 5 1 v l.length (l.map cellU) ∧ Below w0.heap.size w0 w
theorem run_append_byte {w0 wr : World} {v : Value} {l : List UInt8} (h : OwnB w0 wr v l) (hl : l.length < 1000000000000) (ty : TypeId) {x : Int} {b : UInt8} (hb : x = (b.toNat : Int)) :
    ∃ v' w', (Builtin.append_ #[22, 22] ty #[v, .slice (some ⟨wr.heap.size, 0, none⟩) 1 1]).run Tryz.prog (wr.alloc (.cells #[.int .u8 x] 5)) = .ok v' w' ∧ OwnB w0 w' v' (l ++ [b]) := by
  subst hb
  obtain ⟨i0, hi, hz0, hz1, hz2⟩ := info_parts Tryz.info5
  obtain ⟨v', w', hrun, h2, h3, _⟩ := run_append_own (P := Tryz.prog) (wr.alloc (.cells #[.int .u8 (b.toNat : Int)] 5)) w0.heap.size 22 ty 5 i0 (.int .u8 0) 1 1 Tryz.underlying22 hi hz0 hz1 hz2 rfl (by decide)
    v l.length (l.map cellU) (h.1.alloc _) ⟨wr.heap.size, 0, none⟩ 1 1 [cellU b] rfl (cell_one_new _ _ _) (by simp [Value.oneCell']) (by unfold maxLen; omega) (by omega) (by simp; have := h.2.size; omega)
  refine ⟨v', w', hrun, by simpa using h2, (h.2.alloc h.2.size _).grown h3 (by simp; have := h.2.size; omega) (fun k hk => (h.1.lt k hk).1)⟩
theorem wpList_append_byte {ops : Array Oper} {rest : List Oper} {o : Oper} {a : Act} {Q : Exit → Act → World → Prop} (w0 wr : World) (hgd : o.guard = none) (s x : Operand)
    (ho : o.op = .call { callee := .builtin .append, args := #[s, x], argTypes := #[22, 22] })
    (v : Value) (l : List UInt8) (n : Int) (b : UInt8) (hs : a.eval s = v) (hx : a.eval x = .slice (some ⟨wr.heap.size, 0, none⟩) 1 1) (h : OwnB w0 wr v l) (hl : l.length < 1000000000000) (hb : n = (b.toNat : Int))
    (hK : ∀ v' w', OwnB w0 w' v' (l ++ [b]) → wpList Tryz.prog ops Q rest (a.put o.dst v') w') :
    wpList Tryz.prog ops Q (o :: rest) a (wr.alloc (.cells #[.int .u8 n] 5)) := by
  refine wpList_plain hgd fun _ hK' => ?_
  obtain ⟨v', w', hrun, h2⟩ := run_append_byte h hl o.type hb
  unfold Oper.wp execOp
  simp only [ho, resolve, invoke, builtin, Sem.run_bind, Sem.run_pure, Result.andThen_ok, List.map_toArray, List.map_cons, List.map_nil, hs, hx, hrun]
  exact hK' _ _ (hK v' w' h2)
theorem OwnB.cellAt {w0 w : World} {g cap n : Nat} {l : List UInt8} (h : OwnB w0 w (.slice (some ⟨g, 0, none⟩) n cap) l) : n = l.length ∧ ∀ j (hj : j < l.length), w.cell? ⟨g, j, none⟩ = some (cellU l[j]) := by
  obtain ⟨⟨h1, h2⟩, h3⟩ := h
  have hn : n = l.length := by
    rcases h2 with ⟨he, h0⟩ | ⟨g', cap', cur, he, _⟩
    · cases he
    · injection he
  subst hn
  refine ⟨rfl, fun j hj => ?_⟩
  have := World.ownsRow.cellAt (w := w) (base := w0.heap.size) (e := 5) (size := 1) (xs := l.map cellU) ⟨h1, h2⟩ j (by omega)
  rw [this]; simp [hj]
/-- 'string(b)' -/
theorem run_string_own {w0 w : World} {v : Value} {l : List UInt8} (h : OwnB w0 w v l) : (convert 22 9 v).run Tryz.prog w = .ok (.string ⟨l.toArray⟩) w := by
  have h0 := h
  obtain ⟨⟨h1, h2⟩, h3⟩ := h0
  rcases h2 with ⟨rfl, hz⟩ | ⟨g, cap, cur, rfl, _⟩
  · have : l = [] := List.length_eq_zero_iff.mp hz
    subst this
    rw [run_convert_bytes_string w 22 9 5 none 0 0 Tryz.underlying22 Tryz.underlying5 Tryz.underlying9]
    rfl
  · obtain ⟨_, hc⟩ := h.cellAt
    exact run_convert_bytes_back w 22 9 5 ⟨g, 0, none⟩ cap l Tryz.underlying22 Tryz.underlying5 Tryz.underlying9 (fun j hj => by rw [show (⟨g, 0, none⟩ : Addr).add j = ⟨g, j, none⟩ by cases j <;> simp [Addr.add]]; exact hc j hj)
theorem wpList_string_own {ops : Array Oper} {rest : List Oper} {o : Oper} {a : Act} {Q : Exit → Act → World → Prop} (w0 w : World) (hgd : o.guard = none) (s : Operand)
    (ho : o.op = .convert 22 9 s) (v : Value) (l : List UInt8) (hs : a.eval s = v) (h : OwnB w0 w v l)
    (hK : wpList Tryz.prog ops Q rest (a.put o.dst (.string ⟨l.toArray⟩)) w) :
    wpList Tryz.prog ops Q (o :: rest) a w := by
  refine wpList_plain hgd fun _ hK' => ?_
  have hrun := run_string_own h
  unfold Oper.wp
  simp [execOp, ho, hs, hrun, Result.andThen]
  exact hK' _ _ hK
end Go.Proofs.YtpennadfomnenaaGreatDoor
