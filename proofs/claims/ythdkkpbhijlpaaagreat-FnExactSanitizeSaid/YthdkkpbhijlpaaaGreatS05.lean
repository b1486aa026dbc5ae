import Derived.Deep.RegionWith
import Derived.Deep.Draws
import Derived.Maps.Own
import Derived.Maps.OwnOps
import Derived.Maps.Views
import Derived.Test.YthdkkpbhijlpaaaGreatS04
import Derived.Test.YthdkkpbhijlpaaaGreatS03
set_option linter.unusedVariables false
namespace Go.Proofs.YthdkkpbhijlpaaaGreat
open Go.ChangeShapes Go.WideShapes Go.ChangeAt Go.RowKit Go.Deep

theorem szRuleS_any (l : List Ru) (m : Nat) (w : World) (A : Option Addr) (c : Nat) (hm : m ≤ 1048576) (h : RuIn w A l) :
    Calls Tryz.prog 31 #[.slice A l.length c, .int .i64 (m : Int)] w fun e w' => e = .returned (.int .i64 (left m (l.length + rusSize l))) ∧ Below w.heap.size w w' := by
  have hlen := h.1
  unfold maxLen at hlen
  by_cases c1 : l.length ≤ m
  · have HA := Lib.hid h
    clear h
    go_enter Tryz.func31, Tryz.ntmps31
    go_wp2
    go_loopw [1, 5] (fun x i wr => ∃ k q : Nat, x = .int .i64 (q : Int) ∧ i = .int .i64 (k : Int) ∧ k ≤ l.length ∧ q + (l.length + rusSize (l.take k)) = m ∧ Hid (Below w.heap.size w wr)) (fun x i wr => l.length - (intOf i).toNat)
    case atStart => exact ⟨0, m - l.length, by go_num, rfl, by omega, by simp [rusSize]; omega, Lib.hid (Below.refl _ _)⟩
    case round =>
      obtain ⟨k, q, rfl, rfl, hk, hq, HH⟩ := hrel
      by_cases hlt : k < l.length
      · obtain ⟨g, o, rfl, hg, t0, t1, hz, B, cc, t2, _, hb⟩ := (HA.out.next HH.out).get hlt
        have hs := rusSize_take hlt
        have hle2 := rusSize_le l (k + 1)
        have HB := Lib.hid hb
        clear hb
        by_cases c2 : ruSize l[k] ≤ q
        · have HE := Lib.hid (left_le c2)
          go_wp2_with (go_at_call 69; go_loud (refine (szRule_any _ _ _ q _ B cc (by omega) hz HB.out).mono ?_; rintro e w' ⟨rfl, hB'⟩; rw [HE.out]; have HB' := Lib.hid hB'; clear hB'))
          go_roundw
          case rel => exact ⟨k + 1, q - ruSize l[k], by go_num, by go_num, by omega, by rw [hs]; omega, Lib.hid (HH.out.trans (HB'.out.mono HH.out.size))⟩
          case measure => simp [intOf]; omega
        · have HE := Lib.hid (left_gt c2)
          have HL := Lib.hid (left_gt (l := m) (n := l.length + rusSize l) (by omega))
          go_wp2_with (go_at_call 69; go_loud (refine (szRule_any _ _ _ q _ B cc (by omega) hz HB.out).mono ?_; rintro e w' ⟨rfl, hB'⟩; rw [HE.out]; have HB' := Lib.hid hB'; clear hB'))
          go_ret
          exact ⟨by rw [HL.out]; rfl, HH.out.trans (HB'.out.mono HH.out.size)⟩
      · obtain rfl : k = l.length := by omega
        rw [List.take_length] at hq
        have HL := Lib.hid (left_le (l := m) (n := l.length + rusSize l) (by omega))
        go_wp2
        go_ret
        exact ⟨by rw [HL.out]; go_num, HH.out⟩
  · have HL := Lib.hid (left_gt (l := m) (n := l.length + rusSize l) (by omega))
    clear h
    go_enter Tryz.func31, Tryz.ntmps31
    go_wp2
    go_ret
    exact ⟨by rw [HL.out]; rfl, Below.refl _ _⟩
theorem make_rules (n : Nat) (hn : n ≤ 1048576) (w : World) : (Instr.makeSlice 33 (.int .i64 (n : Int)) (.int .i64 (n : Int))).run Tryz.prog w = .ok (.slice (some ⟨w.heap.size, 0, none⟩) n n) (w.alloc (.cells (madeCells #[.int .i64 0, .string ⟨#[]⟩, .slice none 0 0] (n * 3)) 106)) := by
  have hinfo : (Tryz.prog.info? 106).map (fun i => (i.zero, i.size, i.bytes)) = some (some (.agg #[.int .i64 0, .string ⟨#[]⟩, .slice none 0 0]), 3, 48) := by kernel_rfl
  obtain ⟨i, hi, hzz⟩ := Option.map_eq_some_iff.1 hinfo
  simp only [Prod.mk.injEq] at hzz
  obtain ⟨hz, hs, hb⟩ := hzz
  have := run_make (P := Tryz.prog) w 33 106 i _ Tryz.underlying33 hi hz .i64 .i64 n n (by omega) (Int.le_refl _) (by rw [hb]; omega) (by omega)
  simp only [Int.toNat_natCast, hs] at this
  exact this
/-- a rule that was made now: its attributes lie behind block g -/
def RuMade (w : World) (g o : Nat) (x : Ru) : Prop :=
  w.cell? ⟨g, o, none⟩ = some (.int .i64 x.1) ∧ w.cell? ⟨g, o + 1, none⟩ = some (.string x.2.1) ∧ x.2.1.size ≤ maxLen ∧ ∃ b c, w.cell? ⟨g, o + 2, none⟩ = some (.slice (some ⟨b, 0, none⟩) x.2.2.length c) ∧ x.2.2.length ≤ c ∧ g < b ∧ NmIn w (some ⟨b, 0, none⟩) x.2.2
theorem RuMade.at {w : World} {g o : Nat} {x : Ru} (h : RuMade w g o x) : RuAt w g o x := by
  obtain ⟨h1, h2, h3, b, c, h4, hc, _, h5⟩ := h
  exact ⟨h1, h2, h3, _, c, h4, hc, h5⟩
theorem RuMade.carry {w w' : World} {g o : Nat} {x : Ru} (h : RuMade w g o x) (h0 : ∀ j, j < 3 → w'.cell? ⟨g, o + j, none⟩ = w.cell? ⟨g, o + j, none⟩) (hs : ∀ b j, g < b → b < w.heap.size → w'.cell? ⟨b, j, none⟩ = w.cell? ⟨b, j, none⟩) : RuMade w' g o x := by
  obtain ⟨h1, h2, h3, b, c, h4, hc, h5, h6⟩ := h
  refine ⟨(h0 0 (by omega)).trans h1, (h0 1 (by omega)).trans h2, h3, b, c, (h0 2 (by omega)).trans h4, hc, h5, h6.carry fun q o e hq j _ => ?_⟩
  obtain ⟨rfl, _⟩ := addr_inj e
  exact hs _ _ h5 hq
/-- a row of rules that was made now -/
def RuRow (w : World) (g : Nat) (l : List Ru) : Prop := l.length ≤ maxLen ∧ ∀ k (h : k < l.length), RuMade w g (k * 3) l[k]
theorem RuRow.ru {w : World} {g : Nat} {l : List Ru} (h : RuRow w g l) : RuIn w (some ⟨g, 0, none⟩) l := ⟨h.1, Or.inr ⟨g, 0, rfl, fun k hk => by rw [Nat.zero_add]; exact (h.2 k hk).at⟩⟩
theorem RuRow.carry {w w' : World} {g : Nat} {l : List Ru} (h : RuRow w g l) (hs : ∀ b j, g ≤ b → b < w.heap.size → w'.cell? ⟨b, j, none⟩ = w.cell? ⟨b, j, none⟩) : RuRow w' g l :=
  ⟨h.1, fun k hk => (h.2 k hk).carry (fun j _ => hs g _ (Nat.le_refl _) (World.block_lt_of_cell? w _ (h.2 k hk).1)) fun b j hb hl => hs b j (by omega) hl⟩
theorem RuRow.next {w w' : World} {g : Nat} {l : List Ru} (h : RuRow w g l) (hB : Below w.heap.size w w') : RuRow w' g l := h.carry fun b j _ hb => hB.cell (p := ⟨b, j, none⟩) hb
theorem RuRow.off {w : World} {g b i : Nat} {l : List Ru} (h : RuRow w g l) (hb : b < g) (v : Value) : RuRow (w.setCell ⟨b, i, none⟩ v) g l := h.carry fun b' j hb' _ => oth (by omega)
theorem NmIn.off {w : World} {g b i : Nat} {l : List ByteArray} (h : NmIn w (some ⟨g, 0, none⟩) l) (hb : b < g) (v : Value) : NmIn (w.setCell ⟨b, i, none⟩ v) (some ⟨g, 0, none⟩) l :=
  h.carry fun q o e _ j _ => by obtain ⟨rfl, _⟩ := addr_inj e; exact oth (by omega)
theorem toRuleS_any (l : List Ru) (w : World) (A : Option Addr) (c : Nat) (hl : l.length + rusSize l ≤ 1048576) (h : RuIn w A l) :
    Calls Tryz.prog 36 #[.slice A l.length c] w fun e w' => e = .returned (.slice (some ⟨w.heap.size, 0, none⟩) l.length l.length) ∧ Below w.heap.size w w' ∧ RuRow w' w.heap.size l := by
  have hmk := make_rules l.length (by omega) w
  have HA := Lib.hid h
  clear h
  go_enter Tryz.func36, Tryz.ntmps36
  go_wp2
  go_loopw [4] (fun i wr => ∃ k : Nat, i = .int .i64 (k : Int) ∧ k ≤ l.length ∧ Hid (Below w.heap.size w wr ∧ w.heap.size < wr.heap.size ∧ (∀ j (h : j < l.length), j < k → RuMade wr w.heap.size (j * 3) l[j]) ∧ Room wr w.heap.size (l.length * 3))) (fun i wr => l.length - (intOf i).toNat)
  case atStart => exact ⟨0, rfl, Nat.zero_le _, Lib.hid ⟨(Below.refl _ _).alloc (Nat.le_refl _) _, by simp, fun j _ h => absurd h (Nat.not_lt_zero _), room_made _ _ _ _⟩⟩
  case round =>
    obtain ⟨k, rfl, hk, HH⟩ := hrel
    by_cases hlt : k < l.length
    · obtain ⟨g, o, rfl, hg, t0, t1, hz, B, cc, t2, _, hb⟩ := (HA.out.next HH.out.1).get hlt
      have hs := rusSize_take hlt
      have hle2 := rusSize_le l (k + 1)
      have hll : l[k].2.2.length ≤ 1048576 := by unfold ruSize at hs; omega
      have HB := Lib.hid hb
      have hwl := HH.out.2.1
      clear hb hs hle2
      go_wp2_with (go_at_call 74; go_loud (refine (toRule_any _ _ _ _ B cc hll hz HB.out).mono ?_; rintro e w' ⟨gn, rfl, hB', hgn, hat⟩; obtain ⟨⟨v0, e0⟩, f0⟩ := (HH.out.2.2.2.below hB' hwl) (k * 3) (by omega); obtain ⟨⟨v1, e1⟩, f1⟩ := (HH.out.2.2.2.below hB' hwl) (k * 3 + 1) (by omega); obtain ⟨⟨v2, e2⟩, f2⟩ := (HH.out.2.2.2.below hB' hwl) (k * 3 + 2) (by omega); have HB' := Lib.hid hB'; have HAT := Lib.hid hat; clear hB' hat))
      go_roundw
      case rel =>
        have hB' := HB'.out
        have hg' : w.heap.size < w'.heap.size := Nat.lt_of_lt_of_le hwl hB'.size
        have far : ∀ (b j : Nat), w.heap.size < b → ((((w'.setCell ⟨w.heap.size, k * 3, none⟩ (.int .i64 l[k].1)).setCell ⟨w.heap.size, k * 3 + 1, none⟩ (.string l[k].2.1)).setCell ⟨w.heap.size, k * 3 + 2, none⟩ (.slice (some ⟨gn, 0, none⟩) l[k].2.2.length l[k].2.2.length))).cell? ⟨b, j, none⟩ = w'.cell? ⟨b, j, none⟩ := fun b j hb => by
          have p : w.heap.size ≠ b := by omega
          rw [oth p, oth p, oth p]
        refine ⟨k + 1, by go_num, by omega, Lib.hid ⟨(((HH.out.1.trans (hB'.mono HH.out.1.size)).setCell (p := ⟨_, _, none⟩) (Nat.le_refl _) _).setCell (p := ⟨_, _, none⟩) (Nat.le_refl _) _).setCell (p := ⟨_, _, none⟩) (Nat.le_refl _) _, by simpa using hg', fun j hj hj' => ?_, (((HH.out.2.2.2.below hB' hwl).set _ _).set _ _).set _ _⟩⟩
        by_cases e : j = k
        · subst e
          refine ⟨?_, ?_, hz, gn, l[j].2.2.length, ?_, Nat.le_refl _, by omega, HAT.out.carry fun q o e _ i _ => ?_⟩
          · rw [World.cell?_setCell_other (h := by simp), World.cell?_setCell_other (h := by simp)]; exact World.cell?_setCell_same _ _ _ e0
          · rw [World.cell?_setCell_other (h := by simp)]; exact World.cell?_setCell_same (u := v1) _ _ _ (by rw [World.cell?_setCell_other (h := by simp)]; exact e1)
          · exact World.cell?_setCell_same (u := v2) _ _ _ (by rw [World.cell?_setCell_other (h := by simp), World.cell?_setCell_other (h := by simp)]; exact e2)
          · obtain ⟨rfl, _⟩ := addr_inj e
            exact far _ _ (by omega)
        · have hm := HH.out.2.2.1 j hj (by omega)
          refine hm.carry (fun i hi => ?_) fun b i hb hbl => ?_
          · rw [World.cell?_setCell_other (h := by simp <;> omega), World.cell?_setCell_other (h := by simp <;> omega), World.cell?_setCell_other (h := by simp <;> omega)]
            exact hB'.cell (p := ⟨_, _, none⟩) hwl
          · rw [far b i hb]
            exact hB'.cell (p := ⟨b, i, none⟩) hbl
      case measure => simp [intOf]; omega
    · obtain rfl : k = l.length := by omega
      go_wp2
      go_ret
      exact ⟨rfl, HH.out.1, HA.out.1, fun k hk => HH.out.2.2.1 k hk hk⟩
/-- the same rules -/
theorem eqRuleS_same (l : List Ru) (w : World) (A A' : Option Addr) (c c' : Nat) (h : RuIn w A l) (h' : RuIn w A' l) :
    Calls Tryz.prog 42 #[.slice A l.length c, .slice A' l.length c'] w fun e w' => e = .returned (.bool true) ∧ Below w.heap.size w w' := by
  have hlen := h.1
  unfold maxLen at hlen
  have HA := Lib.hid h
  have HA' := Lib.hid h'
  clear h h'
  go_enter Tryz.func42, Tryz.ntmps42
  go_wp2
  go_loopw [5] (fun i wr => ∃ k : Nat, k ≤ l.length ∧ i = .int .i64 k ∧ Hid (Below w.heap.size w wr)) (fun i wr => l.length - (intOf i).toNat)
  case atStart => exact ⟨0, by omega, rfl, Lib.hid (Below.refl _ _)⟩
  case round =>
    obtain ⟨k, hk, rfl, HB⟩ := hrel
    by_cases hlt : k < l.length
    · obtain ⟨g, o, rfl, hg, t0, t1, hz, B, cc, t2, _, hb⟩ := (HA.out.next HB.out).get hlt
      obtain ⟨g', o', rfl, hg', t0', t1', _, B', cc', t2', _, hb'⟩ := (HA'.out.next HB.out).get hlt
      have HN := Lib.hid hb
      have HN' := Lib.hid hb'
      clear hb hb'
      go_wp2
      go_region_with (go_at_call 92; go_loud (refine (eqRule_same _ _ _ _ B B' cc cc' (HN.out.next (by first | exact Below.refl _ _ | exact (Below.refl _ _).drew)) (HN'.out.next (by first | exact Below.refl _ _ | exact (Below.refl _ _).drew))).mono ?_; rintro e w' ⟨rfl, hB'⟩; have HB' := Lib.hid hB'; clear hB'))
      all_goals (
        go_wp2
        go_roundw
        case rel => exact ⟨k + 1, by omega, by go_num, Lib.hid (HB.out.drew.trans (HB'.out.mono HB.out.size))⟩
        case measure => simp [intOf]; omega)
    · obtain rfl : k = l.length := by omega
      go_wp2
      go_ret
      exact ⟨rfl, HB.out⟩
end Go.Proofs.YthdkkpbhijlpaaaGreat
namespace Go.Proofs.YthdkkpbhijlpaaaGreat
open Go.ChangeShapes Go.WideShapes Go.ChangeAt Go.RowKit

theorem beq_flip (a b : List UInt8) : (a == b) = (b == a) := by rw [Bool.eq_iff_iff, beq_iff_eq, beq_iff_eq]; exact eq_comm
theorem implIsVoid_any (s : ByteArray) (w : World) :
    Calls Tryz.prog 194 #[.string s] w fun e w' => e = .returned (.bool (inL voidL s)) ∧ w = w' := by
  go_enter Tryz.func194, Tryz.ntmps194
  go_wp2
  all_goals (go_ret; exact ⟨ret_bool (by first | (simp only [inL, voidL, List.any_cons, List.any_nil, beq_flip _ s.toList, *]; rfl) | (exfalso; simp_all; done)), rfl⟩)
theorem implIsRaw_any (s : ByteArray) (w : World) :
    Calls Tryz.prog 182 #[.string s] w fun e w' => e = .returned (.bool (inL rawL s)) ∧ w = w' := by
  go_enter Tryz.func182, Tryz.ntmps182
  go_wp2
  all_goals (go_ret; exact ⟨ret_bool (by first | (simp only [inL, rawL, List.any_cons, List.any_nil, beq_flip _ s.toList, *]; rfl) | (exfalso; simp_all; done)), rfl⟩)
/-- 'on' and something behind it -/
def handlerB (s : ByteArray) : Bool := decide (s.size ≤ 65536) && decide (2 < s.size) && ((s.extract 0 2).toList == [111, 110])
theorem implIsHandler_any (s : ByteArray) (w : World) (hs : s.size ≤ maxLen) :
    Calls Tryz.prog 200 #[.string s] w fun e w' => e = .returned (.bool (handlerB s)) ∧ w = w' := by
  unfold maxLen at hs
  by_cases h : s.size ≤ 65536
  · by_cases h2 : 2 < s.size
    · go_enter Tryz.func200, Tryz.ntmps200
      go_wp2
      go_ret
      exact ⟨ret_bool (by simp [handlerB, h, h2]), rfl⟩
    · go_enter Tryz.func200, Tryz.ntmps200
      go_wp2
      go_ret
      exact ⟨ret_bool (by simp [handlerB, h, h2]), rfl⟩
  · go_enter Tryz.func200, Tryz.ntmps200
    go_wp2
    go_ret
    exact ⟨ret_bool (by simp [handlerB, h]), rfl⟩
theorem l01Handler_any (s : ByteArray) (w : World) (hs : s.size ≤ 65536) :
    Calls Tryz.prog 151 #[.string s] w fun e w' => e = .returned (.bool (handlerB s)) ∧ w = w' := by
  by_cases h2 : 2 < s.size
  · go_enter Tryz.func151, Tryz.ntmps151
    go_wp2
    go_ret
    exact ⟨ret_bool (by simp [handlerB, hs, h2]), rfl⟩
  · go_enter Tryz.func151, Tryz.ntmps151
    go_wp2
    go_ret
    exact ⟨ret_bool (by simp [handlerB, hs, h2]), rfl⟩
end Go.Proofs.YthdkkpbhijlpaaaGreat
namespace Go.Proofs.YthdkkpbhijlpaaaGreat
open Go.ChangeShapes Go.WideShapes Go.ChangeAt Go.RowKit Go.Maps

theorem keysLaw : Keyed Tryz.prog 9 := string_keyed Tryz.underlying9
theorem zero4 (w : World) : (zeroValue 4).run Tryz.prog w = .ok (.bool false) w := by kernel_rfl
/-- block b of w is a map of texts to true, of at most n entries, just those of ls; of what lay in w0 nothing has turned -/
def SetFrom (w0 w : World) (b n : Nat) (ls : List (List UInt8)) : Prop :=
  (∃ D : DataW Unit, IsMap D ∧ w.ownsMap Tryz.prog 9 (plainElem Tryz.prog 4) b n D ∧
    ∀ l : List UInt8, D.atKey (.string l) (.lit (.bool false)) = .lit (.bool (ls.any fun x => x == l))) ∧
  Below w0.heap.size w0 w ∧ w0.heap.size ≤ b
theorem setFrom_made (w : World) : SetFrom w (w.alloc (.map #[] 0)) w.heap.size 0 [] :=
  ⟨⟨.map [], isMap_empty, World.ownsMap_made _ _ _ _, fun _ => rfl⟩, (Below.refl _ _).alloc (Nat.le_refl _) _, Nat.le_refl _⟩
theorem key_string (s : ByteArray) (h : s.size ≤ maxLen) : keyOf Tryz.prog 9 (.string s) = some (.string s.data.toList) := WideMaps.keyOf_string_mk Tryz.underlying9 h
theorem isKey_string (l : List UInt8) : WideAt.IsKeyLit (.string l) := by simp [WideAt.IsKeyLit]
theorem setFrom_put {w0 w : World} {b n : Nat} {ls : List (List UInt8)} (h : SetFrom w0 w b n ls) (hn : n < maxLen) (l : List UInt8) (hl : l.length ≤ maxLen) :
    ∃ w', (Instr.mapUpdate 182 (.map (some b)) (.string ⟨l.toArray⟩) (.bool true)).run Tryz.prog w = .ok () w' ∧ SetFrom w0 w' b (n + 1) (ls ++ [l]) := by
  obtain ⟨⟨D, hD, hown, hat⟩, hb, hle⟩ := h
  obtain ⟨w', hrun, hown', hg⟩ := hown.update keysLaw Tryz.underlying182 hn (key_string ⟨l.toArray⟩ (by simpa [ByteArray.size] using hl)) (plainElem_bool Tryz.underlying4 true)
  refine ⟨w', hrun, ⟨_, hD.put _ _, hown', fun k => ?_⟩, hb.grown hg hb.size (fun k hk => by cases hk; exact hle), hle⟩
  by_cases e : k = l
  · subst e
    rw [atKey_put_same hD (isKey_string _)]; simp
  · rw [atKey_put_other (by simpa using e), hat k]
    have e2 : (l == k) = false := by rw [beq_eq_false_iff_ne]; exact fun x => e x.symm
    rw [List.any_append]; simp [e2]
theorem wpList_insert_set {ops : Array Oper} {rest : List Oper} {o : Oper} {a : Act} {Q : Exit → Act → World → Prop} (w0 w : World)
    (hg : o.guard = none) (m x v : Operand) (hop : o.op = Op.insert 182 m x v) (b n : Nat) (ls : List (List UInt8)) (l : List UInt8)
    (hm : a.eval m = .map (some b)) (hx : a.eval x = .string ⟨l.toArray⟩) (hv : a.eval v = .bool true) (h : SetFrom w0 w b n ls) (hn : n < maxLen) (hl : l.length ≤ maxLen)
    (hK : ∀ w', SetFrom w0 w' b (n + 1) (ls ++ [l]) → wpList Tryz.prog ops Q rest (a.put o.dst undef) w') :
    wpList Tryz.prog ops Q (o :: rest) a w := by
  refine wpList_plain hg fun K' hK' => ?_
  obtain ⟨w', hrun, r⟩ := setFrom_put h hn l hl
  unfold Oper.wp
  simp [execOp, hop, hm, hx, hv, hrun, Result.andThen]
  exact hK' _ _ (hK w' r)
set_option maxRecDepth 100000 in
theorem wpList_lookup_set {ops : Array Oper} {rest : List Oper} {o : Oper} {a : Act} {Q : Exit → Act → World → Prop} (w0 w : World)
    (hg : o.guard = none) (m x : Operand) (hop : o.op = Op.lookup 182 m x false) (b n : Nat) (ls : List (List UInt8)) (s : ByteArray)
    (hm : a.eval m = .map (some b)) (hx : a.eval x = .string s) (h : SetFrom w0 w b n ls) (hs : s.size ≤ maxLen)
    (hK : wpList Tryz.prog ops Q rest (a.put o.dst (.bool (inL ls s))) w) :
    wpList Tryz.prog ops Q (o :: rest) a w := by
  refine wpList_plain hg fun K' hK' => ?_
  obtain ⟨⟨D, hD, hown, hat⟩, _⟩ := h
  obtain ⟨u, ps, hrun, hu⟩ := hown.lookup keysLaw Tryz.underlying182 (zero4 w) (plainElem_bool Tryz.underlying4 false) (key_string s hs)
  rw [hat, ← ByteArray.toList_eq] at hu
  have hu' : u = .bool (inL ls s) := by
    unfold plainElem at hu
    rw [Tryz.underlying4] at hu
    cases u <;> simp at hu
    rw [hu.1]; rfl
  subst hu'
  unfold Oper.wp
  simp [execOp, hop, hm, hx, hrun, Result.andThen]
  exact hK' _ _ hK
set_option maxHeartbeats 1000000 in
theorem implIsBanned_any (s : ByteArray) (w : World) (hs : s.size ≤ maxLen) :
    Calls Tryz.prog 141 #[.string s] w fun e w' => e = .returned (.bool (inL bannedL s)) ∧ Below w.heap.size w w' := by
  have hmm := @run_makeMap Tryz.prog
  have hset := setFrom_made w
  have HS := Lib.hid hs
  clear hs
  go_enter Tryz.func141, Tryz.ntmps141
  go_wp2_with (first | (refine wpList_insert_set w _ rfl _ _ _ rfl _ _ _ _ rfl rfl rfl (by assumption) (by decide) (by decide) ?_; clear hset; intro w1 hset) | (refine wpList_lookup_set w _ rfl _ _ rfl _ _ _ _ rfl rfl hset HS.out ?_))
  go_ret
  exact ⟨rfl, hset.2.1⟩
set_option maxHeartbeats 1000000 in
theorem implIsLink_any (s : ByteArray) (w : World) (hs : s.size ≤ maxLen) :
    Calls Tryz.prog 201 #[.string s] w fun e w' => e = .returned (.bool (inL linkL s)) ∧ Below w.heap.size w w' := by
  have hmm := @run_makeMap Tryz.prog
  have hset := setFrom_made w
  have HS := Lib.hid hs
  clear hs
  go_enter Tryz.func201, Tryz.ntmps201
  go_wp2_with (first | (refine wpList_insert_set w _ rfl _ _ _ rfl _ _ _ _ rfl rfl rfl (by assumption) (by decide) (by decide) ?_; clear hset; intro w1 hset) | (refine wpList_lookup_set w _ rfl _ _ rfl _ _ _ _ rfl rfl hset HS.out ?_))
  go_ret
  exact ⟨rfl, hset.2.1⟩
end Go.Proofs.YthdkkpbhijlpaaaGreat
