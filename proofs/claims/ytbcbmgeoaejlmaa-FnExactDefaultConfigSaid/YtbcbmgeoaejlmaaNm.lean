
import Derived.Test.YtbcbmgeoaejlmaaTo
import Derived.Test.YtbcbmgeoaejlmaaHas
import Derived.Test.YtbcbmgeoaejlmaaTag
import Derived.Deep.QuietTactic
import Derived.BigQuiet
namespace Go.Proofs.Ytbcbmgeoaejlmaa
open Go.ChangeShapes Go.WideShapes Go.ChangeAt Go.RowKit Go.Deep

theorem addr_inj {a b o o' : Nat} (h : some (⟨a, o, none⟩ : Addr) = some ⟨b, o', none⟩) : a = b ∧ o = o' := by cases h; exact ⟨rfl, rfl⟩
/-- texts that stand somewhere -/
def NmIn (w : World) (A : Option Addr) (l : List ByteArray) : Prop :=
  l.length ≤ maxLen ∧ (l = [] ∨ ∃ g o, A = some ⟨g, o, none⟩ ∧ ∀ k (h : k < l.length), w.cell? ⟨g, o + k, none⟩ = some (.string l[k]) ∧ l[k].size ≤ maxLen)
theorem NmIn.carry {w w' : World} {A : Option Addr} {l : List ByteArray} (h : NmIn w A l) (hs : ∀ g o, A = some ⟨g, o, none⟩ → g < w.heap.size → ∀ j, j < l.length → w'.cell? ⟨g, o + j, none⟩ = w.cell? ⟨g, o + j, none⟩) : NmIn w' A l := by
  refine ⟨h.1, ?_⟩
  rcases h.2 with h | ⟨g, o, e, h⟩
  · exact Or.inl h
  · exact Or.inr ⟨g, o, e, fun k hk => ⟨(hs g o e (World.block_lt_of_cell? w _ (h k hk).1) k hk).trans (h k hk).1, (h k hk).2⟩⟩
theorem NmIn.next {w w' : World} {A : Option Addr} {l : List ByteArray} (h : NmIn w A l) (hB : Below w.heap.size w w') : NmIn w' A l :=
  h.carry fun g o _ hg j _ => hB.cell (p := ⟨g, o + j, none⟩) hg
theorem NmIn.drew {w : World} {A : Option Addr} {l : List ByteArray} (h : NmIn w A l) : NmIn w.drew A l := h.next (Below.refl _ _).drew
/-- .. the k-th -/
theorem NmIn.get {w : World} {A : Option Addr} {l : List ByteArray} (h : NmIn w A l) {k : Nat} (hk : k < l.length) : ∃ g o, A = some ⟨g, o, none⟩ ∧ g < w.heap.size ∧ w.cell? ⟨g, o + k, none⟩ = some (.string l[k]) ∧ l[k].size ≤ maxLen := by
  rcases h.2 with h | ⟨g, o, e, h⟩
  · subst h; exact absurd hk (Nat.not_lt_zero _)
  · exact ⟨g, o, e, World.block_lt_of_cell? w _ (h k hk).1, h k hk⟩
theorem NmIn.row {w : World} {A : Option Addr} {l : List ByteArray} (h : NmIn w A l) (h0 : 0 < l.length) : ∃ g o, A = some ⟨g, o, none⟩ ∧ g < w.heap.size ∧ ∀ k (h : k < l.length), w.cell? ⟨g, o + k, none⟩ = some (.string l[k]) ∧ l[k].size ≤ maxLen := by
  rcases h.2 with h | ⟨g, o, e, h⟩
  · subst h; exact absurd h0 (Nat.not_lt_zero _)
  · exact ⟨g, o, e, World.block_lt_of_cell? w _ (h 0 h0).1, h⟩
theorem NmIn.take {w : World} {A : Option Addr} {l : List ByteArray} (h : NmIn w A l) (k : Nat) : NmIn w A (l.take k) := by
  refine ⟨by have := h.1; simp; omega, ?_⟩
  rcases h.2 with h | ⟨g, o, e, h⟩
  · subst h; exact Or.inl (by simp)
  · exact Or.inr ⟨g, o, e, fun j hj => by
      have hj' : j < l.length := by simp at hj; omega
      rw [List.getElem_take]; exact h j hj'⟩
theorem NmIn.nil (w : World) (A : Option Addr) : NmIn w A [] := ⟨Nat.zero_le _, Or.inl rfl⟩

def nmSize : List ByteArray → Nat
  | [] => 0
  | x :: r => x.size + nmSize r
theorem nmSize_take {l : List ByteArray} {k : Nat} (hk : k < l.length) : nmSize (l.take (k + 1)) = nmSize (l.take k) + l[k].size := by
  induction l generalizing k with
  | nil => exact absurd hk (Nat.not_lt_zero _)
  | cons x r ih =>
    cases k with
    | zero => simp [nmSize]
    | succ k => simp only [List.take_succ_cons, nmSize, List.getElem_cons_succ]; rw [ih (by simpa using hk)]; omega
theorem nmSize_le (l : List ByteArray) (k : Nat) : nmSize (l.take k) ≤ nmSize l := by
  induction l generalizing k with
  | nil => simp [nmSize]
  | cons x r ih =>
    cases k with
    | zero => simp [nmSize]
    | succ k => simp only [List.take_succ_cons, nmSize]; have := ih k; omega

theorem szStringS_any (l : List ByteArray) (m : Nat) (w : World) (A : Option Addr) (c : Nat) (hm : m ≤ 1048576) (h : NmIn w A l) :
    Calls Try.prog 61 #[.slice A l.length c, .int .i64 (m : Int)] w fun e w' => e = .returned (.int .i64 (left m (l.length + nmSize l))) ∧ w = w' := by
  have hlen := h.1
  unfold maxLen at hlen
  by_cases c1 : l.length ≤ m
  · have HA := Lib.hid h
    clear h
    go_enter Try.func61, Try.ntmps61
    go_wp2
    go_loop [1, 5] (fun x i => ∃ k q : Nat, x = .int .i64 (q : Int) ∧ i = .int .i64 (k : Int) ∧ k ≤ l.length ∧ q + (l.length + nmSize (l.take k)) = m) (fun x i => l.length - (intOf i).toNat)
    case atStart => exact ⟨0, m - l.length, by go_num, rfl, by omega, by simp [nmSize]; omega⟩
    case round =>
      obtain ⟨k, q, rfl, rfl, hk, hq⟩ := hrel
      by_cases hlt : k < l.length
      · obtain ⟨g, o, rfl, hg, t1, t2⟩ := HA.out.get hlt
        have hs := nmSize_take hlt
        have hle := nmSize_le l (k + 1)
        have hle2 : nmSize (l.take (k + 1)) ≤ nmSize l := hle
        unfold maxLen at t2
        by_cases c2 : l[k].size ≤ q
        · go_wp2
          go_round
          case rel => exact ⟨k + 1, q - l[k].size, by go_num, by go_num, by omega, by rw [hs]; omega⟩
          case measure => simp [intOf]; omega
        · have HL := Lib.hid (left_gt (l := m) (n := l.length + nmSize l) (by omega))
          go_wp2
          go_ret
          exact ⟨by rw [HL.out]; rfl, rfl⟩
      · obtain rfl : k = l.length := by omega
        rw [List.take_length] at hq
        have HL := Lib.hid (left_le (l := m) (n := l.length + nmSize l) (by omega))
        go_wp2
        go_ret
        exact ⟨by rw [HL.out]; go_num, rfl⟩
  · have HL := Lib.hid (left_gt (l := m) (n := l.length + nmSize l) (by omega))
    clear h
    go_enter Try.func61, Try.ntmps61
    go_wp2
    go_ret
    exact ⟨by rw [HL.out]; rfl, rfl⟩

theorem make_texts (n : Nat) (hn : n ≤ 1048576) (w : World) : (Instr.makeSlice 23 (.int .i64 (n : Int)) (.int .i64 (n : Int))).run Try.prog w = .ok (.slice (some ⟨w.heap.size, 0, none⟩) n n) (w.alloc (.cells (madeCells #[.string ⟨#[]⟩] n) 9)) := by
  have hinfo : (Try.prog.info? 9).map (fun i => (i.zero, i.size, i.bytes)) = some (some (.string ⟨#[]⟩), 1, 16) := by kernel_rfl
  obtain ⟨i, hi, hzz⟩ := Option.map_eq_some_iff.1 hinfo
  simp only [Prod.mk.injEq] at hzz
  obtain ⟨hz, hs, hb⟩ := hzz
  have := run_make (P := Try.prog) w 23 9 i _ Try.underlying23 hi hz .i64 .i64 n n (by omega) (Int.le_refl _) (by rw [hb]; omega) (by omega)
  simp only [Int.toNat_natCast, hs, Nat.mul_one] at this
  exact this

theorem toStringS_any (l : List ByteArray) (w : World) (A : Option Addr) (c : Nat) (hl : l.length ≤ 1048576) (h : NmIn w A l) :
    Calls Try.prog 66 #[.slice A l.length c] w fun e w' => e = .returned (.slice (some ⟨w.heap.size, 0, none⟩) l.length l.length) ∧ Below w.heap.size w w' ∧ NmIn w' (some ⟨w.heap.size, 0, none⟩) l := by
  have hmk := make_texts l.length hl w
  have HA := Lib.hid h
  clear h
  go_enter Try.func66, Try.ntmps66
  go_wp2
  go_loopw [4] (fun i wr => ∃ k : Nat, i = .int .i64 (k : Int) ∧ k ≤ l.length ∧ Hid (Below w.heap.size w wr ∧ w.heap.size < wr.heap.size ∧ (∀ j (h : j < l.length), j < k → wr.cell? ⟨w.heap.size, j, none⟩ = some (.string l[j])) ∧ Room wr w.heap.size l.length)) (fun i wr => l.length - (intOf i).toNat)
  case atStart => exact ⟨0, rfl, Nat.zero_le _, Lib.hid ⟨(Below.refl _ _).alloc (Nat.le_refl _) _, by simp, fun j _ h => absurd h (Nat.not_lt_zero _), room_made _ _ _ _⟩⟩
  case round =>
    obtain ⟨k, rfl, hk, HH⟩ := hrel
    by_cases hlt : k < l.length
    · obtain ⟨g, o, rfl, hg, t1, t2⟩ := HA.out.get hlt
      have s1 := (HH.out.1.cell (p := ⟨g, o + k, none⟩) hg).trans t1
      obtain ⟨⟨v0, e0⟩, f0⟩ := HH.out.2.2.2 k (by omega)
      clear t1
      go_wp2
      go_roundw
      case rel =>
        refine ⟨k + 1, by go_num, by omega, Lib.hid ⟨HH.out.1.setCell (p := ⟨_, _, none⟩) (Nat.le_refl _) _, by simpa using HH.out.2.1, fun j hj hj' => ?_, HH.out.2.2.2.set _ _⟩⟩
        by_cases e : j = k
        · subst e; exact World.cell?_setCell_same _ _ _ e0
        · rw [World.cell?_setCell_other (h := by simp <;> omega)]; exact HH.out.2.2.1 j hj (by omega)
      case measure => simp [intOf]; omega
    · obtain rfl : k = l.length := by omega
      go_wp2
      go_ret
      exact ⟨rfl, HH.out.1, HA.out.1, Or.inr ⟨_, 0, rfl, fun k hk => ⟨by rw [Nat.zero_add]; exact HH.out.2.2.1 k hk hk, by obtain ⟨_, _, _, _, _, h⟩ := HA.out.get hk; exact h⟩⟩⟩

/-- the same texts -/
theorem eqNm_same (l : List ByteArray) (w : World) (A A' : Option Addr) (c c' : Nat) (h : NmIn w A l) (h' : NmIn w A' l) :
    Calls Try.prog 47 #[.slice A l.length c, .slice A' l.length c'] w fun e w' => e = .returned (.bool true) ∧ Below w.heap.size w w' := by
  have hlen := h.1
  unfold maxLen at hlen
  have HA := Lib.hid h
  have HA' := Lib.hid h'
  clear h h'
  go_enter Try.func47, Try.ntmps47
  go_wp2
  go_loopw [5] (fun i wr => ∃ k : Nat, k ≤ l.length ∧ i = .int .i64 k ∧ Hid (Below w.heap.size w wr)) (fun i wr => l.length - (intOf i).toNat)
  case atStart => exact ⟨0, by omega, rfl, Lib.hid (Below.refl _ _)⟩
  case round =>
    obtain ⟨k, hk, rfl, HB⟩ := hrel
    by_cases hlt : k < l.length
    · obtain ⟨g, o, rfl, hg, t1, _⟩ := HA.out.get hlt
      obtain ⟨g', o', rfl, hg', t1', _⟩ := HA'.out.get hlt
      have s1 := (HB.out.cell (p := ⟨g, o + k, none⟩) hg).trans t1
      have s1' := (HB.out.cell (p := ⟨g', o' + k, none⟩) hg').trans t1'
      clear t1 t1'
      go_wp2
      go_quiet (fail)
      go_wp2
      go_roundw
      case rel => exact ⟨k + 1, by omega, by go_num, Lib.hid (below_drewN HB.out _)⟩
      case measure => simp [intOf]; omega
    · obtain rfl : k = l.length := by omega
      go_wp2
      go_ret
      exact ⟨rfl, HB.out⟩
end Go.Proofs.Ytbcbmgeoaejlmaa
