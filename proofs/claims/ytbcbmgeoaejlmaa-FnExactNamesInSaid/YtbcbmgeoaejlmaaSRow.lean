
import Derived.Test.YtbcbmgeoaejlmaaMark4
import Derived.Test.YtbcbmgeoaejlmaaHas
import Derived.Deep.QuietTactic
import Derived.BigQuiet
namespace Go.Proofs.Ytbcbmgeoaejlmaa
open Go.ChangeShapes Go.WideShapes Go.ChangeAt Go.RowKit Go.Deep

/-- a row of texts that may be written -/
def StrRow (w : World) (A : Option Addr) (l : List ByteArray) (bs : List Nat) : Prop :=
  (l = [] ∧ bs = []) ∨ ∃ g, A = some ⟨g, 0, none⟩ ∧ bs = [g] ∧ ∀ k (h : k < l.length), CellW w g k (.string l[k])
theorem StrRow.same {w w' : World} {A : Option Addr} {l : List ByteArray} {bs : List Nat} (h : StrRow w A l bs) (hb : ∀ k ∈ bs, w'.heap[k]? = w.heap[k]?) : StrRow w' A l bs := by
  rcases h with h | ⟨g, h1, h2, h3⟩
  · exact Or.inl h
  · subst h2; exact Or.inr ⟨g, h1, rfl, fun k hk => (h3 k hk).same (hb g (by simp))⟩
/-- a text is among some -/
def hasN (l : List ByteArray) (s : ByteArray) : Bool := l.any fun x => x.toList == s.toList
theorem hasN_take {l : List ByteArray} {s : ByteArray} {k : Nat} (hk : k < l.length) : hasN (l.take (k + 1)) s = (hasN (l.take k) s || (l[k].toList == s.toList)) := by
  unfold hasN; rw [List.take_succ_eq_append_getElem hk, List.any_append]; simp only [List.any_cons, List.any_nil, Bool.or_false]
theorem hasN_hit {l : List ByteArray} {s : ByteArray} {k : Nat} (hk : k < l.length) (h : (l[k].toList == s.toList) = true) : true = hasN l s := by
  symm; rw [hasN, List.any_eq_true]; exact ⟨_, List.getElem_mem hk, h⟩

theorem l01HasN_any (l : List ByteArray) (s : ByteArray) (w : World) (A : Option Addr) (c : Nat) (bs : List Nat) (hl : l.length ≤ 1073741824) (hr : StrRow w A l bs) :
    Calls Try.prog 125 #[.slice A l.length c, .string s] w fun e w' => e = .returned (.bool (hasN l s)) ∧ w = w' := by
  rcases hr with ⟨rfl, rfl⟩ | ⟨g, rfl, rfl, hc⟩
  · simp only [List.length_nil]
    go_enter Try.func125, Try.ntmps125
    go_wp2
    refine wp_loop_rounds 1 ?_
    rw [rounds_succ]
    go_wp2
    go_ret
    exact ⟨rfl, rfl⟩
  · have HC := Lib.hid hc
    clear hc
    go_enter Try.func125, Try.ntmps125
    go_wp2
    go_loop [5] (fun i => ∃ k : Nat, k ≤ l.length ∧ i = .int .i64 k ∧ hasN (l.take k) s = false) (fun i => l.length - (intOf i).toNat)
    case atStart => exact ⟨0, by omega, rfl, by simp [hasN]⟩
    case round =>
      obtain ⟨k, hk, rfl, hall⟩ := hrel
      have HA := Lib.hid hall
      clear hall
      by_cases hlt : k < l.length
      · have hck := (HC.out k hlt).1
        by_cases hf : (l[k].toList == s.toList) = true
        · have HF := Lib.hid hf
          go_wp2
          go_ret
          exact ⟨ret_bool (hasN_hit hlt HF.out), rfl⟩
        · have HF := Lib.hid hf
          have hf' : (l[k].toList == s.toList) = false := by simpa using hf
          clear hf
          go_wp2
          go_round
          case rel => exact ⟨k + 1, by omega, by go_num, by rw [hasN_take hlt, HA.out]; simpa using HF.out⟩
          case measure => simp [intOf]; omega
      · obtain rfl : k = l.length := by omega
        go_wp2
        go_ret
        exact ⟨ret_bool (by have := HA.out; rw [List.take_length] at this; exact this.symm), rfl⟩

theorem indexN_any (l : List ByteArray) (s : ByteArray) (w : World) (A : Option Addr) (c : Nat) (bs : List Nat) (hl : l.length ≤ 1073741824) (hr : StrRow w A l bs) :
    Calls Try.prog 160 #[.slice A l.length c, .string s] w fun e w' => (∃ i : Int, e = .returned (.int .i64 i) ∧ decide (i ≥ 0) = hasN l s) ∧ w = w' := by
  rcases hr with ⟨rfl, rfl⟩ | ⟨g, rfl, rfl, hc⟩
  · simp only [List.length_nil]
    go_enter Try.func160, Try.ntmps160
    go_wp2
    refine wp_loop_rounds 1 ?_
    rw [rounds_succ]
    go_wp2
    go_ret
    exact ⟨⟨-1, rfl, rfl⟩, rfl⟩
  · have HC := Lib.hid hc
    clear hc
    go_enter Try.func160, Try.ntmps160
    go_wp2
    go_loop [8] (fun i => ∃ k : Nat, k ≤ l.length ∧ i = .int .i64 k ∧ hasN (l.take k) s = false) (fun i => l.length - (intOf i).toNat)
    case atStart => exact ⟨0, by omega, rfl, by simp [hasN]⟩
    case round =>
      obtain ⟨k, hk, rfl, hall⟩ := hrel
      have HA := Lib.hid hall
      clear hall
      by_cases hlt : k < l.length
      · have hck := (HC.out k hlt).1
        by_cases hf : (l[k].toList == s.toList) = true
        · have HF := Lib.hid hf
          have hf' : (s.toList == l[k].toList) = true := by rw [beq_iff_eq] at hf ⊢; exact hf.symm
          clear hf
          go_wp2
          go_ret
          exact ⟨⟨k, rfl, by rw [← hasN_hit hlt HF.out]; simp⟩, rfl⟩
        · have HF := Lib.hid hf
          have hf' : (s.toList == l[k].toList) = false := by rw [beq_eq_false_iff_ne]; intro e; exact hf (by rw [e]; simp)
          clear hf
          go_wp2
          go_round
          case rel => exact ⟨k + 1, by omega, by go_num, by rw [hasN_take hlt, HA.out]; simpa using HF.out⟩
          case measure => simp [intOf]; omega
      · obtain rfl : k = l.length := by omega
        go_wp2
        go_ret
        exact ⟨⟨-1, rfl, by have := HA.out; rw [List.take_length] at this; rw [this]; rfl⟩, rfl⟩
theorem containsN_any (l : List ByteArray) (s : ByteArray) (w : World) (A : Option Addr) (c : Nat) (bs : List Nat) (hl : l.length ≤ 1073741824) (hr : StrRow w A l bs) :
    Calls Try.prog 104 #[.slice A l.length c, .string s] w fun e w' => e = .returned (.bool (hasN l s)) ∧ w = w' := by
  go_enter Try.func104, Try.ntmps104
  go_wp2_with (go_at_call 160; refine (indexN_any l s _ A c bs hl hr).mono ?_; rintro e w1 ⟨⟨i, rfl, hi⟩, rfl⟩)
  go_ret
  exact ⟨by rw [← hi]; rfl, rfl⟩

/-- the same texts -/
theorem eqStringS_any (l : List ByteArray) (w : World) (A B : Option Addr) (c c' : Nat) (bs bs' : List Nat) (hl : l.length ≤ 1073741824) (hr : StrRow w A l bs) (hr' : StrRow w B l bs') :
    Calls Try.prog 47 #[.slice A l.length c, .slice B l.length c'] w fun e w' => e = .returned (.bool true) ∧ Below w.heap.size w w' := by
  rcases hr with ⟨rfl, rfl⟩ | ⟨g, rfl, rfl, hc⟩
  · simp only [List.length_nil]
    go_enter Try.func47, Try.ntmps47
    go_wp2
    refine wp_loop_rounds 1 ?_
    rw [rounds_succ]
    go_wp2
    go_ret
    exact ⟨rfl, Below.refl _ _⟩
  · rcases hr' with ⟨rfl, rfl⟩ | ⟨g', rfl, rfl, hc'⟩
    · simp only [List.length_nil]
      clear hc
      go_enter Try.func47, Try.ntmps47
      go_wp2
      refine wp_loop_rounds 1 ?_
      rw [rounds_succ]
      go_wp2
      go_ret
      exact ⟨rfl, Below.refl _ _⟩
    · have HC := Lib.hid hc
      have HC' := Lib.hid hc'
      clear hc hc'
      go_enter Try.func47, Try.ntmps47
      go_wp2
      go_loopw [5] (fun i wr => ∃ k : Nat, k ≤ l.length ∧ i = .int .i64 k ∧ Hid (Below w.heap.size w wr)) (fun i wr => l.length - (intOf i).toNat)
      case atStart => exact ⟨0, by omega, rfl, Lib.hid (Below.refl _ _)⟩
      case round =>
        obtain ⟨k, hk, rfl, HB⟩ := hrel
        by_cases hlt : k < l.length
        · have hck := ((HC.out k hlt).same (HB.out.block g (HC.out k hlt).lt)).1
          have hck' := ((HC'.out k hlt).same (HB.out.block g' (HC'.out k hlt).lt)).1
          go_wp2
          go_quiet (fail)
          go_wp2
          go_roundw
          case rel => exact ⟨k + 1, by omega, by go_num, Lib.hid (below_drewN HB.out _)⟩
          case measure => simp [intOf]; omega
        · obtain rfl : k = l.length := by omega
          go_wp2
          go_ret
          exact ⟨rfl, HB.out⟩

def markL (l : List ByteArray) (m : Nat) : List ByteArray := (List.range l.length).map fun k => markT (m + k)
theorem markL_len (l : List ByteArray) (m : Nat) : (markL l m).length = l.length := by simp [markL]
theorem markL_get (l : List ByteArray) (m k : Nat) (h : k < (markL l m).length) : (markL l m)[k] = markT (m + k) := by simp [markL]
theorem markStringS_any (l : List ByteArray) (m : Nat) (w : World) (A : Option Addr) (c : Nat) (bs : List Nat) (h1 : 1 ≤ m) (h2 : m + l.length ≤ 1073741824) (hr : StrRow w A l bs) :
    Calls Try.prog 48 #[.slice A l.length c, .int .i64 (m : Int)] w fun e w' => e = .returned (.int .i64 ((m + l.length : Nat) : Int)) ∧ StrRow w' A (markL l m) bs ∧ OnlyAt w w' bs := by
  rcases hr with ⟨rfl, rfl⟩ | ⟨g, rfl, rfl, hc⟩
  · simp only [List.length_nil]
    go_enter Try.func48, Try.ntmps48
    go_wp2
    refine wp_loop_rounds 1 ?_
    rw [rounds_succ]
    go_wp2
    go_ret
    exact ⟨rfl, Or.inl ⟨rfl, rfl⟩, But.refl _ _⟩
  · have HC := Lib.hid hc
    clear hc
    go_enter Try.func48, Try.ntmps48
    go_wp2
    go_loopw [1, 5] (fun x i wr => ∃ k : Nat, k ≤ l.length ∧ x = .int .i64 ((m + k : Nat) : Int) ∧ i = .int .i64 k ∧ Hid ((∀ j, j < k → CellW wr g j (.string (markT (m + j)))) ∧ (∀ j (h : j < l.length), k ≤ j → CellW wr g j (.string l[j])) ∧ OnlyAt w wr [g])) (fun x i wr => l.length - (intOf i).toNat)
    case atStart => exact ⟨0, by omega, rfl, rfl, Lib.hid ⟨fun j hj => by omega, fun j h _ => HC.out j h, But.refl _ _⟩⟩
    case round =>
      obtain ⟨k, hk, rfl, rfl, HH⟩ := hrel
      by_cases hlt : k < l.length
      · have hg : g < wr.heap.size := (HH.out.2.1 k hlt (Nat.le_refl _)).lt
        go_wp2_with fail
        refine (markText_any (m + k) (by omega) (by omega) _).mono ?_
        rintro e w1 ⟨rfl, hB⟩
        have B1 := Lib.hid hB
        have hc := (HH.out.2.1 k hlt (Nat.le_refl _)).same (hB.block g hg)
        have ck := hc.1
        have fk := hc.2
        clear hB hc
        go_wp2
        go_roundw
        case rel =>
          refine ⟨k + 1, by omega, by go_num, by go_num, Lib.hid ⟨fun j hj => ?_, fun j h hj => ?_, ?_⟩⟩
          · by_cases e : j = k
            · subst e
              exact ((HH.out.2.1 j hlt (Nat.le_refl _)).same (B1.out.block g hg)).put _
            · exact ((HH.out.1 j (by omega)).same (B1.out.block g hg)).set (Or.inr (Ne.symm e)) _
          · exact ((HH.out.2.1 j h (by omega)).same (B1.out.block g hg)).set (Or.inr (by omega)) _
          · exact But.setCell (OnlyAt.then HH.out.2.2 (OnlyAt.low B1.out _)) (p := ⟨g, k, none⟩) (Or.inl (by simp)) _
        case measure => simp [intOf]; omega
      · obtain rfl : k = l.length := by omega
        go_wp2
        go_ret
        exact ⟨rfl, Or.inr ⟨g, rfl, rfl, fun j hj => by rw [markL_get]; exact HH.out.1 j (by rw [markL_len] at hj; exact hj)⟩, HH.out.2.2⟩
end Go.Proofs.Ytbcbmgeoaejlmaa
