
import Derived.Test.YtbcbmgeoaejlmaaMark4
import Derived.Maps.AppendAt
import Derived.Deep.QuietTactic
import Derived.BigQuiet
namespace Go.Proofs.Ytbcbmgeoaejlmaa
open Go.ChangeShapes Go.WideShapes Go.ChangeAt Go.RowKit Go.Deep

/-- a row of numbers that may be written -/
def IntRow (w : World) (A : Option Addr) (l : List Int) (bs : List Nat) : Prop :=
  (l = [] ∧ bs = []) ∨ ∃ g, A = some ⟨g, 0, none⟩ ∧ bs = [g] ∧ ∀ k (h : k < l.length), CellW w g k (.int .i64 l[k])
theorem IntRow.same {w w' : World} {A : Option Addr} {l : List Int} {bs : List Nat} (h : IntRow w A l bs) (hb : ∀ k ∈ bs, w'.heap[k]? = w.heap[k]?) : IntRow w' A l bs := by
  rcases h with h | ⟨g, h1, h2, h3⟩
  · exact Or.inl h
  · subst h2; exact Or.inr ⟨g, h1, rfl, fun k hk => (h3 k hk).same (hb g (by simp))⟩
/-- the same numbers -/
theorem eqIntRow_any (l : List Int) (w : World) (A B : Option Addr) (c c' : Nat) (bs bs' : List Nat) (hl : l.length ≤ 1073741824) (hr : IntRow w A l bs) (hr' : IntRow w B l bs') :
    Calls Try.prog 35 #[.slice A l.length c, .slice B l.length c'] w fun e w' => e = .returned (.bool true) ∧ Below w.heap.size w w' := by
  rcases hr with ⟨rfl, rfl⟩ | ⟨g, rfl, rfl, hc⟩
  · simp only [List.length_nil]
    go_enter Try.func35, Try.ntmps35
    go_wp2
    refine wp_loop_rounds 1 ?_
    rw [rounds_succ]
    go_wp2
    go_ret
    exact ⟨rfl, Below.refl _ _⟩
  · rcases hr' with ⟨rfl, rfl⟩ | ⟨g', rfl, rfl, hc'⟩
    · simp only [List.length_nil]
      clear hc
      go_enter Try.func35, Try.ntmps35
      go_wp2
      refine wp_loop_rounds 1 ?_
      rw [rounds_succ]
      go_wp2
      go_ret
      exact ⟨rfl, Below.refl _ _⟩
    · have HC := Lib.hid hc
      have HC' := Lib.hid hc'
      clear hc hc'
      go_enter Try.func35, Try.ntmps35
      go_wp2
      go_loopw [5] (fun i wr => ∃ k : Nat, k ≤ l.length ∧ i = .int .i64 k ∧ Hid (Below w.heap.size w wr)) (fun i wr => l.length - (intOf i).toNat)
      case atStart => exact ⟨0, by omega, rfl, Lib.hid (Below.refl _ _)⟩
      case round =>
        obtain ⟨k, hk, rfl, HB⟩ := hrel
        by_cases hlt : k < l.length
        · have hck := ((HC.out k hlt).same (HB.out.block g (HC.out k hlt).lt)).1
          have hck' := ((HC'.out k hlt).same (HB.out.block g' (HC'.out k hlt).lt)).1
          go_wp2
          go_quiet (fail)
          go_wp2
          go_roundw
          case rel => exact ⟨k + 1, by omega, by go_num, Lib.hid (below_drewN HB.out _)⟩
          case measure => simp [intOf]; omega
        · obtain rfl : k = l.length := by omega
          go_wp2
          go_ret
          exact ⟨rfl, HB.out⟩

def markI (l : List Int) (m : Nat) : List Int := (List.range l.length).map fun k => ((m + k : Nat) : Int)
theorem markI_len (l : List Int) (m : Nat) : (markI l m).length = l.length := by simp [markI]
theorem markI_get (l : List Int) (m k : Nat) (h : k < (markI l m).length) : (markI l m)[k] = ((m + k : Nat) : Int) := by simp [markI]
theorem markIntS_any (l : List Int) (m : Nat) (w : World) (A : Option Addr) (c : Nat) (bs : List Nat) (h1 : 1 ≤ m) (h2 : m + l.length ≤ 1073741824) (hr : IntRow w A l bs) :
    Calls Try.prog 37 #[.slice A l.length c, .int .i64 (m : Int)] w fun e w' => e = .returned (.int .i64 ((m + l.length : Nat) : Int)) ∧ IntRow w' A (markI l m) bs ∧ OnlyAt w w' bs := by
  rcases hr with ⟨rfl, rfl⟩ | ⟨g, rfl, rfl, hc⟩
  · simp only [List.length_nil]
    go_enter Try.func37, Try.ntmps37
    go_wp2
    refine wp_loop_rounds 1 ?_
    rw [rounds_succ]
    go_wp2
    go_ret
    exact ⟨rfl, Or.inl ⟨rfl, rfl⟩, But.refl _ _⟩
  · have HC := Lib.hid hc
    clear hc
    go_enter Try.func37, Try.ntmps37
    go_wp2
    go_loopw [1, 5] (fun x i wr => ∃ k : Nat, k ≤ l.length ∧ x = .int .i64 ((m + k : Nat) : Int) ∧ i = .int .i64 k ∧ Hid ((∀ j, j < k → CellW wr g j (.int .i64 ((m + j : Nat) : Int))) ∧ (∀ j (h : j < l.length), k ≤ j → CellW wr g j (.int .i64 l[j])) ∧ OnlyAt w wr [g])) (fun x i wr => l.length - (intOf i).toNat)
    case atStart => exact ⟨0, by omega, rfl, rfl, Lib.hid ⟨fun j hj => by omega, fun j h _ => HC.out j h, But.refl _ _⟩⟩
    case round =>
      obtain ⟨k, hk, rfl, rfl, HH⟩ := hrel
      by_cases hlt : k < l.length
      · have hg : g < wr.heap.size := (HH.out.2.1 k hlt (Nat.le_refl _)).lt
        have hc := HH.out.2.1 k hlt (Nat.le_refl _)
        have ck := hc.1
        have fk := hc.2
        clear hc
        go_wp2
        go_roundw
        case rel =>
          refine ⟨k + 1, by omega, by go_num, by go_num, Lib.hid ⟨fun j hj => ?_, fun j h hj => ?_, ?_⟩⟩
          · by_cases e : j = k
            · subst e
              exact (HH.out.2.1 j hlt (Nat.le_refl _)).put _
            · exact (HH.out.1 j (by omega)).set (Or.inr (Ne.symm e)) _
          · exact (HH.out.2.1 j h (by omega)).set (Or.inr (by omega)) _
          · exact But.setCell HH.out.2.2 (p := ⟨g, k, none⟩) (Or.inl (by simp)) _
        case measure => simp [intOf]; omega
      · obtain rfl : k = l.length := by omega
        go_wp2
        go_ret
        exact ⟨rfl, Or.inr ⟨g, rfl, rfl, fun j hj => by rw [markI_get]; exact HH.out.1 j (by rw [markI_len] at hj; exact hj)⟩, HH.out.2.2⟩

theorem heldIntS_any (l : List Int) (m : Nat) (w : World) (A : Option Addr) (c : Nat) (bs : List Nat) (h1 : 1 ≤ m) (h2 : m + l.length ≤ 1073741824) (hr : IntRow w A (markI l m) bs) :
    Calls Try.prog 38 #[.slice A l.length c, .int .i64 (m : Int)] w fun e w' => e = .returned (.int .i64 ((m + l.length : Nat) : Int)) ∧ Below w.heap.size w w' := by
  rcases hr with ⟨h0, rfl⟩ | ⟨g, rfl, rfl, hc⟩
  · have h0 : l = [] := by have := markI_len l m; rw [h0] at this; exact List.length_eq_zero_iff.1 this.symm
    subst h0
    simp only [List.length_nil]
    go_enter Try.func38, Try.ntmps38
    go_wp2
    refine wp_loop_rounds 1 ?_
    rw [rounds_succ]
    go_wp2
    go_ret
    exact ⟨rfl, Below.refl _ _⟩
  · have HC : Hid (∀ k, k < l.length → CellW w g k (.int .i64 ((m + k : Nat) : Int))) := Lib.hid fun k hk => by have := hc k (by rw [markI_len]; exact hk); rw [markI_get] at this; exact this
    clear hc
    go_enter Try.func38, Try.ntmps38
    go_wp2
    go_loopw [1, 5] (fun x i wr => ∃ k : Nat, k ≤ l.length ∧ x = .int .i64 ((m + k : Nat) : Int) ∧ i = .int .i64 k ∧ Hid (Below w.heap.size w wr)) (fun x i wr => l.length - (intOf i).toNat)
    case atStart => exact ⟨0, by omega, rfl, rfl, Lib.hid (Below.refl _ _)⟩
    case round =>
      obtain ⟨k, hk, rfl, rfl, HB⟩ := hrel
      by_cases hlt : k < l.length
      · have ck := ((HC.out k hlt).same (HB.out.block g (HC.out k hlt).lt)).1
        go_wp2
        go_roundw
        case rel => exact ⟨k + 1, by omega, by go_num, by go_num, HB⟩
        case measure => simp [intOf]; omega
      · obtain rfl : k = l.length := by omega
        go_wp2
        go_ret
        exact ⟨rfl, HB.out⟩

theorem infoInt : (Try.prog.info? 3).map (fun i => (i.zero, i.size, i.bytes)) = some (some (.int .i64 0), 1, 8) := by kernel_rfl
/-- a row of numbers, from base on, that may grow -/
def IRow (w : World) (base : Nat) (v : Value) (l : List Int) : Prop := w.ownsRow base 3 1 v l.length (l.map (Value.int .i64))
theorem IRow.form {w : World} {base : Nat} {v : Value} {l : List Int} (h : IRow w base v l) : ∃ A c bs, v = .slice A l.length c ∧ IntRow w A l bs ∧ ∀ k ∈ bs, base ≤ k ∧ k < w.heap.size := by
  have hc := fun g hg => World.ownsRow.cells h (g := g) hg
  obtain ⟨hl, h⟩ := h
  rcases h with ⟨rfl, h0⟩ | ⟨g, cap, cur, rfl, hb, hg, hn, hm, hs, ht⟩
  · exact ⟨none, 0, [], by rw [h0], Or.inl ⟨List.length_eq_zero_iff.1 h0, rfl⟩, by simp⟩
  · refine ⟨_, cap, [g], rfl, Or.inr ⟨g, rfl, rfl, fun k hk => ⟨?_, ?_⟩⟩, fun k hk => ?_⟩
    · have := hc g rfl k (.int .i64 l[k]) (by simp [hk])
      rw [Addr.add_lit, Nat.zero_add] at this
      exact this
    · simp [World.frozen?, hg]
    · rw [List.mem_singleton.1 hk]
      exact ⟨hb, (Array.getElem?_eq_some_iff.1 hg).1⟩
theorem IRow.nilRow (w : World) (base : Nat) : IRow w base (.slice none 0 0) [] := ⟨rfl, Or.inl ⟨rfl, rfl⟩⟩
end Go.Proofs.Ytbcbmgeoaejlmaa
