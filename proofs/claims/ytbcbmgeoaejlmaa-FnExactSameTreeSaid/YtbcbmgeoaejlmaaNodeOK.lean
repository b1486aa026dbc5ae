
import Derived.Test.YtbcbmgeoaejlmaaAttrsOK
namespace Go.Proofs.Ytbcbmgeoaejlmaa
open Go.ChangeShapes Go.WideShapes Go.ChangeAt Go.RowKit Go.Deep

def rawB (x : Nd) : Bool := (x.sp == 0) && inL rawL x.n
def voidB (x : Nd) : Bool := (x.sp == 0) && inL voidL x.n
theorem rawB_iff (x : Nd) : rawB x = true ↔ RawN x := by simp [rawB, RawN]
theorem voidB_iff (x : Nd) : voidB x = true ↔ VoidN x := by simp [voidB, VoidN]

theorem isRaw_any (x : Nd) (b o lo hi : Nat) (w : World) (h : NdAt w lo hi b o x) :
    Calls Try.prog 156 #[.pointer (some ⟨b, o, none⟩)] w fun e w' => e = .returned (.bool (rawB x)) ∧ w = w' := by
  obtain ⟨⟨c0, c1, c2, c3, z2, z3⟩, _⟩ := h
  obtain ⟨k, sp, n, t, al⟩ := x
  simp only at c0 c1 c2 c3 z2 z3
  clear c0 c3
  by_cases hs : sp = 0
  · subst hs
    go_enter Try.func156, Try.ntmps156
    go_wp2_with (go_at_call 187; refine (implIsRaw_any n _).mono ?_; rintro e w' ⟨rfl, rfl⟩)
    go_ret
    exact ⟨rfl, rfl⟩
  · have hs' : (sp == 0) = false := by simpa using hs
    have HS := Lib.hid hs'
    go_enter Try.func156, Try.ntmps156
    go_wp2
    go_ret
    exact ⟨ret_bool (by simp [rawB, HS.out]), rfl⟩
theorem isVoid_any (x : Nd) (b o lo hi : Nat) (w : World) (h : NdAt w lo hi b o x) :
    Calls Try.prog 157 #[.pointer (some ⟨b, o, none⟩)] w fun e w' => e = .returned (.bool (voidB x)) ∧ w = w' := by
  obtain ⟨⟨c0, c1, c2, c3, z2, z3⟩, _⟩ := h
  obtain ⟨k, sp, n, t, al⟩ := x
  simp only at c0 c1 c2 c3 z2 z3
  clear c0 c3
  by_cases hs : sp = 0
  · subst hs
    go_enter Try.func157, Try.ntmps157
    go_wp2_with (go_at_call 188; refine (implIsVoid_any n _).mono ?_; rintro e w' ⟨rfl, rfl⟩)
    go_ret
    exact ⟨rfl, rfl⟩
  · have hs' : (sp == 0) = false := by simpa using hs
    have HS := Lib.hid hs'
    go_enter Try.func157, Try.ntmps157
    go_wp2
    go_ret
    exact ⟨ret_bool (by simp [voidB, HS.out]), rfl⟩

open Classical in
noncomputable def wordsB (x : Nd) : Bool := decide (WordsIs x)
theorem wordsB_t {x : Nd} (h : WordsIs x) : true = wordsB x := by simp [wordsB, h]
theorem wordsB_f {x : Nd} (h : ¬ WordsIs x) : false = wordsB x := by simp [wordsB, h]
theorem isWords_any (x : Nd) (b o lo hi : Nat) (w : World) (h : NdAt w lo hi b o x) :
    Calls Try.prog 155 #[.pointer (some ⟨b, o, none⟩)] w fun e w' => e = .returned (.bool (wordsB x)) ∧ w = w' := by
  obtain ⟨⟨c0, c1, c2, c3, z2, z3⟩, A, c, b', o', c4, hR, _⟩ := h
  obtain ⟨k, sp, n, t, al⟩ := x
  have hl := hR.2.1
  clear hR
  simp only at c0 c1 c2 c3 z2 z3 c4 hl
  unfold maxLen at z3 hl
  clear c0 z2
  by_cases h1 : t.size ≤ 120
  · by_cases h2 : sp = 0
    · subst h2
      by_cases h3 : n.size = 0
      · have hn := is_nil (s := n) (by omega)
        have H3 := Lib.hid h3
        clear h3
        by_cases h4 : al.length = 0
        · have H4 := Lib.hid h4
          rw [h4] at c4
          clear h4 hl
          go_enter Try.func155, Try.ntmps155
          go_wp2
          go_ret
          exact ⟨ret_bool (wordsB_t ⟨h1, rfl, H3.out, H4.out⟩), rfl⟩
        · have H4 := Lib.hid h4
          have h4' : ((al.length : Int) == 0) = false := by simp; intro e; simp [e] at h4
          clear h4
          go_enter Try.func155, Try.ntmps155
          go_wp2
          go_ret
          exact ⟨ret_bool (wordsB_f fun h => H4.out h.2.2.2), rfl⟩
      · have hn := ne_nil (s := n) (by omega)
        have hn2 := ne_empty (s := n) (by omega)
        have H3 := Lib.hid h3
        clear h3
        go_enter Try.func155, Try.ntmps155
        go_wp2
        go_ret
        exact ⟨ret_bool (wordsB_f fun h => H3.out h.2.2.1), rfl⟩
    · have hs' : (sp == 0) = false := by simpa using h2
      have H2 := Lib.hid h2
      clear h2
      go_enter Try.func155, Try.ntmps155
      go_wp2
      go_ret
      exact ⟨ret_bool (wordsB_f fun h => H2.out h.2.1), rfl⟩
  · have H1 := Lib.hid h1
    have h1' : decide ((t.size : Int) ≤ 120) = false := by simp; omega
    clear h1
    go_enter Try.func155, Try.ntmps155
    go_wp2
    go_ret
    exact ⟨ret_bool (wordsB_f fun h => H1.out h.1), rfl⟩

theorem depth_any (C : Nat → Prop) (lo hi : Nat) (ch : List Nd) (q : Option Addr) (w : World) (h : SpotAt w C lo hi q ch) (hl : ch.length ≤ 1048576) :
    Calls Try.prog 94 #[.pointer q] w fun e w' => e = .returned (.int .i64 ch.length) ∧ w = w' := by
  have HS := Lib.hid h
  clear h
  go_enter Try.func94, Try.ntmps94
  go_wp2
  go_loop [0, 3] (fun p i => ∃ (p' : Option Addr) (k : Nat) (suf : List Nd), p = .pointer p' ∧ i = .int .i64 (k : Int) ∧ k + suf.length = ch.length ∧ Hid (SpotAt w C lo hi p' suf)) (fun p i => ch.length - (intOf i).toNat)
  case atStart => exact ⟨q, 0, ch, rfl, rfl, by omega, HS⟩
  case round =>
    obtain ⟨p', k, suf, rfl, rfl, hk, HH⟩ := hrel
    cases suf with
    | nil =>
      have hp : p' = none := HH.out
      subst hp
      have hk' : k = ch.length := by simpa using hk
      subst hk'
      go_wp2
      go_ret
      exact ⟨rfl, rfl⟩
    | cons x r =>
      obtain ⟨g, b, o, q', rfl, h2, h3, h4, h5, h6, h7, h8, h9⟩ := HH.out
      have H9 := Lib.hid h9
      simp at hk
      clear HH h4 h5 h8 h9
      go_wp2
      go_round
      case rel => exact ⟨q', k + 1, r, rfl, by go_num, by omega, H9⟩
      case measure => simp [intOf]; omega
end Go.Proofs.Ytbcbmgeoaejlmaa
