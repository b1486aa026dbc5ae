
import Derived.Test.YtbcbmgeoaejlmaaTree
namespace Go.Proofs.Ytbcbmgeoaejlmaa
open Go.ChangeShapes Go.WideShapes Go.ChangeAt Go.RowKit Go.Deep

def PlainIs (x : Nd) (kl : Nat) : Prop := NodeIs x ∧ (x.k ≠ 1 → kl = 0)
open Classical in
noncomputable def plainB (x : Nd) (kl : Nat) : Bool := decide (PlainIs x kl)
theorem plainB_iff (x : Nd) (kl : Nat) : plainB x kl = true ↔ PlainIs x kl := by simp [plainB]
theorem plainB_f {x : Nd} {kl : Nat} (h : ¬ PlainIs x kl) : false = plainB x kl := by
  cases e : plainB x kl with
  | false => rfl
  | true => exact absurd ((plainB_iff x kl).1 e) h
theorem plain_elem {x : Nd} {kl : Nat} (h : x.k = 1) (hn : namedB small tagB x.n = true) (h0 : 0 ≤ x.sp ∧ x.sp ≤ 2) (ht : x.t.size = 0) : alB x.al = plainB x kl := by
  rw [nodeB_elem h hn h0.1 h0.2 ht, Bool.eq_iff_iff, plainB_iff, show (nodeB x = true) = NodeIs x by simp [nodeB]]
  exact ⟨fun hx => ⟨hx, fun e => absurd h e⟩, fun hx => hx.1⟩
theorem plain_words {x : Nd} {kl : Nat} (h : x.k = 2 ∧ 0 < x.t.size ∨ x.k = 3) (hw : WordsIs x) : ((kl : Int) == 0) = plainB x kl := by
  rw [Bool.eq_iff_iff, plainB_iff]
  simp only [beq_iff_eq]
  constructor
  · intro e
    exact ⟨by rcases h with ⟨a, b⟩ | a; exact Or.inr (Or.inl ⟨a, b, hw⟩); exact Or.inr (Or.inr ⟨a, hw⟩), fun _ => by omega⟩
  · intro hx
    have : kl = 0 := hx.2 (by rcases h with ⟨a, _⟩ | a <;> omega)
    omega
theorem not_words {x : Nd} {kl : Nat} (h : x.k = 2 ∨ x.k = 3) (hw : ¬ (WordsIs x ∧ (x.k = 2 → 0 < x.t.size))) : ¬ PlainIs x kl := by
  rintro ⟨(⟨a, _⟩ | ⟨a, b, c⟩ | ⟨a, c⟩), _⟩
  · omega
  · exact hw ⟨c, fun _ => b⟩
  · exact hw ⟨c, fun e => by omega⟩

set_option maxHeartbeats 2000000 in
theorem l03Plain_any (k sp : Int) (n t : ByteArray) (al : List (ByteArray × ByteArray)) (kl : Nat) (w : World) (A K : Option Addr) (c kc b' o' lo hi : Nat)
    (z2 : n.size ≤ maxLen) (z3 : t.size ≤ maxLen) (hR : RowAt lo hi A al.length b' o') (hal : AsAt w b' o' al) (hk : kl ≤ maxLen) (hh : hi ≤ w.heap.size) :
    Calls Try.prog 182 #[.agg #[.int .i64 k, .int .i64 sp, .string n, .string t, .slice A al.length c, .slice K kl kc]] w fun e w' => e = .returned (.bool (plainB ⟨k, sp, n, t, al⟩ kl)) ∧ Below w.heap.size w w' := by
  have hl := hR.1
  have HR := Lib.hid hR
  have HA := Lib.hid hal
  have HZ := Lib.hid z2
  clear hR hal z2
  unfold maxLen at z3 hl
  have _hk := hk
  by_cases k1 : k = 1
  · subst k1
    by_cases hn : namedB small tagB n = true
    · have Hn := Lib.hid hn
      clear hn
      by_cases hs : (decide (0 ≤ sp) && decide (sp ≤ 2)) = true
      · have Hs := Lib.hid hs
        clear hs
        by_cases h3 : t.size = 0
        · have ht := is_nil (s := t) (by omega)
          have H3 := Lib.hid h3
          clear h3
          go_enter Try.func182, Try.ntmps182
          go_wp2_with (first | (go_at_call 121; refine (l01Tag_any n _ HZ.out).mono ?_; rintro e w' ⟨rfl, rfl⟩; rw [Hn.out]) | (go_at_call 120; refine (l01In_any _ _ _ _).mono ?_; rintro e w' ⟨rfl, rfl⟩; rw [Hs.out]) | (go_at_call 63; refine (l03Attrs_any al _ A c b' o' lo hi HR.out ?q1 ?q2).mono ?q3))
          case q1 => simp; omega
          case q2 => exact HA.out.but HR.out ((But.refl No w).alloc _) hh (fun _ h => h.elim)
          case q3 =>
            rintro e w' ⟨rfl, hB'⟩
            have KB := Lib.hid hB'
            clear hB'
            go_wp2
            go_ret
            exact ⟨ret_bool (plain_elem (x := ⟨1, sp, n, t, al⟩) rfl Hn.out (by simpa using Hs.out) H3.out), ((Below.refl _ _).alloc (Nat.le_refl _) _).trans (KB.out.mono (by simp))⟩
        · have ht := ne_nil (s := t) (by omega)
          have ht2 := ne_empty (s := t) (by omega)
          have H3 := Lib.hid h3
          clear h3
          go_enter Try.func182, Try.ntmps182
          go_wp2_with (first | (go_at_call 121; refine (l01Tag_any n _ HZ.out).mono ?_; rintro e w' ⟨rfl, rfl⟩; rw [Hn.out]) | (go_at_call 120; refine (l01In_any _ _ _ _).mono ?_; rintro e w' ⟨rfl, rfl⟩; rw [Hs.out]))
          go_ret
          exact ⟨ret_bool (plainB_f fun h => not_elem (x := ⟨1, sp, n, t, al⟩) rfl (fun h => H3.out h.2.2.2.1) h.1), by go_grown⟩
      · have Hs := Lib.hid (show (decide (0 ≤ sp) && decide (sp ≤ 2)) = false by simpa using hs)
        clear hs
        go_enter Try.func182, Try.ntmps182
        go_wp2_with (first | (go_at_call 121; refine (l01Tag_any n _ HZ.out).mono ?_; rintro e w' ⟨rfl, rfl⟩; rw [Hn.out]) | (go_at_call 120; refine (l01In_any _ _ _ _).mono ?_; rintro e w' ⟨rfl, rfl⟩; rw [Hs.out]))
        go_ret
        exact ⟨ret_bool (plainB_f fun h => not_elem (x := ⟨1, sp, n, t, al⟩) rfl (fun h => by have h1 := Hs.out; have h2 : 0 ≤ sp := h.2.1; have h3 : sp ≤ 2 := h.2.2.1; simp [h2, h3] at h1) h.1), by go_grown⟩
    · have Hn := Lib.hid (show namedB small tagB n = false by simpa using hn)
      clear hn
      go_enter Try.func182, Try.ntmps182
      go_wp2_with (go_at_call 121; refine (l01Tag_any n _ HZ.out).mono ?_; rintro e w' ⟨rfl, rfl⟩; rw [Hn.out])
      go_ret
      exact ⟨ret_bool (plainB_f fun h => not_elem (x := ⟨1, sp, n, t, al⟩) rfl (fun h => by have h1 := Hn.out; have h2 : namedB small tagB n = true := h.1; rw [h1] at h2; simp at h2) h.1), by go_grown⟩
  · have k1' : (k == 1) = false := by simpa using k1
    by_cases k2 : k = 2
    · subst k2
      clear k1 k1'
      by_cases h3 : n.size = 0
      · have hnn := is_nil (s := n) (by omega)
        have H3 := Lib.hid h3
        clear h3
        by_cases h2 : sp = 0
        · subst h2
          by_cases hs : (decide ((1 : Int) ≤ t.size) && decide ((t.size : Int) ≤ 120)) = true
          · have Hs := Lib.hid hs
            clear hs
            by_cases h4 : al.length = 0
            · have H4 := Lib.hid h4
              have h4' : ((al.length : Int) == 0) = true := by simp [h4]
              clear h4
              go_enter Try.func182, Try.ntmps182
              go_wp2_with (go_at_call 120; refine (l01In_any _ _ _ _).mono ?_; rintro e w' ⟨rfl, rfl⟩; rw [Hs.out])
              go_ret
              exact ⟨ret_bool (by have hs := Hs.out; simp at hs; exact plain_words (x := ⟨2, 0, n, t, al⟩) (Or.inl ⟨rfl, by show 0 < t.size; omega⟩) ⟨by show t.size ≤ 120; omega, rfl, H3.out, H4.out⟩), by go_grown⟩
            · have H4 := Lib.hid h4
              have h4' : ((al.length : Int) == 0) = false := by simp; intro e; simp [e] at h4
              clear h4
              go_enter Try.func182, Try.ntmps182
              go_wp2_with (go_at_call 120; refine (l01In_any _ _ _ _).mono ?_; rintro e w' ⟨rfl, rfl⟩; rw [Hs.out])
              go_ret
              exact ⟨ret_bool (plainB_f (not_words (x := ⟨2, 0, n, t, al⟩) (Or.inl rfl) fun h => H4.out h.1.2.2.2)), by go_grown⟩
          · have Hs := Lib.hid (show (decide ((1 : Int) ≤ t.size) && decide ((t.size : Int) ≤ 120)) = false by simpa using hs)
            clear hs
            go_enter Try.func182, Try.ntmps182
            go_wp2_with (go_at_call 120; refine (l01In_any _ _ _ _).mono ?_; rintro e w' ⟨rfl, rfl⟩; rw [Hs.out])
            go_ret
            exact ⟨ret_bool (plainB_f (not_words (x := ⟨2, 0, n, t, al⟩) (Or.inl rfl) fun h => by have h1 := Hs.out; have h2 : t.size ≤ 120 := h.1.1; have h3 : 0 < t.size := h.2 rfl; simp at h1; omega)), by go_grown⟩
        · have h2' : (sp == 0) = false := by simpa using h2
          have H2 := Lib.hid h2
          clear h2
          go_enter Try.func182, Try.ntmps182
          go_wp2
          go_ret
          exact ⟨ret_bool (plainB_f (not_words (x := ⟨2, sp, n, t, al⟩) (Or.inl rfl) fun h => H2.out h.1.2.1)), by go_grown⟩
      · have hnn := ne_nil (s := n) (by omega)
        have hnn2 := ne_empty (s := n) (by omega)
        have H3 := Lib.hid h3
        clear h3
        go_enter Try.func182, Try.ntmps182
        go_wp2
        go_ret
        exact ⟨ret_bool (plainB_f (not_words (x := ⟨2, sp, n, t, al⟩) (Or.inl rfl) fun h => H3.out h.1.2.2.1)), by go_grown⟩
    · have k2' : (k == 2) = false := by simpa using k2
      by_cases k3 : k = 3
      · subst k3
        clear k1 k2 k1' k2'
        by_cases h3 : n.size = 0
        · have hnn := is_nil (s := n) (by omega)
          have H3 := Lib.hid h3
          clear h3
          by_cases h2 : sp = 0
          · subst h2
            by_cases hs : t.size ≤ 120
            · by_cases h4 : al.length = 0
              · have H4 := Lib.hid h4
                have h4' : ((al.length : Int) == 0) = true := by simp [h4]
                clear h4
                go_enter Try.func182, Try.ntmps182
                go_wp2
                go_ret
                exact ⟨ret_bool (plain_words (x := ⟨3, 0, n, t, al⟩) (Or.inr rfl) ⟨hs, rfl, H3.out, H4.out⟩), by go_grown⟩
              · have H4 := Lib.hid h4
                have h4' : ((al.length : Int) == 0) = false := by simp; intro e; simp [e] at h4
                clear h4
                go_enter Try.func182, Try.ntmps182
                go_wp2
                go_ret
                exact ⟨ret_bool (plainB_f (not_words (x := ⟨3, 0, n, t, al⟩) (Or.inr rfl) fun h => H4.out h.1.2.2.2)), by go_grown⟩
            · have Hs := Lib.hid hs
              have hs' : decide ((t.size : Int) ≤ 120) = false := by simp; omega
              clear hs
              go_enter Try.func182, Try.ntmps182
              go_wp2
              go_ret
              exact ⟨ret_bool (plainB_f (not_words (x := ⟨3, 0, n, t, al⟩) (Or.inr rfl) fun h => Hs.out h.1.1)), by go_grown⟩
          · have h2' : (sp == 0) = false := by simpa using h2
            have H2 := Lib.hid h2
            clear h2
            go_enter Try.func182, Try.ntmps182
            go_wp2
            go_ret
            exact ⟨ret_bool (plainB_f (not_words (x := ⟨3, sp, n, t, al⟩) (Or.inr rfl) fun h => H2.out h.1.2.1)), by go_grown⟩
        · have hnn := ne_nil (s := n) (by omega)
          have hnn2 := ne_empty (s := n) (by omega)
          have H3 := Lib.hid h3
          clear h3
          go_enter Try.func182, Try.ntmps182
          go_wp2
          go_ret
          exact ⟨ret_bool (plainB_f (not_words (x := ⟨3, sp, n, t, al⟩) (Or.inr rfl) fun h => H3.out h.1.2.2.1)), by go_grown⟩
      · have k3' : (k == 3) = false := by simpa using k3
        have HK := Lib.hid (And.intro k1 (And.intro k2 k3))
        clear k1 k2 k3
        go_enter Try.func182, Try.ntmps182
        go_wp2
        go_ret
        exact ⟨ret_bool (plainB_f (by obtain ⟨a, b, d⟩ := HK.out; rintro ⟨(⟨e, _⟩ | ⟨e, _⟩ | ⟨e, _⟩), _⟩; exact a e; exact b e; exact d e)), by go_grown⟩
end Go.Proofs.Ytbcbmgeoaejlmaa
