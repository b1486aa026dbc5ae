import Derived.Test.YthdkkpbhijlpaaaGreatS26
set_option linter.unusedVariables false
namespace Go.Proofs.YthdkkpbhijlpaaaGreat
open Go.ChangeShapes Go.WideShapes Go.ChangeAt Go.RowKit Go.Deep

open Classical in
noncomputable def nodeB (x : Nd) : Bool := decide (NodeIs x)
theorem nodeB_f {x : Nd} (h : ¬ NodeIs x) : false = nodeB x := by simp [nodeB, h]
theorem nodeB_elem {x : Nd} (h : x.k = 1) (hn : namedB small tagB x.n = true) (h0 : 0 ≤ x.sp) (h2 : x.sp ≤ 2) (ht : x.t.size = 0) : alB x.al = nodeB x := by
  unfold alB nodeB
  congr 1
  exact propext ⟨fun ha => Or.inl ⟨h, hn, h0, h2, ht, ha⟩, fun h' => by
    rcases h' with ⟨_, h'⟩ | ⟨e, _⟩ | ⟨e, _⟩
    · exact h'.2.2.2.2
    · omega
    · omega⟩
theorem nodeB_text {x : Nd} (h : x.k = 2) (h0 : 0 < x.t.size) : wordsB x = nodeB x := by
  unfold wordsB nodeB
  congr 1
  exact propext ⟨fun hw => Or.inr (Or.inl ⟨h, h0, hw⟩), fun h' => by
    rcases h' with ⟨e, _⟩ | ⟨_, _, h'⟩ | ⟨e, _⟩
    · omega
    · exact h'
    · omega⟩
theorem nodeB_comment {x : Nd} (h : x.k = 3) : wordsB x = nodeB x := by
  unfold wordsB nodeB
  congr 1
  exact propext ⟨fun hw => Or.inr (Or.inr ⟨h, hw⟩), fun h' => by
    rcases h' with ⟨e, _⟩ | ⟨e, _⟩ | ⟨_, h'⟩
    · omega
    · omega
    · exact h'⟩
theorem not_elem {x : Nd} (h : x.k = 1) (hn : ¬ ElemIs x) : ¬ NodeIs x := by
  rintro (⟨_, h'⟩ | ⟨e, _⟩ | ⟨e, _⟩)
  · exact hn h'
  · omega
  · omega
set_option maxHeartbeats 1000000 in
theorem nodeOK_any (x : Nd) (b o lo hi : Nat) (w : World) (h : NdAt w lo hi b o x) (hh : hi ≤ w.heap.size) :
    Calls Tryz.prog 124 #[.pointer (some ⟨b, o, none⟩)] w fun e w' => e = .returned (.bool (nodeB x)) ∧ Below w.heap.size w w' := by
  have HN := Lib.hid h
  obtain ⟨⟨c0, c1, c2, c3, z2, z3⟩, A, c, b', o', c4, hR, hal⟩ := h
  obtain ⟨k, sp, n, t, al⟩ := x
  have HR := Lib.hid hR
  have HA := Lib.hid hal
  clear hR hal
  simp only at c0 c1 c2 c3 z2 z3 c4
  have HZ := Lib.hid z2
  clear z2
  unfold maxLen at z3
  by_cases k1 : k = 1
  · subst k1
    by_cases hn : namedB small tagB n = true
    · have Hn := Lib.hid hn
      clear hn
      by_cases s0 : 0 ≤ sp
      · by_cases s2 : sp ≤ 2
        · have HSP : Hid ((decide (0 ≤ sp) && decide (sp ≤ 2)) = true) := Lib.hid (by simp [s0, s2])
          by_cases h3 : t.size = 0
          · have ht := is_nil (s := t) (by omega)
            have H3 := Lib.hid h3
            clear h3
            go_enter Tryz.func124, Tryz.ntmps124
            go_wp2_with (first
              | (go_at_call 110; refine (implTagOK_any n _ HZ.out).mono ?_; rintro e w' ⟨rfl, rfl⟩; rw [Hn.out])
              | (go_at_call 171; refine (isSpace_any sp _).mono ?_; rintro e w' ⟨rfl, rfl⟩; rw [HSP.out])
              | (go_at_call 172; refine (attrsOK_any al _ A c b' o' lo hi HR.out hh HA.out).mono ?_; rintro e w' ⟨rfl, hB'⟩; have HB' := Lib.hid hB'; clear hB'))
            go_ret
            exact ⟨ret_bool (nodeB_elem (x := ⟨1, sp, n, t, al⟩) rfl Hn.out s0 s2 H3.out), HB'.out⟩
          · have ht := ne_nil (s := t) (by omega)
            have ht2 := ne_empty (s := t) (by omega)
            have H3 := Lib.hid h3
            clear h3
            go_enter Tryz.func124, Tryz.ntmps124
            go_wp2_with (first | (go_at_call 110; refine (implTagOK_any n _ HZ.out).mono ?_; rintro e w' ⟨rfl, rfl⟩; rw [Hn.out]) | (go_at_call 171; refine (isSpace_any sp _).mono ?_; rintro e w' ⟨rfl, rfl⟩; rw [HSP.out]))
            go_ret
            exact ⟨ret_bool (nodeB_f (not_elem rfl fun h => H3.out h.2.2.2.1)), Below.refl _ _⟩
        · have s2' : decide (sp ≤ 2) = false := by simpa using s2
          have S2 := Lib.hid s2
          have HSP : Hid ((decide (0 ≤ sp) && decide (sp ≤ 2)) = false) := Lib.hid (by rw [s2', Bool.and_false])
          clear s2 s2'
          go_enter Tryz.func124, Tryz.ntmps124
          go_wp2_with (first | (go_at_call 110; refine (implTagOK_any n _ HZ.out).mono ?_; rintro e w' ⟨rfl, rfl⟩; rw [Hn.out]) | (go_at_call 171; refine (isSpace_any sp _).mono ?_; rintro e w' ⟨rfl, rfl⟩; rw [HSP.out]))
          go_ret
          exact ⟨ret_bool (nodeB_f (not_elem rfl fun h => by have h1 := S2.out; have h2 : sp ≤ 2 := h.2.2.1; omega)), Below.refl _ _⟩
      · have s0' : decide (0 ≤ sp) = false := by simpa using s0
        have S0 := Lib.hid s0
        have HSP : Hid ((decide (0 ≤ sp) && decide (sp ≤ 2)) = false) := Lib.hid (by rw [s0', Bool.false_and])
        clear s0 s0'
        go_enter Tryz.func124, Tryz.ntmps124
        go_wp2_with (first | (go_at_call 110; refine (implTagOK_any n _ HZ.out).mono ?_; rintro e w' ⟨rfl, rfl⟩; rw [Hn.out]) | (go_at_call 171; refine (isSpace_any sp _).mono ?_; rintro e w' ⟨rfl, rfl⟩; rw [HSP.out]))
        go_ret
        exact ⟨ret_bool (nodeB_f (not_elem rfl fun h => by have h1 := S0.out; have h2 : 0 ≤ sp := h.2.1; omega)), Below.refl _ _⟩
    · have Hn := Lib.hid (show namedB small tagB n = false by simpa using hn)
      clear hn
      go_enter Tryz.func124, Tryz.ntmps124
      go_wp2_with (go_at_call 110; refine (implTagOK_any n _ HZ.out).mono ?_; rintro e w' ⟨rfl, rfl⟩; rw [Hn.out])
      go_ret
      exact ⟨ret_bool (nodeB_f (not_elem rfl fun h => by have := h.1; rw [Hn.out] at this; simp at this)), Below.refl _ _⟩
  · have k1' : (k == 1) = false := by simpa using k1
    by_cases k2 : k = 2
    · subst k2
      by_cases h3 : t.size = 0
      · have ht := is_nil (s := t) (by omega)
        have H3 := Lib.hid h3
        clear h3 k1 k1'
        go_enter Tryz.func124, Tryz.ntmps124
        go_wp2
        go_ret
        exact ⟨ret_bool (nodeB_f (by have h1 : t.size = 0 := H3.out; rintro (⟨e, _⟩ | ⟨_, h, _⟩ | ⟨e, _⟩); exact absurd (show (2 : Int) = 1 from e) (by decide); exact absurd (show 0 < t.size from h) (by omega); exact absurd (show (2 : Int) = 3 from e) (by decide))), Below.refl _ _⟩
      · have ht := ne_nil (s := t) (by omega)
        have ht2 := ne_empty (s := t) (by omega)
        have H3 := Lib.hid h3
        clear h3 k1 k1'
        go_enter Tryz.func124, Tryz.ntmps124
        go_wp2_with (go_at_call 173; refine (isWords_any ⟨2, sp, n, t, al⟩ b o lo hi _ HN.out).mono ?_; rintro e w' ⟨rfl, rfl⟩)
        go_ret
        exact ⟨ret_bool (nodeB_text (x := ⟨2, sp, n, t, al⟩) rfl (by have h1 : ¬ t.size = 0 := H3.out; show 0 < t.size; omega)), Below.refl _ _⟩
    · have k2' : (k == 2) = false := by simpa using k2
      by_cases k3 : k = 3
      · subst k3
        clear k1 k2 k1' k2'
        go_enter Tryz.func124, Tryz.ntmps124
        go_wp2_with (go_at_call 173; refine (isWords_any ⟨3, sp, n, t, al⟩ b o lo hi _ HN.out).mono ?_; rintro e w' ⟨rfl, rfl⟩)
        go_ret
        exact ⟨ret_bool (nodeB_comment (x := ⟨3, sp, n, t, al⟩) rfl), Below.refl _ _⟩
      · have k3' : (k == 3) = false := by simpa using k3
        have HK := Lib.hid (And.intro k1 (And.intro k2 k3))
        clear k1 k2 k3
        go_enter Tryz.func124, Tryz.ntmps124
        go_wp2
        go_ret
        exact ⟨ret_bool (nodeB_f (by have := HK.out; rintro (⟨e, _⟩ | ⟨e, _⟩ | ⟨e, _⟩) <;> simp at e <;> omega)), Below.refl _ _⟩
open Classical in
noncomputable def mayB (ch : List Nd) (k : Int) : Bool := decide (MayHold ch k)
theorem mayB_iff (ch : List Nd) (k : Int) : mayB ch k = true ↔ MayHold ch k := by simp [mayB]
theorem mayB_top (k : Int) : true = mayB [] k := ((mayB_iff [] k).2 trivial).symm
theorem mayB_raw {p : Nd} {r : List Nd} {k : Int} (h : rawB p = true) : (k == 2) = mayB (p :: r) k := by
  have h' := (rawB_iff p).1 h
  rw [Bool.eq_iff_iff, mayB_iff, beq_iff_eq]
  exact ⟨fun e => ⟨fun _ => e, fun n => absurd h' n⟩, fun e => e.1 h'⟩
theorem mayB_else {p : Nd} {r : List Nd} {k : Int} (h : rawB p = false) : ((p.k == 1) && !voidB p) = mayB (p :: r) k := by
  have h' : ¬ RawN p := fun e => by have := (rawB_iff p).2 e; rw [h] at this; simp at this
  rw [Bool.eq_iff_iff, mayB_iff, Bool.and_eq_true, beq_iff_eq, Bool.not_eq_true']
  constructor
  · rintro ⟨e1, e2⟩; exact ⟨fun n => absurd n h', fun _ => ⟨e1, fun v => by rw [(voidB_iff p).2 v] at e2; simp at e2⟩⟩
  · rintro ⟨_, e⟩
    obtain ⟨e1, e2⟩ := e h'
    exact ⟨e1, by rw [← Bool.not_eq_true]; exact fun v => e2 ((voidB_iff p).1 v)⟩
theorem mayHold_any (C : Nat → Prop) (lo hi : Nat) (ch : List Nd) (q : Option Addr) (x : Nd) (b o : Nat) (w : World) (hs : SpotAt w C lo hi q ch) (h : NdAt w lo hi b o x) :
    Calls Tryz.prog 125 #[.pointer q, .pointer (some ⟨b, o, none⟩)] w fun e w' => e = .returned (.bool (mayB ch x.k)) ∧ w = w' := by
  have c0 := h.1.1
  cases ch with
  | nil =>
    have hq : q = none := hs
    subst hq
    clear c0
    go_enter Tryz.func125, Tryz.ntmps125
    go_wp2
    go_ret
    exact ⟨ret_bool (mayB_top _), rfl⟩
  | cons p r =>
    obtain ⟨g, pb, po, q', rfl, h2, h3, h4, h5, h6, h7, h8, h9⟩ := hs
    have H8 := Lib.hid h8
    have d0 := h8.1.1
    clear h4 h6 h8 h9
    cases hr : rawB p with
    | true =>
      have HR := Lib.hid hr
      clear hr d0
      go_enter Tryz.func125, Tryz.ntmps125
      go_wp2_with (go_at_call 142; refine (isRaw_any p pb po lo hi _ H8.out).mono ?_; rintro e w' ⟨rfl, rfl⟩; rw [HR.out])
      go_ret
      exact ⟨ret_bool (mayB_raw HR.out), rfl⟩
    | false =>
      have HR := Lib.hid hr
      clear hr
      by_cases k1 : p.k = 1
      · rw [k1] at d0
        have K1 := Lib.hid k1
        clear k1
        go_enter Tryz.func125, Tryz.ntmps125
        go_wp2_with (first
          | (go_at_call 142; refine (isRaw_any p pb po lo hi _ H8.out).mono ?_; rintro e w' ⟨rfl, rfl⟩; rw [HR.out])
          | (go_at_call 174; refine (isVoid_any p pb po lo hi _ H8.out).mono ?_; rintro e w' ⟨rfl, rfl⟩))
        go_ret
        exact ⟨ret_bool (by rw [← mayB_else HR.out, K1.out]; simp), rfl⟩
      · have k1' : (p.k == 1) = false := by simpa using k1
        have K1 := Lib.hid k1
        clear k1
        go_enter Tryz.func125, Tryz.ntmps125
        go_wp2_with (go_at_call 142; refine (isRaw_any p pb po lo hi _ H8.out).mono ?_; rintro e w' ⟨rfl, rfl⟩; rw [HR.out])
        go_ret
        exact ⟨ret_bool (by have := K1.out; rw [← mayB_else HR.out, k1']; simp), rfl⟩
end Go.Proofs.YthdkkpbhijlpaaaGreat
