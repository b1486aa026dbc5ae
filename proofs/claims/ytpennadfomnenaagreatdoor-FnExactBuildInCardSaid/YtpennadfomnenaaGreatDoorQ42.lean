import Derived.Test.YtpennadfomnenaaGreatDoorQ41
import Derived.Test.YtpennadfomnenaaGreatDoorQ20
set_option linter.unusedVariables false
namespace Go.Proofs.YtpennadfomnenaaGreatDoor
open Go.ChangeShapes Go.WideShapes Go.ChangeAt Go.RowKit Go.Deep

noncomputable def inIn (s c : ByteArray) : Fo × Int :=
  if inL voidL c = true then (.nil, 0) else if inL rawL c = true then (if s.size = 0 then (.nil, 0) else if 120 < s.size then (.nil, 8) else (.one 2 0 ⟨#[]⟩ s [] .nil, 0)) else builtOf s
noncomputable def outI (s c : ByteArray) : Fo × Int :=
  if 65536 < s.size ∨ 65536 < c.size then (.nil, 2) else if namedB small tagB c = false then (.nil, 10) else if 4096 < s.size then (.nil, 8) else inIn s c
theorem outI_cn (s c : ByteArray) : (outI s c).1.cnt ≤ 960 := by
  unfold outI inIn
  repeat' split
  all_goals first | exact Nat.zero_le _ | exact builtOf_cn s | (simp [Fo.one, Fo.cnt])
theorem GRow.lit1 {w : World} {base : Nat} {t : ByteArray} (hb : base ≤ w.heap.size) (ht : t.size ≤ maxLen) : GRow (w.alloc (.cells #[.int .i64 2, .int .i64 0, .string ⟨#[]⟩, .string t, .slice none 0 0, .slice none 0 0] 42)) base (.slice (some ⟨w.heap.size, 0, none⟩) 1 1) (.one 2 0 ⟨#[]⟩ t [] .nil) [] :=
  ⟨_, World.ownsRow_lit w _ 1 hb (by decide) rfl, ⟨none, none, 0, 0, [], [], [], [], rfl, rfl, ⟨Nat.zero_le _, ht⟩, ⟨Nat.le_refl _, Nat.zero_le _, Or.inl ⟨rfl, rfl⟩⟩, ⟨Nat.le_refl _, Nat.zero_le _, Or.inl ⟨rfl, rfl⟩⟩, rfl, rfl⟩, List.nodup_nil, by simp, by simp⟩
set_option maxHeartbeats 1000000 in
theorem buildWords_any (s : ByteArray) (w : World) (hs : s.size ≤ maxLen) :
    Calls Tryz.prog 75 #[.string s] w (BuiltOut (if s.size = 0 then (.nil, 0) else if 120 < s.size then (.nil, 8) else (.one 2 0 ⟨#[]⟩ s [] .nil, 0)) w) := by
  by_cases h0 : s.size = 0
  · rw [if_pos h0]
    have he : s = ⟨#[]⟩ := ByteArray.ext (Array.eq_empty_of_size_eq_zero h0)
    subst he
    go_enter Tryz.func75, Tryz.ntmps75
    go_wp2
    go_ret2
    exact ⟨_, [], rfl, GRow.nil _ _, Below.refl _ _⟩
  · rw [if_neg h0]
    have hl : s.toList.length = s.size := by rw [ByteArray.toList_eq, Array.length_toList]; rfl
    have h1 : ¬ s.toList = [] := fun h => by rw [h] at hl; simp only [List.length_nil] at hl; omega
    have h2 : s.toList.isEmpty = false := by simpa using h1
    clear hl
    by_cases h : s.size ≤ 120
    · rw [if_neg (by omega)]
      have h' : ¬ (s.size : Int) > 120 := by omega
      go_enter Tryz.func75, Tryz.ntmps75
      go_wp2
      go_ret2
      exact ⟨_, [], rfl, GRow.lit1 (Nat.le_refl _) hs, (Below.refl _ _).alloc (Nat.le_refl _) _⟩
    · rw [if_pos (by omega)]
      have h' : (s.size : Int) > 120 := by omega
      go_enter Tryz.func75, Tryz.ntmps75
      go_wp2
      go_ret2
      exact ⟨_, [], rfl, GRow.nil _ _, Below.refl _ _⟩
theorem ndNew (w : World) (c : ByteArray) (hc : c.size ≤ maxLen) : NdAt (w.alloc (.cells #[.int .i64 1, .int .i64 0, .string c, .string ⟨#[]⟩, .slice none 0 0, .slice none 0 0] 42)) 0 0 w.heap.size 0 ⟨1, 0, c, ⟨#[]⟩, []⟩ := by
  have h := (Lay.new w #[.int .i64 1, .int .i64 0, .string c, .string ⟨#[]⟩, .slice none 0 0, .slice none 0 0] 42).1
  exact ⟨⟨h 0, h 1, h 2, h 3, hc, Nat.zero_le _⟩, none, 0, 0, 0, h 4, ⟨Nat.le_refl _, Nat.zero_le _, fun hp => absurd hp (Nat.lt_irrefl 0)⟩, trivial⟩
set_option maxHeartbeats 1000000 in
theorem implBuildIn_any (s c : ByteArray) (w : World) (hs : s.size ≤ maxLen) (hc : c.size ≤ maxLen) (hE : Env2 w) :
    Calls Tryz.prog 23 #[.string s, .string c] w (BuiltOut (outI s c) w) := by
  have hsm := hs
  have hcm := hc
  unfold maxLen at hs hc
  by_cases h1 : s.size ≤ 65536
  · have h1' : ¬ (s.size : Int) > 65536 := by omega
    by_cases h2 : c.size ≤ 65536
    · have h2' : ¬ (c.size : Int) > 65536 := by omega
      cases ht : namedB small tagB c with
      | false =>
        have e : outI s c = (.nil, 10) := by unfold outI; rw [if_neg (by omega), if_pos ht]
        rw [e]
        clear e
        have HT := Lib.hid ht
        clear ht
        go_enter Tryz.func23, Tryz.ntmps23
        go_wp2_with (go_at_call 68; refine (implTagOK_any c _ hcm).mono ?_; rintro e w' ⟨rfl, rfl⟩; rw [HT.out])
        go_ret2
        exact ⟨_, [], rfl, GRow.nil _ _, Below.refl _ _⟩
      | true =>
        have HT := Lib.hid ht
        by_cases h3 : s.size ≤ 4096
        · have h3' : ¬ (s.size : Int) > 4096 := by omega
          have e : outI s c = inIn s c := by unfold outI; rw [if_neg (by omega), if_neg (by rw [ht]; simp), if_neg (by omega)]
          rw [e]
          clear e ht
          have HE := Lib.hid hE
          have HN : Hid (NdAt (w.alloc (.cells #[.int .i64 1, .int .i64 0, .string c, .string ⟨#[]⟩, .slice none 0 0, .slice none 0 0] 42)) 0 0 w.heap.size 0 ⟨1, 0, c, ⟨#[]⟩, []⟩) := Lib.hid (ndNew w c hcm)
          have B1 := Lib.hid ((Below.refl w.heap.size w).alloc (Nat.le_refl _) (.cells #[.int .i64 1, .int .i64 0, .string c, .string ⟨#[]⟩, .slice none 0 0, .slice none 0 0] 42))
          clear hE
          cases hv : inL voidL c with
          | true =>
            have e : inIn s c = (.nil, 0) := by unfold inIn; rw [if_pos hv]
            have HC : Hid (contI ⟨1, 0, c, ⟨#[]⟩, []⟩ = 2) := Lib.hid (by simp [contI, voidB, hv])
            rw [e]
            clear e hv
            go_enter Tryz.func23, Tryz.ntmps23
            go_wp2_with (first
              | (go_at_call 68; refine (implTagOK_any c _ hcm).mono ?_; rintro e w' ⟨rfl, rfl⟩; rw [HT.out])
              | (go_at_call 74; refine (contentOf_any _ _ _ _ _ _ HN.out).mono ?_; rintro e w' ⟨rfl, rfl⟩; rw [HC.out]))
            go_ret2
            exact ⟨_, [], rfl, GRow.nil _ _, B1.out⟩
          | false =>
            cases hr : inL rawL c with
            | true =>
              have e : inIn s c = (if s.size = 0 then (.nil, 0) else if 120 < s.size then (.nil, 8) else (.one 2 0 ⟨#[]⟩ s [] .nil, 0)) := by unfold inIn; rw [if_neg (by rw [hv]; simp), if_pos hr]
              have HC : Hid (contI ⟨1, 0, c, ⟨#[]⟩, []⟩ = 1) := Lib.hid (by simp [contI, voidB, rawB, hv, hr])
              have HBW := Lib.hid (fun W => buildWords_any s W hsm)
              rw [e]
              generalize (if s.size = 0 then ((.nil, 0) : Fo × Int) else if 120 < s.size then (.nil, 8) else (.one 2 0 ⟨#[]⟩ s [] .nil, 0)) = r at HBW ⊢
              clear e hv hr
              go_enter Tryz.func23, Tryz.ntmps23
              go_wp2_with (first
                | (go_at_call 68; refine (implTagOK_any c _ hcm).mono ?_; rintro e w' ⟨rfl, rfl⟩; rw [HT.out])
                | (go_at_call 74; refine (contentOf_any _ _ _ _ _ _ HN.out).mono ?_; rintro e w' ⟨rfl, rfl⟩; rw [HC.out])
                | (go_at_call 75; refine (HBW.out _).mono ?_; rintro e w2 ⟨v, bl, rfl, hG, hB⟩; have HO := Lib.hid (And.intro hG hB); clear hG hB))
              go_ret2
              exact ⟨v, bl, rfl, HO.out.1.low B1.out.size, B1.out.trans (HO.out.2.mono B1.out.size)⟩
            | false =>
              have e : inIn s c = builtOf s := by unfold inIn; rw [if_neg (by rw [hv]; simp), if_neg (by rw [hr]; simp)]
              have HC : Hid (contI ⟨1, 0, c, ⟨#[]⟩, []⟩ = 0) := Lib.hid (by simp [contI, voidB, rawB, hv, hr])
              rw [e]
              clear e hv hr
              go_enter Tryz.func23, Tryz.ntmps23
              go_wp2_with (first
                | (go_at_call 68; refine (implTagOK_any c _ hcm).mono ?_; rintro e w' ⟨rfl, rfl⟩; rw [HT.out])
                | (go_at_call 74; refine (contentOf_any _ _ _ _ _ _ HN.out).mono ?_; rintro e w' ⟨rfl, rfl⟩; rw [HC.out])
                | (go_at_call 70; refine (build_any s _ h3 (HE.out.below B1.out)).mono ?_; rintro e w2 ⟨v, bl, rfl, hG, hB⟩; have HO := Lib.hid (And.intro hG hB); clear hG hB))
              go_ret2
              exact ⟨v, bl, rfl, HO.out.1.low B1.out.size, B1.out.trans (HO.out.2.mono B1.out.size)⟩
        · have h3' : (s.size : Int) > 4096 := by omega
          have e : outI s c = (.nil, 8) := by unfold outI; rw [if_neg (by omega), if_neg (by rw [ht]; simp), if_pos (by omega)]
          rw [e]
          clear e ht
          go_enter Tryz.func23, Tryz.ntmps23
          go_wp2_with (go_at_call 68; refine (implTagOK_any c _ hcm).mono ?_; rintro e w' ⟨rfl, rfl⟩; rw [HT.out])
          go_ret2
          exact ⟨_, [], rfl, GRow.nil _ _, Below.refl _ _⟩
    · have e : outI s c = (.nil, 2) := by unfold outI; rw [if_pos (by omega)]
      rw [e]
      have h2' : (c.size : Int) > 65536 := by omega
      go_enter Tryz.func23, Tryz.ntmps23
      go_wp2
      go_ret2
      exact ⟨_, [], rfl, GRow.nil _ _, Below.refl _ _⟩
  · have e : outI s c = (.nil, 2) := by unfold outI; rw [if_pos (by omega)]
    rw [e]
    have h1' : (s.size : Int) > 65536 := by omega
    go_enter Tryz.func23, Tryz.ntmps23
    go_wp2
    go_ret2
    exact ⟨_, [], rfl, GRow.nil _ _, Below.refl _ _⟩
set_option maxHeartbeats 1000000 in
theorem l05In_any (s c : ByteArray) (w : World) (hs : s.size ≤ 4096) :
    Calls Tryz.prog 77 #[.string s, .string c] w (BuiltOut (inIn s c) w) := by
  have hm : s.size ≤ maxLen := by unfold maxLen; omega
  cases hv : inL voidL c with
  | true =>
    have e : inIn s c = (.nil, 0) := by unfold inIn; rw [if_pos hv]
    rw [e]
    have HV := Lib.hid hv
    clear e hv
    go_enter Tryz.func77, Tryz.ntmps77
    go_wp2_with (go_at_call 80; refine (l01Void_any c _).mono ?_; rintro e w1 ⟨rfl, hB⟩; rw [HV.out]; have B1 := Lib.hid hB; clear hB)
    go_ret2
    exact ⟨_, [], rfl, GRow.lit B1.out.size, B1.out.alloc B1.out.size _⟩
  | false =>
    have HV := Lib.hid hv
    cases hr : inL rawL c with
    | true =>
      have e : inIn s c = (if s.size = 0 then (.nil, 0) else if 120 < s.size then (.nil, 8) else (.one 2 0 ⟨#[]⟩ s [] .nil, 0)) := by unfold inIn; rw [if_neg (by rw [hv]; simp), if_pos hr]
      rw [e]
      have HR := Lib.hid hr
      clear e hv hr
      by_cases h0 : s.size = 0
      · rw [if_pos h0]
        have he : s = ⟨#[]⟩ := ByteArray.ext (Array.eq_empty_of_size_eq_zero h0)
        subst he
        go_enter Tryz.func77, Tryz.ntmps77
        go_wp2_with (first
          | (go_at_call 80; refine (l01Void_any c _).mono ?_; rintro e w1 ⟨rfl, hB⟩; rw [HV.out]; have B1 := Lib.hid hB; clear hB)
          | (go_at_call 67; refine (l01Raw_any c _).mono ?_; rintro e w2 ⟨rfl, hB⟩; rw [HR.out]; have B2 := Lib.hid (B1.out.trans (hB.mono B1.out.size)); clear hB))
        go_ret2
        exact ⟨_, [], rfl, GRow.lit B2.out.size, B2.out.alloc B2.out.size _⟩
      · rw [if_neg h0]
        have hl : s.toList.length = s.size := by rw [ByteArray.toList_eq, Array.length_toList]; rfl
        have h1 : ¬ s.toList = [] := fun h => by rw [h] at hl; simp only [List.length_nil] at hl; omega
        have h2 : s.toList.isEmpty = false := by simpa using h1
        clear hl
        by_cases h : s.size ≤ 120
        · rw [if_neg (by omega)]
          have h' : ¬ (s.size : Int) > 120 := by omega
          go_enter Tryz.func77, Tryz.ntmps77
          go_wp2_with (first
            | (go_at_call 80; refine (l01Void_any c _).mono ?_; rintro e w1 ⟨rfl, hB⟩; rw [HV.out]; have B1 := Lib.hid hB; clear hB)
            | (go_at_call 67; refine (l01Raw_any c _).mono ?_; rintro e w2 ⟨rfl, hB⟩; rw [HR.out]; have B2 := Lib.hid (B1.out.trans (hB.mono B1.out.size)); clear hB))
          go_ret2
          exact ⟨_, [], rfl, GRow.lit1 B2.out.size hm, B2.out.alloc B2.out.size _⟩
        · rw [if_pos (by omega)]
          have h' : (s.size : Int) > 120 := by omega
          go_enter Tryz.func77, Tryz.ntmps77
          go_wp2_with (first
            | (go_at_call 80; refine (l01Void_any c _).mono ?_; rintro e w1 ⟨rfl, hB⟩; rw [HV.out]; have B1 := Lib.hid hB; clear hB)
            | (go_at_call 67; refine (l01Raw_any c _).mono ?_; rintro e w2 ⟨rfl, hB⟩; rw [HR.out]; have B2 := Lib.hid (B1.out.trans (hB.mono B1.out.size)); clear hB))
          go_ret2
          exact ⟨_, [], rfl, GRow.lit B2.out.size, B2.out.alloc B2.out.size _⟩
    | false =>
      have e : inIn s c = builtOf s := by unfold inIn; rw [if_neg (by rw [hv]; simp), if_neg (by rw [hr]; simp)]
      rw [e]
      have HR := Lib.hid hr
      clear e hv hr
      go_enter Tryz.func77, Tryz.ntmps77
      go_wp2_with (first
        | (go_at_call 80; refine (l01Void_any c _).mono ?_; rintro e w1 ⟨rfl, hB⟩; rw [HV.out]; have B1 := Lib.hid hB; clear hB)
        | (go_at_call 67; refine (l01Raw_any c _).mono ?_; rintro e w2 ⟨rfl, hB⟩; rw [HR.out]; have B2 := Lib.hid (B1.out.trans (hB.mono B1.out.size)); clear hB)
        | (go_at_call 71; refine (l05Build_any s _ hs).mono ?_; rintro e w3 ⟨v, bl, rfl, hG, hB⟩; have HO := Lib.hid (And.intro hG hB); clear hG hB))
      go_ret2
      exact ⟨v, bl, rfl, HO.out.1.low B2.out.size, B2.out.trans (HO.out.2.mono B2.out.size)⟩
theorem inIn_cn (s c : ByteArray) : (inIn s c).1.cnt ≤ 960 := by
  unfold inIn
  repeat' split
  all_goals first | exact Nat.zero_le _ | exact builtOf_cn s | (simp [Fo.one, Fo.cnt])
set_option maxHeartbeats 1000000 in
theorem specBuildIn_any (s c : ByteArray) (w : World) (hs : s.size ≤ maxLen) (hc : c.size ≤ maxLen) :
    Calls Tryz.prog 24 #[.string s, .string c] w (BuiltOut (outI s c) w) := by
  have hcm := hc
  unfold maxLen at hs hc
  by_cases h1 : s.size ≤ 65536
  · have h1' : ¬ (s.size : Int) > 65536 := by omega
    by_cases h2 : c.size ≤ 65536
    · have h2' : ¬ (c.size : Int) > 65536 := by omega
      cases ht : namedB small tagB c with
      | false =>
        have e : outI s c = (.nil, 10) := by unfold outI; rw [if_neg (by omega), if_pos ht]
        rw [e]
        clear e
        have HT := Lib.hid ht
        clear ht
        go_enter Tryz.func24, Tryz.ntmps24
        go_wp2_with (go_at_call 76; refine (l01Tag_any c _ hcm).mono ?_; rintro e w' ⟨rfl, rfl⟩; rw [HT.out])
        go_ret2
        exact ⟨_, [], rfl, GRow.lit (Nat.le_refl _), (Below.refl _ _).alloc (Nat.le_refl _) _⟩
      | true =>
        have HT := Lib.hid ht
        by_cases h3 : s.size ≤ 4096
        · have h3' : ¬ (s.size : Int) > 4096 := by omega
          have e : outI s c = inIn s c := by unfold outI; rw [if_neg (by omega), if_neg (by rw [ht]; simp), if_neg (by omega)]
          rw [e]
          clear e ht
          have HC := Lib.hid (inIn_cn s c)
          have HL := Lib.hid (fun W => l05In_any s c W h3)
          go_enter Tryz.func24, Tryz.ntmps24
          go_wp2_with (first
            | (go_at_call 76; refine (l01Tag_any c _ hcm).mono ?_; rintro e w' ⟨rfl, rfl⟩; rw [HT.out])
            | (go_at_call 77; refine (HL.out _).mono ?_; rintro e w1 ⟨v, bl, rfl, hG, hB⟩; have HO := Lib.hid (And.intro hG hB); clear hG hB))
          refine (copyB_any _ v bl _ w1 HC.out HO.out.1).mono ?_
          rintro e w2 ⟨v2, bl2, rfl, hB2, hG2⟩
          have HO2 := Lib.hid (And.intro hG2 hB2)
          clear hB2 hG2
          go_wp2
          go_ret2
          exact ⟨v2, bl2, rfl, HO2.out.1.low HO.out.2.size, HO.out.2.trans (HO2.out.2.mono HO.out.2.size)⟩
        · have h3' : (s.size : Int) > 4096 := by omega
          have e : outI s c = (.nil, 8) := by unfold outI; rw [if_neg (by omega), if_neg (by rw [ht]; simp), if_pos (by omega)]
          rw [e]
          clear e ht
          go_enter Tryz.func24, Tryz.ntmps24
          go_wp2_with (go_at_call 76; refine (l01Tag_any c _ hcm).mono ?_; rintro e w' ⟨rfl, rfl⟩; rw [HT.out])
          go_ret2
          exact ⟨_, [], rfl, GRow.lit (Nat.le_refl _), (Below.refl _ _).alloc (Nat.le_refl _) _⟩
    · have e : outI s c = (.nil, 2) := by unfold outI; rw [if_pos (by omega)]
      rw [e]
      have h2' : (c.size : Int) > 65536 := by omega
      go_enter Tryz.func24, Tryz.ntmps24
      go_wp2
      go_ret2
      exact ⟨_, [], rfl, GRow.lit (Nat.le_refl _), (Below.refl _ _).alloc (Nat.le_refl _) _⟩
  · have e : outI s c = (.nil, 2) := by unfold outI; rw [if_pos (by omega)]
    rw [e]
    have h1' : (s.size : Int) > 65536 := by omega
    go_enter Tryz.func24, Tryz.ntmps24
    go_wp2
    go_ret2
    exact ⟨_, [], rfl, GRow.lit (Nat.le_refl _), (Below.refl _ _).alloc (Nat.le_refl _) _⟩
end Go.Proofs.YtpennadfomnenaaGreatDoor
namespace Go.Proofs.YtpennadfomnenaaGreatDoor
open Go.ChangeShapes Go.WideShapes Go.ChangeAt Go.RowKit Go.Deep

set_option maxHeartbeats 2000000 in
theorem lawBuildIn_walk (s c : ByteArray) (w : World) (hE : Env2 w) (ws : s.size ≤ maxLen) (wc : c.size ≤ maxLen) :
    Calls Tryz.prog 8 #[.string s, .string c] w fun e w' => e = .returned (.bool true) ∧ Below w.heap.size w w' := by
  have HE := Lib.hid hE
  clear hE
  by_cases hs : s.size ≤ 1048576
  · have hs' : ¬ (s.size : Int) > 1048576 := by omega
    by_cases hc : c.size ≤ 1048576
    · have hc' : ¬ (c.size : Int) > 1048576 := by omega
      have HC := Lib.hid (outI_cn s c)
      have HL : Hid ((outI s c).1.len ≤ maxLen) := Lib.hid (by have := Fo.len_cnt (outI s c).1; have := HC.out; unfold maxLen; omega)
      have HCC : Hid (1 + (outI s c).1.cnt ≤ 1073741824) := Lib.hid (by have := HC.out; omega)
      go_enter Tryz.func8, Tryz.ntmps8
      go_wp2_with (go_at_call 24; refine (specBuildIn_any s c w ws wc).mono ?_; rintro e w1 ⟨v, blw, rfl, hW, hB1⟩)
      obtain ⟨Aw, cw, bw, rfl, hw⟩ := KR.of hW HL.out
      have W1 := Lib.hid hw
      have B1 := Lib.hid hB1
      clear hB1 hW hw
      go_wp2_with fail
      refine (implBuildIn_any s c _ ws wc (HE.out.below B1.out)).mono ?_
      rintro e w2 ⟨v, blg, rfl, hG, hB⟩
      obtain ⟨Ag, cg, bg, rfl, hg⟩ := KR.of hG HL.out
      have G2 := Lib.hid hg
      have B2 := Lib.hid (B1.out.trans (hB.mono B1.out.size))
      have W2 := Lib.hid (W1.out.next hB)
      clear hB hG hg
      go_wp2_with fail
      refine (eqKR G2.out W2.out).mono ?_
      rintro e w3 ⟨rfl, hB⟩
      have B3 := Lib.hid (B2.out.trans (hB.mono B2.out.size))
      have W3 := Lib.hid (W2.out.next hB)
      have G3 := Lib.hid (G2.out.next hB)
      clear hB
      go_wp2_with fail
      refine (markKR G3.out HCC.out).mono ?_
      rintro e w4 ⟨rfl, hR, hB⟩
      have B4 := Lib.hid (B3.out.trans (hB.below (B := w.heap.size) (fun k hk => by have := G3.out.at' k hk; have := B1.out.size; omega) B3.out.size))
      have W4 := Lib.hid (W3.out.only hB fun k hk => by have := G3.out.at' k hk; omega)
      have G4 : Hid (KR w4 Ag (markFo (outI s c).1 1) bg w1.heap.size w2.heap.size) := Lib.hid hR
      clear hB hR
      go_wp2_with fail
      refine (heldKR G4.out HCC.out).mono ?_
      rintro e w5 ⟨rfl, hB⟩
      have B5 := Lib.hid (B4.out.trans (hB.mono B4.out.size))
      have W5 := Lib.hid (W4.out.next hB)
      have G5 := Lib.hid (G4.out.next hB)
      clear hB
      go_wp2_with fail
      refine (implBuildIn_any s c _ ws wc (HE.out.below B5.out)).mono ?_
      rintro e w6 ⟨v, blv, rfl, hV, hB⟩
      obtain ⟨Ah, ch, bh, rfl, hh⟩ := KR.of hV HL.out
      have B6 := Lib.hid (B5.out.trans (hB.mono B5.out.size))
      have W6 := Lib.hid (W5.out.next hB)
      have G6 := Lib.hid (G5.out.next hB)
      have H6 := Lib.hid hh
      clear hB hV hh
      go_wp2_with fail
      refine (eqKR H6.out W6.out).mono ?_
      rintro e w7 ⟨rfl, hB⟩
      have B7 := Lib.hid (B6.out.trans (hB.mono B6.out.size))
      have G7 := Lib.hid (G6.out.next hB)
      clear hB
      go_wp2_with fail
      refine (heldKR G7.out HCC.out).mono ?_
      rintro e w8 ⟨rfl, hB⟩
      have B8 := Lib.hid (B7.out.trans (hB.mono B7.out.size))
      clear hB
      go_wp2_with fail
      go_ret
      exact ⟨rfl, B8.out⟩
    · have hc' : (c.size : Int) > 1048576 := by omega
      go_enter Tryz.func8, Tryz.ntmps8
      go_wp2
      go_ret
      exact ⟨rfl, Below.refl _ _⟩
  · have hs' : (s.size : Int) > 1048576 := by omega
    go_enter Tryz.func8, Tryz.ntmps8
    go_wp2
    go_ret
    exact ⟨rfl, Below.refl _ _⟩
end Go.Proofs.YtpennadfomnenaaGreatDoor
