import Derived.Test.YthdkkpbhijlpaaaGreatS15
import Derived.Test.YthdkkpbhijlpaaaGreatS07
set_option linter.unusedVariables false
namespace Go.Proofs.YthdkkpbhijlpaaaGreat
open Go.ChangeShapes Go.WideShapes Go.ChangeAt Go.RowKit Go.Deep Go.Maps

theorem data_short {an : ByteArray} (h : ¬ 5 < an.size) : dataB an = false := by
  unfold dataB preB
  by_cases h5 : 5 ≤ an.size
  · have e5 : an.size = 5 := by omega
    have e : (an.extract 0 5).toList = an.toList := by
      have e : an.extract 0 5 = an := by
        have h0 := ByteArray.extract_zero_size (b := an)
        rwa [e5] at h0
      rw [e]
    rw [e]
    cases an.toList == [100, 97, 116, 97, 45] <;> simp
  · simp [h5]
theorem data_parts {an : ByteArray} (h : dataB an = true) : 5 < an.size ∧ ((an.extract 0 5).toList == [100, 97, 116, 97, 45]) = true := by
  by_cases h5 : 5 < an.size
  · refine ⟨h5, ?_⟩
    unfold dataB preB at h
    simp only [Bool.and_eq_true] at h
    exact h.1.2
  · rw [data_short h5] at h; cases h
theorem data_no {an : ByteArray} {d : Bool} (h : (d && dataB an) = false) : d = false ∨ (d = true ∧ ¬ 5 < an.size) ∨ (d = true ∧ 5 < an.size ∧ ((an.extract 0 5).toList == [100, 97, 116, 97, 45]) = false) := by
  cases d with
  | false => exact Or.inl rfl
  | true =>
    by_cases h5 : 5 < an.size
    · refine Or.inr (Or.inr ⟨rfl, h5, ?_⟩)
      cases hp : (an.extract 0 5).toList == [100, 97, 116, 97, 45] with
      | false => rfl
      | true =>
        rw [Bool.true_and, dataB, preB, hp, decide_eq_true (by omega : 5 ≤ an.size)] at h
        have h2 : (an.toList == [100, 97, 116, 97, 45]) = false := beq_long' (by simpa using h5)
        rw [h2] at h; cases h
    · exact Or.inr (Or.inl ⟨rfl, h5⟩)
set_option maxHeartbeats 8000000 in
theorem l07Attr_any (X : Cf) (V : CfV) (sp : Int) (n an av : ByteArray) (w : World) (h3 : an.size ≤ 65536) (h4 : av.size ≤ 65536) (h : CfIn w X V) :
    Calls Tryz.prog 170 #[.agg #[.bool X.ha, .bool X.hb, .slice V.a1 X.al.length V.c1, .slice V.a2 X.rm.length V.c2, .slice V.a3 X.uw.length V.c3, .slice V.a4 X.at_.length V.c4, .slice V.a5 X.dp.length V.c5, .bool X.cm, .bool X.da], .int .i64 sp, .string n, .agg #[.string an, .string av]] w fun e w' => e = .returned (.bool (attA X sp n an av)) ∧ Below w.heap.size w w' := by
  have HX := Lib.hid (AttBox.new h 35 121 an av)
  have HN : Hid (an.size ≤ 65536 ∧ av.size ≤ maxLen ∧ av.size ≤ 65536) := Lib.hid ⟨h3, by unfold maxLen; omega, h4⟩
  obtain ⟨p0, p1, p2, p3, p4, p5, p6, p7, p8⟩ := lay9 HX.out.1.1
  obtain ⟨s0, s1⟩ := lay2u HX.out.2.1
  clear h h4
  cases hq : handlerB an with
  | true =>
    have HQ := Lib.hid hq
    have HM : Hid (attA X sp n an av = false) := Lib.hid (attA_no (by rw [harmB, hq]; rfl))
    clear hq
    go_enter Tryz.func170, Tryz.ntmps170
    go_wp2_with fail
    refine (l01Handler_any an _ HN.out.1).mono ?_
    rintro e w1 ⟨rfl, rfl⟩
    rw [HQ.out]
    go_wp2
    all_goals (go_ret; exact ⟨by rw [HM.out]; try rfl, HX.out.1.2.2.1⟩)
  | false =>
    have HQ := Lib.hid hq
    cases hz : inL linkL an with
    | false =>
      have HZ := Lib.hid hz
      have HH : Hid (harmB an av = false) := Lib.hid (by rw [harmB, hq, hz]; rfl)
      clear hq hz
      cases hd : hasM X.dp an with
      | true =>
        have HD := Lib.hid hd
        have HM : Hid (attA X sp n an av = false) := Lib.hid (attA_drop hd)
        clear hd
        go_enter Tryz.func170, Tryz.ntmps170
        go_wp2_with fail
        refine (l01Handler_any an _ HN.out.1).mono ?_
        rintro e w1 ⟨rfl, rfl⟩
        rw [HQ.out]
        go_wp2_with fail
        refine (l01Link_any an _).mono ?_
        rintro e w1 ⟨rfl, hB⟩
        rw [HZ.out]
        have HX := Lib.hid (HX.out.next hB)
        clear hB p0 p1 p2 p3 p4 p5 p6 p7 p8 s0 s1
        obtain ⟨p0, p1, p2, p3, p4, p5, p6, p7, p8⟩ := lay9 HX.out.1.1
        obtain ⟨s0, s1⟩ := lay2u HX.out.2.1
        go_wp2_with fail
        refine (l01HasM_any X.dp an _ V.a5 _ V.c5 rfl HX.out.1.2.1.dp).mono ?_
        rintro e w1 ⟨rfl, rfl⟩
        rw [HD.out]
        go_wp2
        all_goals (go_ret; exact ⟨by rw [HM.out]; try rfl, HX.out.1.2.2.1⟩)
      | false =>
        have HD := Lib.hid hd
        have HM := Lib.hid (attA_go (X := X) (sp := sp) (n := n) HH.out hd)
        clear hd
        have hbs : X.hb = false ∨ X.hb = true := by cases X.hb <;> simp
        rcases hbs with hb | hb
        · have HHB := Lib.hid hb
          clear hb
          go_enter Tryz.func170, Tryz.ntmps170
          go_wp2_with fail
          refine (l01Handler_any an _ HN.out.1).mono ?_
          rintro e w1 ⟨rfl, rfl⟩
          rw [HQ.out]
          go_wp2_with fail
          refine (l01Link_any an _).mono ?_
          rintro e w1 ⟨rfl, hB⟩
          rw [HZ.out]
          have HX := Lib.hid (HX.out.next hB)
          clear hB p0 p1 p2 p3 p4 p5 p6 p7 p8 s0 s1
          obtain ⟨p0, p1, p2, p3, p4, p5, p6, p7, p8⟩ := lay9 HX.out.1.1
          obtain ⟨s0, s1⟩ := lay2u HX.out.2.1
          go_wp2_with fail
          refine (l01HasM_any X.dp an _ V.a5 _ V.c5 rfl HX.out.1.2.1.dp).mono ?_
          rintro e w1 ⟨rfl, rfl⟩
          rw [HD.out]
          rw [HHB.out] at p1
          go_wp2
          go_ret
          exact ⟨ret_bool (by rw [HM.out]; simp [HHB.out]), HX.out.1.2.2.1⟩
        · have HHB := Lib.hid hb
          clear hb
          cases hat : hasM X.at_ an with
          | true =>
            have HAT := Lib.hid hat
            clear hat
            go_enter Tryz.func170, Tryz.ntmps170
            go_wp2_with fail
            refine (l01Handler_any an _ HN.out.1).mono ?_
            rintro e w1 ⟨rfl, rfl⟩
            rw [HQ.out]
            go_wp2_with fail
            refine (l01Link_any an _).mono ?_
            rintro e w1 ⟨rfl, hB⟩
            rw [HZ.out]
            have HX := Lib.hid (HX.out.next hB)
            clear hB p0 p1 p2 p3 p4 p5 p6 p7 p8 s0 s1
            obtain ⟨p0, p1, p2, p3, p4, p5, p6, p7, p8⟩ := lay9 HX.out.1.1
            obtain ⟨s0, s1⟩ := lay2u HX.out.2.1
            go_wp2_with fail
            refine (l01HasM_any X.dp an _ V.a5 _ V.c5 rfl HX.out.1.2.1.dp).mono ?_
            rintro e w1 ⟨rfl, rfl⟩
            rw [HD.out]
            rw [HHB.out] at p1
            go_wp2_with fail
            refine (l01HasM_any X.at_ an _ V.a4 _ V.c4 rfl HX.out.1.2.1.at_).mono ?_
            rintro e w1 ⟨rfl, rfl⟩
            rw [HAT.out]
            go_wp2
            go_ret
            exact ⟨ret_bool (by rw [HM.out]; simp [HAT.out]), HX.out.1.2.2.1⟩
          | false =>
            have HAT := Lib.hid hat
            clear hat
            have hds : (X.da && dataB an) = true ∨ (X.da && dataB an) = false := by cases (X.da && dataB an) <;> simp
            rcases hds with hdd | hdd
            · obtain ⟨e1, e2⟩ := Bool.and_eq_true_iff.1 hdd
              have HDD := Lib.hid hdd
              have HDA := Lib.hid (And.intro e1 (data_parts e2))
              clear hdd e1 e2
              go_enter Tryz.func170, Tryz.ntmps170
              go_wp2_with fail
              refine (l01Handler_any an _ HN.out.1).mono ?_
              rintro e w1 ⟨rfl, rfl⟩
              rw [HQ.out]
              go_wp2_with fail
              refine (l01Link_any an _).mono ?_
              rintro e w1 ⟨rfl, hB⟩
              rw [HZ.out]
              have HX := Lib.hid (HX.out.next hB)
              clear hB p0 p1 p2 p3 p4 p5 p6 p7 p8 s0 s1
              obtain ⟨p0, p1, p2, p3, p4, p5, p6, p7, p8⟩ := lay9 HX.out.1.1
              obtain ⟨s0, s1⟩ := lay2u HX.out.2.1
              go_wp2_with fail
              refine (l01HasM_any X.dp an _ V.a5 _ V.c5 rfl HX.out.1.2.1.dp).mono ?_
              rintro e w1 ⟨rfl, rfl⟩
              rw [HD.out]
              rw [HHB.out] at p1
              go_wp2_with fail
              refine (l01HasM_any X.at_ an _ V.a4 _ V.c4 rfl HX.out.1.2.1.at_).mono ?_
              rintro e w1 ⟨rfl, rfl⟩
              rw [HAT.out]
              rw [HDA.out.1] at p8
              have hz5 := HDA.out.2.1
              have hp5 := HDA.out.2.2
              go_wp2
              all_goals (go_ret; exact ⟨ret_bool (by rw [HM.out, HDD.out]; simp), HX.out.1.2.2.1⟩)
            · have HDD := Lib.hid hdd
              by_cases hr : 0 ≤ ruAt X.al sp n
              · obtain ⟨kk, hkk⟩ : ∃ kk : Nat, ruAt X.al sp n = (kk : Int) := ⟨(ruAt X.al sp n).toNat, by omega⟩
                obtain ⟨hlt, hao⟩ := attrsOf_at hkk
                have HK := Lib.hid (And.intro hkk hao)
                have HLT := Lib.hid hlt
                clear hr hkk hao
                rcases data_no hdd with hda | ⟨hda, hd5⟩ | ⟨hda, hd5, hdp⟩
                · have HDA := Lib.hid hda
                  clear hdd hda
                  go_enter Tryz.func170, Tryz.ntmps170
                  go_wp2_with fail
                  refine (l01Handler_any an _ HN.out.1).mono ?_
                  rintro e w1 ⟨rfl, rfl⟩
                  rw [HQ.out]
                  go_wp2_with fail
                  refine (l01Link_any an _).mono ?_
                  rintro e w1 ⟨rfl, hB⟩
                  rw [HZ.out]
                  have HX := Lib.hid (HX.out.next hB)
                  clear hB p0 p1 p2 p3 p4 p5 p6 p7 p8 s0 s1
                  obtain ⟨p0, p1, p2, p3, p4, p5, p6, p7, p8⟩ := lay9 HX.out.1.1
                  obtain ⟨s0, s1⟩ := lay2u HX.out.2.1
                  go_wp2_with fail
                  refine (l01HasM_any X.dp an _ V.a5 _ V.c5 rfl HX.out.1.2.1.dp).mono ?_
                  rintro e w1 ⟨rfl, rfl⟩
                  rw [HD.out]
                  rw [HHB.out] at p1
                  go_wp2_with fail
                  refine (l01HasM_any X.at_ an _ V.a4 _ V.c4 rfl HX.out.1.2.1.at_).mono ?_
                  rintro e w1 ⟨rfl, rfl⟩
                  rw [HAT.out]
                  rw [HDA.out] at p8
                  go_wp2_with fail
                  refine (l07At_any X.al sp n _ V.a1 V.c1 HX.out.1.2.1.al).mono ?_
                  rintro e w1 ⟨rfl, rfl⟩
                  rw [HK.out.1]
                  go_wp2_with fail
                  have HD2 := Lib.hid (HX.out.next (Below.refl _ _).drew)
                  obtain ⟨gb, ob, hga, hgb, t1, t2, t3, B, cc, t4, t6, t5⟩ := HD2.out.1.2.1.al.get HLT.out
                  have hltn := HLT.out
                  have HNM := Lib.hid t5
                  have hS : (fun w' => w'.cell? ⟨w.heap.size, 2, none⟩ = some (.slice (some ⟨gb, ob, none⟩) X.al.length V.c1) ∧ w'.cell? ⟨gb, ob + kk * 3 + 2, none⟩ = some (.slice B X.al[kk].2.2.length cc) ∧ w'.cell? ⟨w.heap.size + 1, 0, none⟩ = some (.string an)) w1.drew := ⟨by have := (lay9 HD2.out.1.1).2.2.1; rw [hga] at this; exact this, t4, (lay2u HD2.out.2.1).1⟩
                  clear t5 hga t1 t2 t3 t6 p0 p1 p2 p3 p4 p5 p6 p7 p8 s0 s1
                  refine wp_region_held_drew (S := fun w' => w'.cell? ⟨w.heap.size, 2, none⟩ = some (.slice (some ⟨gb, ob, none⟩) X.al.length V.c1) ∧ w'.cell? ⟨gb, ob + kk * 3 + 2, none⟩ = some (.slice B X.al[kk].2.2.length cc) ∧ w'.cell? ⟨w.heap.size + 1, 0, none⟩ = some (.string an)) (by kernel_rfl) hS (fun hHeld => ?_)
                  refine wpAnyH_take (i := 0) (v := .int .i64 (kk : Int)) rfl (by kernel_rfl) (by kernel_rfl) (by kernel_rfl) (fun _ _ _ h => h) (Or.inl ⟨by rfl, fun w hSw => by (try dsimp only at hSw); go_simp⟩) (by assumption) ?_; (try simp only [Act.put, List.setIfInBounds_toArray, List.set_cons_zero, List.set_cons_succ, List.getElem_toArray, List.getElem_cons_zero])
                  refine wpAnyH_take (i := 1) (v := .bool true) rfl (by kernel_rfl) (by kernel_rfl) (by kernel_rfl) (fun _ _ _ h => h) (Or.inl ⟨by rfl, fun w hSw => by (try dsimp only at hSw); go_simp⟩) (by assumption) ?_; (try simp only [Act.put, List.setIfInBounds_toArray, List.set_cons_zero, List.set_cons_succ, List.getElem_toArray, List.getElem_cons_zero, List.getElem_cons_succ])
                  refine wpAnyH_take (i := 2) (v := .bool true) rfl (by kernel_rfl) (by kernel_rfl) (by kernel_rfl) (fun _ _ _ h => h) (Or.inl ⟨by rfl, fun w hSw => by (try dsimp only at hSw); go_simp⟩) (by assumption) ?_; (try simp only [Act.put, List.setIfInBounds_toArray, List.set_cons_zero, List.set_cons_succ, List.getElem_toArray, List.getElem_cons_zero, List.getElem_cons_succ])
                  refine wpAnyH_take (i := 3) (v := .pointer (some ⟨w.heap.size, 2, none⟩)) rfl (by kernel_rfl) (by kernel_rfl) (by kernel_rfl) (fun _ _ _ h => h) (Or.inl ⟨by rfl, fun w hSw => by (try dsimp only at hSw); go_simp⟩) (by assumption) ?_; (try simp only [Act.put, List.setIfInBounds_toArray, List.set_cons_zero, List.set_cons_succ, List.getElem_toArray, List.getElem_cons_zero, List.getElem_cons_succ])
                  refine wpAnyH_take (i := 4) (v := .slice (some ⟨gb, ob, none⟩) X.al.length V.c1) rfl (by kernel_rfl) (by kernel_rfl) (by kernel_rfl) (fun _ _ _ h => h) (Or.inl ⟨by rfl, fun w hSw => by (try dsimp only at hSw); go_simp⟩) (by assumption) ?_; (try simp only [Act.put, List.setIfInBounds_toArray, List.set_cons_zero, List.set_cons_succ, List.getElem_toArray, List.getElem_cons_zero, List.getElem_cons_succ])
                  refine wpAnyH_take (i := 5) (v := .int .i64 (kk : Int)) rfl (by kernel_rfl) (by kernel_rfl) (by kernel_rfl) (fun _ _ _ h => h) (Or.inl ⟨by rfl, fun w hSw => by (try dsimp only at hSw); go_simp⟩) (by assumption) ?_; (try simp only [Act.put, List.setIfInBounds_toArray, List.set_cons_zero, List.set_cons_succ, List.getElem_toArray, List.getElem_cons_zero, List.getElem_cons_succ])
                  refine wpAnyH_take (i := 6) (v := .pointer (some ⟨gb, ob + kk * 3, none⟩)) rfl (by kernel_rfl) (by kernel_rfl) (by kernel_rfl) (fun _ _ _ h => h) (Or.inl ⟨by rfl, fun w hSw => by (try dsimp only at hSw); go_simp⟩) (by assumption) ?_; (try simp only [Act.put, List.setIfInBounds_toArray, List.set_cons_zero, List.set_cons_succ, List.getElem_toArray, List.getElem_cons_zero, List.getElem_cons_succ])
                  refine wpAnyH_take (i := 7) (v := .pointer (some ⟨gb, ob + kk * 3 + 2, none⟩)) rfl (by kernel_rfl) (by kernel_rfl) (by kernel_rfl) (fun _ _ _ h => h) (Or.inl ⟨by rfl, fun w hSw => by (try dsimp only at hSw); go_simp⟩) (by assumption) ?_; (try simp only [Act.put, List.setIfInBounds_toArray, List.set_cons_zero, List.set_cons_succ, List.getElem_toArray, List.getElem_cons_zero, List.getElem_cons_succ])
                  refine wpAnyH_take (i := 8) (v := .slice B X.al[kk].2.2.length cc) rfl (by kernel_rfl) (by kernel_rfl) (by kernel_rfl) (fun _ _ _ h => h) (Or.inl ⟨by rfl, fun w hSw => by (try dsimp only at hSw); go_simp⟩) (by assumption) ?_; (try simp only [Act.put, List.setIfInBounds_toArray, List.set_cons_zero, List.set_cons_succ, List.getElem_toArray, List.getElem_cons_zero, List.getElem_cons_succ])
                  refine wpAnyH_take (i := 9) (v := .pointer (some ⟨w.heap.size + 1, 0, none⟩)) rfl (by kernel_rfl) (by kernel_rfl) (by kernel_rfl) (fun _ _ _ h => h) (Or.inl ⟨by rfl, fun w hSw => by (try dsimp only at hSw); go_simp⟩) (by assumption) ?_; (try simp only [Act.put, List.setIfInBounds_toArray, List.set_cons_zero, List.set_cons_succ, List.getElem_toArray, List.getElem_cons_zero, List.getElem_cons_succ])
                  refine wpAnyH_take (i := 10) (v := .string an) rfl (by kernel_rfl) (by kernel_rfl) (by kernel_rfl) (fun _ _ _ h => h) (Or.inl ⟨by rfl, fun w hSw => by (try dsimp only at hSw); go_simp⟩) (by assumption) ?_; (try simp only [Act.put, List.setIfInBounds_toArray, List.set_cons_zero, List.set_cons_succ, List.getElem_toArray, List.getElem_cons_zero, List.getElem_cons_succ])
                  refine wpAnyH_ready (rs := [11]) (by kernel_rfl) (by simp) ?_; refine AllReadyH.cons rfl (fun K hK => ?_) AllReadyH.nil; go_simp; ((go_at_call 117; refine (l01HasM_any X.al[kk].2.2 an _ B _ cc rfl HNM.out).mono ?_; rintro e w9 ⟨rfl, rfl⟩)); (try go_wp2_with fail); refine hK.out _ _ hS (fun hHeld => ?_); clear hK K; (try simp only [Act.put, List.setIfInBounds_toArray, List.set_cons_zero, List.set_cons_succ, List.getElem_toArray, List.getElem_cons_zero, List.getElem_cons_succ])
                  refine wpAnyH_take (i := 12) (v := .bool (hasM X.al[kk].2.2 an)) rfl (by kernel_rfl) (by kernel_rfl) (by kernel_rfl) (fun _ _ _ h => h) (Or.inl ⟨by rfl, fun w hSw => by (try dsimp only at hSw); go_simp⟩) (by assumption) ?_; (try simp only [Act.put, List.setIfInBounds_toArray, List.set_cons_zero, List.set_cons_succ, List.getElem_toArray, List.getElem_cons_zero, List.getElem_cons_succ])
                  refine wpAnyH_take (i := 13) (v := .bool (hasM X.al[kk].2.2 an)) rfl (by kernel_rfl) (by kernel_rfl) (by kernel_rfl) (fun _ _ _ h => h) (Or.inl ⟨by rfl, fun w hSw => by (try dsimp only at hSw); go_simp⟩) (by assumption) ?_; (try simp only [Act.put, List.setIfInBounds_toArray, List.set_cons_zero, List.set_cons_succ, List.getElem_toArray, List.getElem_cons_zero, List.getElem_cons_succ])
                  refine wpAnyH_done (by kernel_rfl) ?_ _
                  go_wp2
                  go_ret
                  exact ⟨ret_bool (by rw [HM.out, HAT.out, HDD.out, HK.out.2, HHB.out]; simp), HD2.out.1.2.2.1⟩
                · have HDA := Lib.hid hda
                  have HD5 := Lib.hid hd5
                  clear hdd hda hd5
                  go_enter Tryz.func170, Tryz.ntmps170
                  go_wp2_with fail
                  refine (l01Handler_any an _ HN.out.1).mono ?_
                  rintro e w1 ⟨rfl, rfl⟩
                  rw [HQ.out]
                  go_wp2_with fail
                  refine (l01Link_any an _).mono ?_
                  rintro e w1 ⟨rfl, hB⟩
                  rw [HZ.out]
                  have HX := Lib.hid (HX.out.next hB)
                  clear hB p0 p1 p2 p3 p4 p5 p6 p7 p8 s0 s1
                  obtain ⟨p0, p1, p2, p3, p4, p5, p6, p7, p8⟩ := lay9 HX.out.1.1
                  obtain ⟨s0, s1⟩ := lay2u HX.out.2.1
                  go_wp2_with fail
                  refine (l01HasM_any X.dp an _ V.a5 _ V.c5 rfl HX.out.1.2.1.dp).mono ?_
                  rintro e w1 ⟨rfl, rfl⟩
                  rw [HD.out]
                  rw [HHB.out] at p1
                  go_wp2_with fail
                  refine (l01HasM_any X.at_ an _ V.a4 _ V.c4 rfl HX.out.1.2.1.at_).mono ?_
                  rintro e w1 ⟨rfl, rfl⟩
                  rw [HAT.out]
                  rw [HDA.out] at p8
                  have hz5 := HD5.out
                  go_wp2_with fail
                  refine (l07At_any X.al sp n _ V.a1 V.c1 HX.out.1.2.1.al).mono ?_
                  rintro e w1 ⟨rfl, rfl⟩
                  rw [HK.out.1]
                  go_wp2_with fail
                  have HD2 := Lib.hid (HX.out.next (Below.refl _ _).drew)
                  obtain ⟨gb, ob, hga, hgb, t1, t2, t3, B, cc, t4, t6, t5⟩ := HD2.out.1.2.1.al.get HLT.out
                  have hltn := HLT.out
                  have HNM := Lib.hid t5
                  have hS : (fun w' => w'.cell? ⟨w.heap.size, 2, none⟩ = some (.slice (some ⟨gb, ob, none⟩) X.al.length V.c1) ∧ w'.cell? ⟨gb, ob + kk * 3 + 2, none⟩ = some (.slice B X.al[kk].2.2.length cc) ∧ w'.cell? ⟨w.heap.size + 1, 0, none⟩ = some (.string an)) w1.drew := ⟨by have := (lay9 HD2.out.1.1).2.2.1; rw [hga] at this; exact this, t4, (lay2u HD2.out.2.1).1⟩
                  clear t5 hga t1 t2 t3 t6 p0 p1 p2 p3 p4 p5 p6 p7 p8 s0 s1
                  refine wp_region_held_drew (S := fun w' => w'.cell? ⟨w.heap.size, 2, none⟩ = some (.slice (some ⟨gb, ob, none⟩) X.al.length V.c1) ∧ w'.cell? ⟨gb, ob + kk * 3 + 2, none⟩ = some (.slice B X.al[kk].2.2.length cc) ∧ w'.cell? ⟨w.heap.size + 1, 0, none⟩ = some (.string an)) (by kernel_rfl) hS (fun hHeld => ?_)
                  refine wpAnyH_take (i := 0) (v := .int .i64 (kk : Int)) rfl (by kernel_rfl) (by kernel_rfl) (by kernel_rfl) (fun _ _ _ h => h) (Or.inl ⟨by rfl, fun w hSw => by (try dsimp only at hSw); go_simp⟩) (by assumption) ?_; (try simp only [Act.put, List.setIfInBounds_toArray, List.set_cons_zero, List.set_cons_succ, List.getElem_toArray, List.getElem_cons_zero])
                  refine wpAnyH_take (i := 1) (v := .bool true) rfl (by kernel_rfl) (by kernel_rfl) (by kernel_rfl) (fun _ _ _ h => h) (Or.inl ⟨by rfl, fun w hSw => by (try dsimp only at hSw); go_simp⟩) (by assumption) ?_; (try simp only [Act.put, List.setIfInBounds_toArray, List.set_cons_zero, List.set_cons_succ, List.getElem_toArray, List.getElem_cons_zero, List.getElem_cons_succ])
                  refine wpAnyH_take (i := 2) (v := .bool true) rfl (by kernel_rfl) (by kernel_rfl) (by kernel_rfl) (fun _ _ _ h => h) (Or.inl ⟨by rfl, fun w hSw => by (try dsimp only at hSw); go_simp⟩) (by assumption) ?_; (try simp only [Act.put, List.setIfInBounds_toArray, List.set_cons_zero, List.set_cons_succ, List.getElem_toArray, List.getElem_cons_zero, List.getElem_cons_succ])
                  refine wpAnyH_take (i := 3) (v := .pointer (some ⟨w.heap.size, 2, none⟩)) rfl (by kernel_rfl) (by kernel_rfl) (by kernel_rfl) (fun _ _ _ h => h) (Or.inl ⟨by rfl, fun w hSw => by (try dsimp only at hSw); go_simp⟩) (by assumption) ?_; (try simp only [Act.put, List.setIfInBounds_toArray, List.set_cons_zero, List.set_cons_succ, List.getElem_toArray, List.getElem_cons_zero, List.getElem_cons_succ])
                  refine wpAnyH_take (i := 4) (v := .slice (some ⟨gb, ob, none⟩) X.al.length V.c1) rfl (by kernel_rfl) (by kernel_rfl) (by kernel_rfl) (fun _ _ _ h => h) (Or.inl ⟨by rfl, fun w hSw => by (try dsimp only at hSw); go_simp⟩) (by assumption) ?_; (try simp only [Act.put, List.setIfInBounds_toArray, List.set_cons_zero, List.set_cons_succ, List.getElem_toArray, List.getElem_cons_zero, List.getElem_cons_succ])
                  refine wpAnyH_take (i := 5) (v := .int .i64 (kk : Int)) rfl (by kernel_rfl) (by kernel_rfl) (by kernel_rfl) (fun _ _ _ h => h) (Or.inl ⟨by rfl, fun w hSw => by (try dsimp only at hSw); go_simp⟩) (by assumption) ?_; (try simp only [Act.put, List.setIfInBounds_toArray, List.set_cons_zero, List.set_cons_succ, List.getElem_toArray, List.getElem_cons_zero, List.getElem_cons_succ])
                  refine wpAnyH_take (i := 6) (v := .pointer (some ⟨gb, ob + kk * 3, none⟩)) rfl (by kernel_rfl) (by kernel_rfl) (by kernel_rfl) (fun _ _ _ h => h) (Or.inl ⟨by rfl, fun w hSw => by (try dsimp only at hSw); go_simp⟩) (by assumption) ?_; (try simp only [Act.put, List.setIfInBounds_toArray, List.set_cons_zero, List.set_cons_succ, List.getElem_toArray, List.getElem_cons_zero, List.getElem_cons_succ])
                  refine wpAnyH_take (i := 7) (v := .pointer (some ⟨gb, ob + kk * 3 + 2, none⟩)) rfl (by kernel_rfl) (by kernel_rfl) (by kernel_rfl) (fun _ _ _ h => h) (Or.inl ⟨by rfl, fun w hSw => by (try dsimp only at hSw); go_simp⟩) (by assumption) ?_; (try simp only [Act.put, List.setIfInBounds_toArray, List.set_cons_zero, List.set_cons_succ, List.getElem_toArray, List.getElem_cons_zero, List.getElem_cons_succ])
                  refine wpAnyH_take (i := 8) (v := .slice B X.al[kk].2.2.length cc) rfl (by kernel_rfl) (by kernel_rfl) (by kernel_rfl) (fun _ _ _ h => h) (Or.inl ⟨by rfl, fun w hSw => by (try dsimp only at hSw); go_simp⟩) (by assumption) ?_; (try simp only [Act.put, List.setIfInBounds_toArray, List.set_cons_zero, List.set_cons_succ, List.getElem_toArray, List.getElem_cons_zero, List.getElem_cons_succ])
                  refine wpAnyH_take (i := 9) (v := .pointer (some ⟨w.heap.size + 1, 0, none⟩)) rfl (by kernel_rfl) (by kernel_rfl) (by kernel_rfl) (fun _ _ _ h => h) (Or.inl ⟨by rfl, fun w hSw => by (try dsimp only at hSw); go_simp⟩) (by assumption) ?_; (try simp only [Act.put, List.setIfInBounds_toArray, List.set_cons_zero, List.set_cons_succ, List.getElem_toArray, List.getElem_cons_zero, List.getElem_cons_succ])
                  refine wpAnyH_take (i := 10) (v := .string an) rfl (by kernel_rfl) (by kernel_rfl) (by kernel_rfl) (fun _ _ _ h => h) (Or.inl ⟨by rfl, fun w hSw => by (try dsimp only at hSw); go_simp⟩) (by assumption) ?_; (try simp only [Act.put, List.setIfInBounds_toArray, List.set_cons_zero, List.set_cons_succ, List.getElem_toArray, List.getElem_cons_zero, List.getElem_cons_succ])
                  refine wpAnyH_ready (rs := [11]) (by kernel_rfl) (by simp) ?_; refine AllReadyH.cons rfl (fun K hK => ?_) AllReadyH.nil; go_simp; ((go_at_call 117; refine (l01HasM_any X.al[kk].2.2 an _ B _ cc rfl HNM.out).mono ?_; rintro e w9 ⟨rfl, rfl⟩)); (try go_wp2_with fail); refine hK.out _ _ hS (fun hHeld => ?_); clear hK K; (try simp only [Act.put, List.setIfInBounds_toArray, List.set_cons_zero, List.set_cons_succ, List.getElem_toArray, List.getElem_cons_zero, List.getElem_cons_succ])
                  refine wpAnyH_take (i := 12) (v := .bool (hasM X.al[kk].2.2 an)) rfl (by kernel_rfl) (by kernel_rfl) (by kernel_rfl) (fun _ _ _ h => h) (Or.inl ⟨by rfl, fun w hSw => by (try dsimp only at hSw); go_simp⟩) (by assumption) ?_; (try simp only [Act.put, List.setIfInBounds_toArray, List.set_cons_zero, List.set_cons_succ, List.getElem_toArray, List.getElem_cons_zero, List.getElem_cons_succ])
                  refine wpAnyH_take (i := 13) (v := .bool (hasM X.al[kk].2.2 an)) rfl (by kernel_rfl) (by kernel_rfl) (by kernel_rfl) (fun _ _ _ h => h) (Or.inl ⟨by rfl, fun w hSw => by (try dsimp only at hSw); go_simp⟩) (by assumption) ?_; (try simp only [Act.put, List.setIfInBounds_toArray, List.set_cons_zero, List.set_cons_succ, List.getElem_toArray, List.getElem_cons_zero, List.getElem_cons_succ])
                  refine wpAnyH_done (by kernel_rfl) ?_ _
                  go_wp2
                  go_ret
                  exact ⟨ret_bool (by rw [HM.out, HAT.out, HDD.out, HK.out.2, HHB.out]; simp), HD2.out.1.2.2.1⟩
                · have HDA := Lib.hid hda
                  have HD5 := Lib.hid (And.intro hd5 hdp)
                  clear hdd hda hd5 hdp
                  go_enter Tryz.func170, Tryz.ntmps170
                  go_wp2_with fail
                  refine (l01Handler_any an _ HN.out.1).mono ?_
                  rintro e w1 ⟨rfl, rfl⟩
                  rw [HQ.out]
                  go_wp2_with fail
                  refine (l01Link_any an _).mono ?_
                  rintro e w1 ⟨rfl, hB⟩
                  rw [HZ.out]
                  have HX := Lib.hid (HX.out.next hB)
                  clear hB p0 p1 p2 p3 p4 p5 p6 p7 p8 s0 s1
                  obtain ⟨p0, p1, p2, p3, p4, p5, p6, p7, p8⟩ := lay9 HX.out.1.1
                  obtain ⟨s0, s1⟩ := lay2u HX.out.2.1
                  go_wp2_with fail
                  refine (l01HasM_any X.dp an _ V.a5 _ V.c5 rfl HX.out.1.2.1.dp).mono ?_
                  rintro e w1 ⟨rfl, rfl⟩
                  rw [HD.out]
                  rw [HHB.out] at p1
                  go_wp2_with fail
                  refine (l01HasM_any X.at_ an _ V.a4 _ V.c4 rfl HX.out.1.2.1.at_).mono ?_
                  rintro e w1 ⟨rfl, rfl⟩
                  rw [HAT.out]
                  rw [HDA.out] at p8
                  have hz5 := HD5.out.1
                  have hp5 := HD5.out.2
                  go_wp2_with fail
                  refine (l07At_any X.al sp n _ V.a1 V.c1 HX.out.1.2.1.al).mono ?_
                  rintro e w1 ⟨rfl, rfl⟩
                  rw [HK.out.1]
                  go_wp2_with fail
                  have HD2 := Lib.hid (HX.out.next (Below.refl _ _).drew)
                  obtain ⟨gb, ob, hga, hgb, t1, t2, t3, B, cc, t4, t6, t5⟩ := HD2.out.1.2.1.al.get HLT.out
                  have hltn := HLT.out
                  have HNM := Lib.hid t5
                  have hS : (fun w' => w'.cell? ⟨w.heap.size, 2, none⟩ = some (.slice (some ⟨gb, ob, none⟩) X.al.length V.c1) ∧ w'.cell? ⟨gb, ob + kk * 3 + 2, none⟩ = some (.slice B X.al[kk].2.2.length cc) ∧ w'.cell? ⟨w.heap.size + 1, 0, none⟩ = some (.string an)) w1.drew := ⟨by have := (lay9 HD2.out.1.1).2.2.1; rw [hga] at this; exact this, t4, (lay2u HD2.out.2.1).1⟩
                  clear t5 hga t1 t2 t3 t6 p0 p1 p2 p3 p4 p5 p6 p7 p8 s0 s1
                  refine wp_region_held_drew (S := fun w' => w'.cell? ⟨w.heap.size, 2, none⟩ = some (.slice (some ⟨gb, ob, none⟩) X.al.length V.c1) ∧ w'.cell? ⟨gb, ob + kk * 3 + 2, none⟩ = some (.slice B X.al[kk].2.2.length cc) ∧ w'.cell? ⟨w.heap.size + 1, 0, none⟩ = some (.string an)) (by kernel_rfl) hS (fun hHeld => ?_)
                  refine wpAnyH_take (i := 0) (v := .int .i64 (kk : Int)) rfl (by kernel_rfl) (by kernel_rfl) (by kernel_rfl) (fun _ _ _ h => h) (Or.inl ⟨by rfl, fun w hSw => by (try dsimp only at hSw); go_simp⟩) (by assumption) ?_; (try simp only [Act.put, List.setIfInBounds_toArray, List.set_cons_zero, List.set_cons_succ, List.getElem_toArray, List.getElem_cons_zero])
                  refine wpAnyH_take (i := 1) (v := .bool true) rfl (by kernel_rfl) (by kernel_rfl) (by kernel_rfl) (fun _ _ _ h => h) (Or.inl ⟨by rfl, fun w hSw => by (try dsimp only at hSw); go_simp⟩) (by assumption) ?_; (try simp only [Act.put, List.setIfInBounds_toArray, List.set_cons_zero, List.set_cons_succ, List.getElem_toArray, List.getElem_cons_zero, List.getElem_cons_succ])
                  refine wpAnyH_take (i := 2) (v := .bool true) rfl (by kernel_rfl) (by kernel_rfl) (by kernel_rfl) (fun _ _ _ h => h) (Or.inl ⟨by rfl, fun w hSw => by (try dsimp only at hSw); go_simp⟩) (by assumption) ?_; (try simp only [Act.put, List.setIfInBounds_toArray, List.set_cons_zero, List.set_cons_succ, List.getElem_toArray, List.getElem_cons_zero, List.getElem_cons_succ])
                  refine wpAnyH_take (i := 3) (v := .pointer (some ⟨w.heap.size, 2, none⟩)) rfl (by kernel_rfl) (by kernel_rfl) (by kernel_rfl) (fun _ _ _ h => h) (Or.inl ⟨by rfl, fun w hSw => by (try dsimp only at hSw); go_simp⟩) (by assumption) ?_; (try simp only [Act.put, List.setIfInBounds_toArray, List.set_cons_zero, List.set_cons_succ, List.getElem_toArray, List.getElem_cons_zero, List.getElem_cons_succ])
                  refine wpAnyH_take (i := 4) (v := .slice (some ⟨gb, ob, none⟩) X.al.length V.c1) rfl (by kernel_rfl) (by kernel_rfl) (by kernel_rfl) (fun _ _ _ h => h) (Or.inl ⟨by rfl, fun w hSw => by (try dsimp only at hSw); go_simp⟩) (by assumption) ?_; (try simp only [Act.put, List.setIfInBounds_toArray, List.set_cons_zero, List.set_cons_succ, List.getElem_toArray, List.getElem_cons_zero, List.getElem_cons_succ])
                  refine wpAnyH_take (i := 5) (v := .int .i64 (kk : Int)) rfl (by kernel_rfl) (by kernel_rfl) (by kernel_rfl) (fun _ _ _ h => h) (Or.inl ⟨by rfl, fun w hSw => by (try dsimp only at hSw); go_simp⟩) (by assumption) ?_; (try simp only [Act.put, List.setIfInBounds_toArray, List.set_cons_zero, List.set_cons_succ, List.getElem_toArray, List.getElem_cons_zero, List.getElem_cons_succ])
                  refine wpAnyH_take (i := 6) (v := .pointer (some ⟨gb, ob + kk * 3, none⟩)) rfl (by kernel_rfl) (by kernel_rfl) (by kernel_rfl) (fun _ _ _ h => h) (Or.inl ⟨by rfl, fun w hSw => by (try dsimp only at hSw); go_simp⟩) (by assumption) ?_; (try simp only [Act.put, List.setIfInBounds_toArray, List.set_cons_zero, List.set_cons_succ, List.getElem_toArray, List.getElem_cons_zero, List.getElem_cons_succ])
                  refine wpAnyH_take (i := 7) (v := .pointer (some ⟨gb, ob + kk * 3 + 2, none⟩)) rfl (by kernel_rfl) (by kernel_rfl) (by kernel_rfl) (fun _ _ _ h => h) (Or.inl ⟨by rfl, fun w hSw => by (try dsimp only at hSw); go_simp⟩) (by assumption) ?_; (try simp only [Act.put, List.setIfInBounds_toArray, List.set_cons_zero, List.set_cons_succ, List.getElem_toArray, List.getElem_cons_zero, List.getElem_cons_succ])
                  refine wpAnyH_take (i := 8) (v := .slice B X.al[kk].2.2.length cc) rfl (by kernel_rfl) (by kernel_rfl) (by kernel_rfl) (fun _ _ _ h => h) (Or.inl ⟨by rfl, fun w hSw => by (try dsimp only at hSw); go_simp⟩) (by assumption) ?_; (try simp only [Act.put, List.setIfInBounds_toArray, List.set_cons_zero, List.set_cons_succ, List.getElem_toArray, List.getElem_cons_zero, List.getElem_cons_succ])
                  refine wpAnyH_take (i := 9) (v := .pointer (some ⟨w.heap.size + 1, 0, none⟩)) rfl (by kernel_rfl) (by kernel_rfl) (by kernel_rfl) (fun _ _ _ h => h) (Or.inl ⟨by rfl, fun w hSw => by (try dsimp only at hSw); go_simp⟩) (by assumption) ?_; (try simp only [Act.put, List.setIfInBounds_toArray, List.set_cons_zero, List.set_cons_succ, List.getElem_toArray, List.getElem_cons_zero, List.getElem_cons_succ])
                  refine wpAnyH_take (i := 10) (v := .string an) rfl (by kernel_rfl) (by kernel_rfl) (by kernel_rfl) (fun _ _ _ h => h) (Or.inl ⟨by rfl, fun w hSw => by (try dsimp only at hSw); go_simp⟩) (by assumption) ?_; (try simp only [Act.put, List.setIfInBounds_toArray, List.set_cons_zero, List.set_cons_succ, List.getElem_toArray, List.getElem_cons_zero, List.getElem_cons_succ])
                  refine wpAnyH_ready (rs := [11]) (by kernel_rfl) (by simp) ?_; refine AllReadyH.cons rfl (fun K hK => ?_) AllReadyH.nil; go_simp; ((go_at_call 117; refine (l01HasM_any X.al[kk].2.2 an _ B _ cc rfl HNM.out).mono ?_; rintro e w9 ⟨rfl, rfl⟩)); (try go_wp2_with fail); refine hK.out _ _ hS (fun hHeld => ?_); clear hK K; (try simp only [Act.put, List.setIfInBounds_toArray, List.set_cons_zero, List.set_cons_succ, List.getElem_toArray, List.getElem_cons_zero, List.getElem_cons_succ])
                  refine wpAnyH_take (i := 12) (v := .bool (hasM X.al[kk].2.2 an)) rfl (by kernel_rfl) (by kernel_rfl) (by kernel_rfl) (fun _ _ _ h => h) (Or.inl ⟨by rfl, fun w hSw => by (try dsimp only at hSw); go_simp⟩) (by assumption) ?_; (try simp only [Act.put, List.setIfInBounds_toArray, List.set_cons_zero, List.set_cons_succ, List.getElem_toArray, List.getElem_cons_zero, List.getElem_cons_succ])
                  refine wpAnyH_take (i := 13) (v := .bool (hasM X.al[kk].2.2 an)) rfl (by kernel_rfl) (by kernel_rfl) (by kernel_rfl) (fun _ _ _ h => h) (Or.inl ⟨by rfl, fun w hSw => by (try dsimp only at hSw); go_simp⟩) (by assumption) ?_; (try simp only [Act.put, List.setIfInBounds_toArray, List.set_cons_zero, List.set_cons_succ, List.getElem_toArray, List.getElem_cons_zero, List.getElem_cons_succ])
                  refine wpAnyH_done (by kernel_rfl) ?_ _
                  go_wp2
                  go_ret
                  exact ⟨ret_bool (by rw [HM.out, HAT.out, HDD.out, HK.out.2, HHB.out]; simp), HD2.out.1.2.2.1⟩
              · have HK := Lib.hid (attrsOf_neg hr)
                obtain ⟨kk, hkk⟩ : ∃ kk : Int, ruAt X.al sp n = kk := ⟨_, rfl⟩
                rw [hkk] at hr
                have HKK := Lib.hid hkk
                clear hkk
                rcases data_no hdd with hda | ⟨hda, hd5⟩ | ⟨hda, hd5, hdp⟩
                · have HDA := Lib.hid hda
                  clear hdd hda
                  go_enter Tryz.func170, Tryz.ntmps170
                  go_wp2_with fail
                  refine (l01Handler_any an _ HN.out.1).mono ?_
                  rintro e w1 ⟨rfl, rfl⟩
                  rw [HQ.out]
                  go_wp2_with fail
                  refine (l01Link_any an _).mono ?_
                  rintro e w1 ⟨rfl, hB⟩
                  rw [HZ.out]
                  have HX := Lib.hid (HX.out.next hB)
                  clear hB p0 p1 p2 p3 p4 p5 p6 p7 p8 s0 s1
                  obtain ⟨p0, p1, p2, p3, p4, p5, p6, p7, p8⟩ := lay9 HX.out.1.1
                  obtain ⟨s0, s1⟩ := lay2u HX.out.2.1
                  go_wp2_with fail
                  refine (l01HasM_any X.dp an _ V.a5 _ V.c5 rfl HX.out.1.2.1.dp).mono ?_
                  rintro e w1 ⟨rfl, rfl⟩
                  rw [HD.out]
                  rw [HHB.out] at p1
                  go_wp2_with fail
                  refine (l01HasM_any X.at_ an _ V.a4 _ V.c4 rfl HX.out.1.2.1.at_).mono ?_
                  rintro e w1 ⟨rfl, rfl⟩
                  rw [HAT.out]
                  rw [HDA.out] at p8
                  go_wp2_with fail
                  refine (l07At_any X.al sp n _ V.a1 V.c1 HX.out.1.2.1.al).mono ?_
                  rintro e w1 ⟨rfl, rfl⟩
                  rw [HKK.out]
                  go_wp2_with fail
                  have HD2 := Lib.hid (HX.out.next (Below.refl _ _).drew)
                  clear p0 p1 p2 p3 p4 p5 p6 p7 p8 s0 s1
                  have hrn : decide (kk ≥ 0) = false := by simpa using hr
                  refine wp_region_held_drew (S := fun _ => True) (by kernel_rfl) trivial (fun hHeld => ?_)
                  refine wpAnyH_take (i := 0) (v := .int .i64 kk) rfl (by kernel_rfl) (by kernel_rfl) (by kernel_rfl) (fun _ _ _ h => h) (Or.inl ⟨by rfl, fun w hSw => by (try dsimp only at hSw); go_simp⟩) (by assumption) ?_; (try simp only [Act.put, List.setIfInBounds_toArray, List.set_cons_zero, List.set_cons_succ, List.getElem_toArray, List.getElem_cons_zero])
                  refine wpAnyH_take (i := 1) (v := .bool false) rfl (by kernel_rfl) (by kernel_rfl) (by kernel_rfl) (fun _ _ _ h => h) (Or.inl ⟨by rfl, fun w hSw => by (try dsimp only at hSw); go_simp⟩) (by assumption) ?_; (try simp only [Act.put, List.setIfInBounds_toArray, List.set_cons_zero, List.set_cons_succ, List.getElem_toArray, List.getElem_cons_zero, List.getElem_cons_succ])
                  refine wpAnyH_take (i := 2) (v := .bool false) rfl (by kernel_rfl) (by kernel_rfl) (by kernel_rfl) (fun _ _ _ h => h) (Or.inl ⟨by rfl, fun w hSw => by (try dsimp only at hSw); go_simp⟩) (by assumption) ?_; (try simp only [Act.put, List.setIfInBounds_toArray, List.set_cons_zero, List.set_cons_succ, List.getElem_toArray, List.getElem_cons_zero, List.getElem_cons_succ])
                  refine wpAnyH_take (i := 3) (v := undef) rfl (by kernel_rfl) (by kernel_rfl) (by kernel_rfl) (fun _ _ _ h => h) (Or.inr ⟨by rfl, rfl⟩) (by assumption) ?_; (try simp only [Act.put, List.setIfInBounds_toArray, List.set_cons_zero, List.set_cons_succ, List.getElem_toArray, List.getElem_cons_zero, List.getElem_cons_succ])
                  refine wpAnyH_take (i := 4) (v := undef) rfl (by kernel_rfl) (by kernel_rfl) (by kernel_rfl) (fun _ _ _ h => h) (Or.inr ⟨by rfl, rfl⟩) (by assumption) ?_; (try simp only [Act.put, List.setIfInBounds_toArray, List.set_cons_zero, List.set_cons_succ, List.getElem_toArray, List.getElem_cons_zero, List.getElem_cons_succ])
                  refine wpAnyH_take (i := 5) (v := undef) rfl (by kernel_rfl) (by kernel_rfl) (by kernel_rfl) (fun _ _ _ h => h) (Or.inr ⟨by rfl, rfl⟩) (by assumption) ?_; (try simp only [Act.put, List.setIfInBounds_toArray, List.set_cons_zero, List.set_cons_succ, List.getElem_toArray, List.getElem_cons_zero, List.getElem_cons_succ])
                  refine wpAnyH_take (i := 6) (v := undef) rfl (by kernel_rfl) (by kernel_rfl) (by kernel_rfl) (fun _ _ _ h => h) (Or.inr ⟨by rfl, rfl⟩) (by assumption) ?_; (try simp only [Act.put, List.setIfInBounds_toArray, List.set_cons_zero, List.set_cons_succ, List.getElem_toArray, List.getElem_cons_zero, List.getElem_cons_succ])
                  refine wpAnyH_take (i := 7) (v := undef) rfl (by kernel_rfl) (by kernel_rfl) (by kernel_rfl) (fun _ _ _ h => h) (Or.inr ⟨by rfl, rfl⟩) (by assumption) ?_; (try simp only [Act.put, List.setIfInBounds_toArray, List.set_cons_zero, List.set_cons_succ, List.getElem_toArray, List.getElem_cons_zero, List.getElem_cons_succ])
                  refine wpAnyH_take (i := 8) (v := undef) rfl (by kernel_rfl) (by kernel_rfl) (by kernel_rfl) (fun _ _ _ h => h) (Or.inr ⟨by rfl, rfl⟩) (by assumption) ?_; (try simp only [Act.put, List.setIfInBounds_toArray, List.set_cons_zero, List.set_cons_succ, List.getElem_toArray, List.getElem_cons_zero, List.getElem_cons_succ])
                  refine wpAnyH_take (i := 9) (v := undef) rfl (by kernel_rfl) (by kernel_rfl) (by kernel_rfl) (fun _ _ _ h => h) (Or.inr ⟨by rfl, rfl⟩) (by assumption) ?_; (try simp only [Act.put, List.setIfInBounds_toArray, List.set_cons_zero, List.set_cons_succ, List.getElem_toArray, List.getElem_cons_zero, List.getElem_cons_succ])
                  refine wpAnyH_take (i := 10) (v := undef) rfl (by kernel_rfl) (by kernel_rfl) (by kernel_rfl) (fun _ _ _ h => h) (Or.inr ⟨by rfl, rfl⟩) (by assumption) ?_; (try simp only [Act.put, List.setIfInBounds_toArray, List.set_cons_zero, List.set_cons_succ, List.getElem_toArray, List.getElem_cons_zero, List.getElem_cons_succ])
                  refine wpAnyH_take (i := 11) (v := undef) rfl (by kernel_rfl) (by kernel_rfl) (by kernel_rfl) (fun _ _ _ h => h) (Or.inr ⟨by rfl, rfl⟩) (by assumption) ?_; (try simp only [Act.put, List.setIfInBounds_toArray, List.set_cons_zero, List.set_cons_succ, List.getElem_toArray, List.getElem_cons_zero, List.getElem_cons_succ])
                  refine wpAnyH_take (i := 12) (v := .bool false) rfl (by kernel_rfl) (by kernel_rfl) (by kernel_rfl) (fun _ _ _ h => h) (Or.inl ⟨by rfl, fun w hSw => by (try dsimp only at hSw); go_simp⟩) (by assumption) ?_; (try simp only [Act.put, List.setIfInBounds_toArray, List.set_cons_zero, List.set_cons_succ, List.getElem_toArray, List.getElem_cons_zero, List.getElem_cons_succ])
                  refine wpAnyH_take (i := 13) (v := .bool false) rfl (by kernel_rfl) (by kernel_rfl) (by kernel_rfl) (fun _ _ _ h => h) (Or.inl ⟨by rfl, fun w hSw => by (try dsimp only at hSw); go_simp⟩) (by assumption) ?_; (try simp only [Act.put, List.setIfInBounds_toArray, List.set_cons_zero, List.set_cons_succ, List.getElem_toArray, List.getElem_cons_zero, List.getElem_cons_succ])
                  refine wpAnyH_done (by kernel_rfl) ?_ _
                  go_wp2
                  go_ret
                  exact ⟨ret_bool (by rw [HM.out, HAT.out, HDD.out, HK.out, HHB.out]; simp [hasM]), HD2.out.1.2.2.1⟩
                · have HDA := Lib.hid hda
                  have HD5 := Lib.hid hd5
                  clear hdd hda hd5
                  go_enter Tryz.func170, Tryz.ntmps170
                  go_wp2_with fail
                  refine (l01Handler_any an _ HN.out.1).mono ?_
                  rintro e w1 ⟨rfl, rfl⟩
                  rw [HQ.out]
                  go_wp2_with fail
                  refine (l01Link_any an _).mono ?_
                  rintro e w1 ⟨rfl, hB⟩
                  rw [HZ.out]
                  have HX := Lib.hid (HX.out.next hB)
                  clear hB p0 p1 p2 p3 p4 p5 p6 p7 p8 s0 s1
                  obtain ⟨p0, p1, p2, p3, p4, p5, p6, p7, p8⟩ := lay9 HX.out.1.1
                  obtain ⟨s0, s1⟩ := lay2u HX.out.2.1
                  go_wp2_with fail
                  refine (l01HasM_any X.dp an _ V.a5 _ V.c5 rfl HX.out.1.2.1.dp).mono ?_
                  rintro e w1 ⟨rfl, rfl⟩
                  rw [HD.out]
                  rw [HHB.out] at p1
                  go_wp2_with fail
                  refine (l01HasM_any X.at_ an _ V.a4 _ V.c4 rfl HX.out.1.2.1.at_).mono ?_
                  rintro e w1 ⟨rfl, rfl⟩
                  rw [HAT.out]
                  rw [HDA.out] at p8
                  have hz5 := HD5.out
                  go_wp2_with fail
                  refine (l07At_any X.al sp n _ V.a1 V.c1 HX.out.1.2.1.al).mono ?_
                  rintro e w1 ⟨rfl, rfl⟩
                  rw [HKK.out]
                  go_wp2_with fail
                  have HD2 := Lib.hid (HX.out.next (Below.refl _ _).drew)
                  clear p0 p1 p2 p3 p4 p5 p6 p7 p8 s0 s1
                  have hrn : decide (kk ≥ 0) = false := by simpa using hr
                  refine wp_region_held_drew (S := fun _ => True) (by kernel_rfl) trivial (fun hHeld => ?_)
                  refine wpAnyH_take (i := 0) (v := .int .i64 kk) rfl (by kernel_rfl) (by kernel_rfl) (by kernel_rfl) (fun _ _ _ h => h) (Or.inl ⟨by rfl, fun w hSw => by (try dsimp only at hSw); go_simp⟩) (by assumption) ?_; (try simp only [Act.put, List.setIfInBounds_toArray, List.set_cons_zero, List.set_cons_succ, List.getElem_toArray, List.getElem_cons_zero])
                  refine wpAnyH_take (i := 1) (v := .bool false) rfl (by kernel_rfl) (by kernel_rfl) (by kernel_rfl) (fun _ _ _ h => h) (Or.inl ⟨by rfl, fun w hSw => by (try dsimp only at hSw); go_simp⟩) (by assumption) ?_; (try simp only [Act.put, List.setIfInBounds_toArray, List.set_cons_zero, List.set_cons_succ, List.getElem_toArray, List.getElem_cons_zero, List.getElem_cons_succ])
                  refine wpAnyH_take (i := 2) (v := .bool false) rfl (by kernel_rfl) (by kernel_rfl) (by kernel_rfl) (fun _ _ _ h => h) (Or.inl ⟨by rfl, fun w hSw => by (try dsimp only at hSw); go_simp⟩) (by assumption) ?_; (try simp only [Act.put, List.setIfInBounds_toArray, List.set_cons_zero, List.set_cons_succ, List.getElem_toArray, List.getElem_cons_zero, List.getElem_cons_succ])
                  refine wpAnyH_take (i := 3) (v := undef) rfl (by kernel_rfl) (by kernel_rfl) (by kernel_rfl) (fun _ _ _ h => h) (Or.inr ⟨by rfl, rfl⟩) (by assumption) ?_; (try simp only [Act.put, List.setIfInBounds_toArray, List.set_cons_zero, List.set_cons_succ, List.getElem_toArray, List.getElem_cons_zero, List.getElem_cons_succ])
                  refine wpAnyH_take (i := 4) (v := undef) rfl (by kernel_rfl) (by kernel_rfl) (by kernel_rfl) (fun _ _ _ h => h) (Or.inr ⟨by rfl, rfl⟩) (by assumption) ?_; (try simp only [Act.put, List.setIfInBounds_toArray, List.set_cons_zero, List.set_cons_succ, List.getElem_toArray, List.getElem_cons_zero, List.getElem_cons_succ])
                  refine wpAnyH_take (i := 5) (v := undef) rfl (by kernel_rfl) (by kernel_rfl) (by kernel_rfl) (fun _ _ _ h => h) (Or.inr ⟨by rfl, rfl⟩) (by assumption) ?_; (try simp only [Act.put, List.setIfInBounds_toArray, List.set_cons_zero, List.set_cons_succ, List.getElem_toArray, List.getElem_cons_zero, List.getElem_cons_succ])
                  refine wpAnyH_take (i := 6) (v := undef) rfl (by kernel_rfl) (by kernel_rfl) (by kernel_rfl) (fun _ _ _ h => h) (Or.inr ⟨by rfl, rfl⟩) (by assumption) ?_; (try simp only [Act.put, List.setIfInBounds_toArray, List.set_cons_zero, List.set_cons_succ, List.getElem_toArray, List.getElem_cons_zero, List.getElem_cons_succ])
                  refine wpAnyH_take (i := 7) (v := undef) rfl (by kernel_rfl) (by kernel_rfl) (by kernel_rfl) (fun _ _ _ h => h) (Or.inr ⟨by rfl, rfl⟩) (by assumption) ?_; (try simp only [Act.put, List.setIfInBounds_toArray, List.set_cons_zero, List.set_cons_succ, List.getElem_toArray, List.getElem_cons_zero, List.getElem_cons_succ])
                  refine wpAnyH_take (i := 8) (v := undef) rfl (by kernel_rfl) (by kernel_rfl) (by kernel_rfl) (fun _ _ _ h => h) (Or.inr ⟨by rfl, rfl⟩) (by assumption) ?_; (try simp only [Act.put, List.setIfInBounds_toArray, List.set_cons_zero, List.set_cons_succ, List.getElem_toArray, List.getElem_cons_zero, List.getElem_cons_succ])
                  refine wpAnyH_take (i := 9) (v := undef) rfl (by kernel_rfl) (by kernel_rfl) (by kernel_rfl) (fun _ _ _ h => h) (Or.inr ⟨by rfl, rfl⟩) (by assumption) ?_; (try simp only [Act.put, List.setIfInBounds_toArray, List.set_cons_zero, List.set_cons_succ, List.getElem_toArray, List.getElem_cons_zero, List.getElem_cons_succ])
                  refine wpAnyH_take (i := 10) (v := undef) rfl (by kernel_rfl) (by kernel_rfl) (by kernel_rfl) (fun _ _ _ h => h) (Or.inr ⟨by rfl, rfl⟩) (by assumption) ?_; (try simp only [Act.put, List.setIfInBounds_toArray, List.set_cons_zero, List.set_cons_succ, List.getElem_toArray, List.getElem_cons_zero, List.getElem_cons_succ])
                  refine wpAnyH_take (i := 11) (v := undef) rfl (by kernel_rfl) (by kernel_rfl) (by kernel_rfl) (fun _ _ _ h => h) (Or.inr ⟨by rfl, rfl⟩) (by assumption) ?_; (try simp only [Act.put, List.setIfInBounds_toArray, List.set_cons_zero, List.set_cons_succ, List.getElem_toArray, List.getElem_cons_zero, List.getElem_cons_succ])
                  refine wpAnyH_take (i := 12) (v := .bool false) rfl (by kernel_rfl) (by kernel_rfl) (by kernel_rfl) (fun _ _ _ h => h) (Or.inl ⟨by rfl, fun w hSw => by (try dsimp only at hSw); go_simp⟩) (by assumption) ?_; (try simp only [Act.put, List.setIfInBounds_toArray, List.set_cons_zero, List.set_cons_succ, List.getElem_toArray, List.getElem_cons_zero, List.getElem_cons_succ])
                  refine wpAnyH_take (i := 13) (v := .bool false) rfl (by kernel_rfl) (by kernel_rfl) (by kernel_rfl) (fun _ _ _ h => h) (Or.inl ⟨by rfl, fun w hSw => by (try dsimp only at hSw); go_simp⟩) (by assumption) ?_; (try simp only [Act.put, List.setIfInBounds_toArray, List.set_cons_zero, List.set_cons_succ, List.getElem_toArray, List.getElem_cons_zero, List.getElem_cons_succ])
                  refine wpAnyH_done (by kernel_rfl) ?_ _
                  go_wp2
                  go_ret
                  exact ⟨ret_bool (by rw [HM.out, HAT.out, HDD.out, HK.out, HHB.out]; simp [hasM]), HD2.out.1.2.2.1⟩
                · have HDA := Lib.hid hda
                  have HD5 := Lib.hid (And.intro hd5 hdp)
                  clear hdd hda hd5 hdp
                  go_enter Tryz.func170, Tryz.ntmps170
                  go_wp2_with fail
                  refine (l01Handler_any an _ HN.out.1).mono ?_
                  rintro e w1 ⟨rfl, rfl⟩
                  rw [HQ.out]
                  go_wp2_with fail
                  refine (l01Link_any an _).mono ?_
                  rintro e w1 ⟨rfl, hB⟩
                  rw [HZ.out]
                  have HX := Lib.hid (HX.out.next hB)
                  clear hB p0 p1 p2 p3 p4 p5 p6 p7 p8 s0 s1
                  obtain ⟨p0, p1, p2, p3, p4, p5, p6, p7, p8⟩ := lay9 HX.out.1.1
                  obtain ⟨s0, s1⟩ := lay2u HX.out.2.1
                  go_wp2_with fail
                  refine (l01HasM_any X.dp an _ V.a5 _ V.c5 rfl HX.out.1.2.1.dp).mono ?_
                  rintro e w1 ⟨rfl, rfl⟩
                  rw [HD.out]
                  rw [HHB.out] at p1
                  go_wp2_with fail
                  refine (l01HasM_any X.at_ an _ V.a4 _ V.c4 rfl HX.out.1.2.1.at_).mono ?_
                  rintro e w1 ⟨rfl, rfl⟩
                  rw [HAT.out]
                  rw [HDA.out] at p8
                  have hz5 := HD5.out.1
                  have hp5 := HD5.out.2
                  go_wp2_with fail
                  refine (l07At_any X.al sp n _ V.a1 V.c1 HX.out.1.2.1.al).mono ?_
                  rintro e w1 ⟨rfl, rfl⟩
                  rw [HKK.out]
                  go_wp2_with fail
                  have HD2 := Lib.hid (HX.out.next (Below.refl _ _).drew)
                  clear p0 p1 p2 p3 p4 p5 p6 p7 p8 s0 s1
                  have hrn : decide (kk ≥ 0) = false := by simpa using hr
                  refine wp_region_held_drew (S := fun _ => True) (by kernel_rfl) trivial (fun hHeld => ?_)
                  refine wpAnyH_take (i := 0) (v := .int .i64 kk) rfl (by kernel_rfl) (by kernel_rfl) (by kernel_rfl) (fun _ _ _ h => h) (Or.inl ⟨by rfl, fun w hSw => by (try dsimp only at hSw); go_simp⟩) (by assumption) ?_; (try simp only [Act.put, List.setIfInBounds_toArray, List.set_cons_zero, List.set_cons_succ, List.getElem_toArray, List.getElem_cons_zero])
                  refine wpAnyH_take (i := 1) (v := .bool false) rfl (by kernel_rfl) (by kernel_rfl) (by kernel_rfl) (fun _ _ _ h => h) (Or.inl ⟨by rfl, fun w hSw => by (try dsimp only at hSw); go_simp⟩) (by assumption) ?_; (try simp only [Act.put, List.setIfInBounds_toArray, List.set_cons_zero, List.set_cons_succ, List.getElem_toArray, List.getElem_cons_zero, List.getElem_cons_succ])
                  refine wpAnyH_take (i := 2) (v := .bool false) rfl (by kernel_rfl) (by kernel_rfl) (by kernel_rfl) (fun _ _ _ h => h) (Or.inl ⟨by rfl, fun w hSw => by (try dsimp only at hSw); go_simp⟩) (by assumption) ?_; (try simp only [Act.put, List.setIfInBounds_toArray, List.set_cons_zero, List.set_cons_succ, List.getElem_toArray, List.getElem_cons_zero, List.getElem_cons_succ])
                  refine wpAnyH_take (i := 3) (v := undef) rfl (by kernel_rfl) (by kernel_rfl) (by kernel_rfl) (fun _ _ _ h => h) (Or.inr ⟨by rfl, rfl⟩) (by assumption) ?_; (try simp only [Act.put, List.setIfInBounds_toArray, List.set_cons_zero, List.set_cons_succ, List.getElem_toArray, List.getElem_cons_zero, List.getElem_cons_succ])
                  refine wpAnyH_take (i := 4) (v := undef) rfl (by kernel_rfl) (by kernel_rfl) (by kernel_rfl) (fun _ _ _ h => h) (Or.inr ⟨by rfl, rfl⟩) (by assumption) ?_; (try simp only [Act.put, List.setIfInBounds_toArray, List.set_cons_zero, List.set_cons_succ, List.getElem_toArray, List.getElem_cons_zero, List.getElem_cons_succ])
                  refine wpAnyH_take (i := 5) (v := undef) rfl (by kernel_rfl) (by kernel_rfl) (by kernel_rfl) (fun _ _ _ h => h) (Or.inr ⟨by rfl, rfl⟩) (by assumption) ?_; (try simp only [Act.put, List.setIfInBounds_toArray, List.set_cons_zero, List.set_cons_succ, List.getElem_toArray, List.getElem_cons_zero, List.getElem_cons_succ])
                  refine wpAnyH_take (i := 6) (v := undef) rfl (by kernel_rfl) (by kernel_rfl) (by kernel_rfl) (fun _ _ _ h => h) (Or.inr ⟨by rfl, rfl⟩) (by assumption) ?_; (try simp only [Act.put, List.setIfInBounds_toArray, List.set_cons_zero, List.set_cons_succ, List.getElem_toArray, List.getElem_cons_zero, List.getElem_cons_succ])
                  refine wpAnyH_take (i := 7) (v := undef) rfl (by kernel_rfl) (by kernel_rfl) (by kernel_rfl) (fun _ _ _ h => h) (Or.inr ⟨by rfl, rfl⟩) (by assumption) ?_; (try simp only [Act.put, List.setIfInBounds_toArray, List.set_cons_zero, List.set_cons_succ, List.getElem_toArray, List.getElem_cons_zero, List.getElem_cons_succ])
                  refine wpAnyH_take (i := 8) (v := undef) rfl (by kernel_rfl) (by kernel_rfl) (by kernel_rfl) (fun _ _ _ h => h) (Or.inr ⟨by rfl, rfl⟩) (by assumption) ?_; (try simp only [Act.put, List.setIfInBounds_toArray, List.set_cons_zero, List.set_cons_succ, List.getElem_toArray, List.getElem_cons_zero, List.getElem_cons_succ])
                  refine wpAnyH_take (i := 9) (v := undef) rfl (by kernel_rfl) (by kernel_rfl) (by kernel_rfl) (fun _ _ _ h => h) (Or.inr ⟨by rfl, rfl⟩) (by assumption) ?_; (try simp only [Act.put, List.setIfInBounds_toArray, List.set_cons_zero, List.set_cons_succ, List.getElem_toArray, List.getElem_cons_zero, List.getElem_cons_succ])
                  refine wpAnyH_take (i := 10) (v := undef) rfl (by kernel_rfl) (by kernel_rfl) (by kernel_rfl) (fun _ _ _ h => h) (Or.inr ⟨by rfl, rfl⟩) (by assumption) ?_; (try simp only [Act.put, List.setIfInBounds_toArray, List.set_cons_zero, List.set_cons_succ, List.getElem_toArray, List.getElem_cons_zero, List.getElem_cons_succ])
                  refine wpAnyH_take (i := 11) (v := undef) rfl (by kernel_rfl) (by kernel_rfl) (by kernel_rfl) (fun _ _ _ h => h) (Or.inr ⟨by rfl, rfl⟩) (by assumption) ?_; (try simp only [Act.put, List.setIfInBounds_toArray, List.set_cons_zero, List.set_cons_succ, List.getElem_toArray, List.getElem_cons_zero, List.getElem_cons_succ])
                  refine wpAnyH_take (i := 12) (v := .bool false) rfl (by kernel_rfl) (by kernel_rfl) (by kernel_rfl) (fun _ _ _ h => h) (Or.inl ⟨by rfl, fun w hSw => by (try dsimp only at hSw); go_simp⟩) (by assumption) ?_; (try simp only [Act.put, List.setIfInBounds_toArray, List.set_cons_zero, List.set_cons_succ, List.getElem_toArray, List.getElem_cons_zero, List.getElem_cons_succ])
                  refine wpAnyH_take (i := 13) (v := .bool false) rfl (by kernel_rfl) (by kernel_rfl) (by kernel_rfl) (fun _ _ _ h => h) (Or.inl ⟨by rfl, fun w hSw => by (try dsimp only at hSw); go_simp⟩) (by assumption) ?_; (try simp only [Act.put, List.setIfInBounds_toArray, List.set_cons_zero, List.set_cons_succ, List.getElem_toArray, List.getElem_cons_zero, List.getElem_cons_succ])
                  refine wpAnyH_done (by kernel_rfl) ?_ _
                  go_wp2
                  go_ret
                  exact ⟨ret_bool (by rw [HM.out, HAT.out, HDD.out, HK.out, HHB.out]; simp [hasM]), HD2.out.1.2.2.1⟩
    | true =>
      have HZ := Lib.hid hz
      cases hw : badL av.data.toList 0 with
      | true =>
        have HW := Lib.hid hw
        have HM : Hid (attA X sp n an av = false) := Lib.hid (attA_no (by rw [harmB, hq, hz, badB, hw, decide_eq_true HN.out.2.2]; rfl))
        clear hq hz hw
        go_enter Tryz.func170, Tryz.ntmps170
        go_wp2_with fail
        refine (l01Handler_any an _ HN.out.1).mono ?_
        rintro e w1 ⟨rfl, rfl⟩
        rw [HQ.out]
        go_wp2_with fail
        refine (l01Link_any an _).mono ?_
        rintro e w1 ⟨rfl, hB⟩
        rw [HZ.out]
        have HX := Lib.hid (HX.out.next hB)
        clear hB p0 p1 p2 p3 p4 p5 p6 p7 p8 s0 s1
        obtain ⟨p0, p1, p2, p3, p4, p5, p6, p7, p8⟩ := lay9 HX.out.1.1
        obtain ⟨s0, s1⟩ := lay2u HX.out.2.1
        go_wp2_with fail
        refine (l01Bad_any av _ HN.out.2.1).mono ?_
        rintro e w1 ⟨rfl, rfl⟩
        rw [HW.out]
        go_wp2
        all_goals (go_ret; exact ⟨by rw [HM.out]; try rfl, HX.out.1.2.2.1⟩)
      | false =>
        have HW := Lib.hid hw
        have HH : Hid (harmB an av = false) := Lib.hid (by rw [harmB, hq, hz, badB, hw]; simp)
        clear hq hz hw
        cases hd : hasM X.dp an with
        | true =>
          have HD := Lib.hid hd
          have HM : Hid (attA X sp n an av = false) := Lib.hid (attA_drop hd)
          clear hd
          go_enter Tryz.func170, Tryz.ntmps170
          go_wp2_with fail
          refine (l01Handler_any an _ HN.out.1).mono ?_
          rintro e w1 ⟨rfl, rfl⟩
          rw [HQ.out]
          go_wp2_with fail
          refine (l01Link_any an _).mono ?_
          rintro e w1 ⟨rfl, hB⟩
          rw [HZ.out]
          have HX := Lib.hid (HX.out.next hB)
          clear hB p0 p1 p2 p3 p4 p5 p6 p7 p8 s0 s1
          obtain ⟨p0, p1, p2, p3, p4, p5, p6, p7, p8⟩ := lay9 HX.out.1.1
          obtain ⟨s0, s1⟩ := lay2u HX.out.2.1
          go_wp2_with fail
          refine (l01Bad_any av _ HN.out.2.1).mono ?_
          rintro e w1 ⟨rfl, rfl⟩
          rw [HW.out]
          go_wp2_with fail
          refine (l01HasM_any X.dp an _ V.a5 _ V.c5 rfl HX.out.1.2.1.dp).mono ?_
          rintro e w1 ⟨rfl, rfl⟩
          rw [HD.out]
          go_wp2
          all_goals (go_ret; exact ⟨by rw [HM.out]; try rfl, HX.out.1.2.2.1⟩)
        | false =>
          have HD := Lib.hid hd
          have HM := Lib.hid (attA_go (X := X) (sp := sp) (n := n) HH.out hd)
          clear hd
          have hbs : X.hb = false ∨ X.hb = true := by cases X.hb <;> simp
          rcases hbs with hb | hb
          · have HHB := Lib.hid hb
            clear hb
            go_enter Tryz.func170, Tryz.ntmps170
            go_wp2_with fail
            refine (l01Handler_any an _ HN.out.1).mono ?_
            rintro e w1 ⟨rfl, rfl⟩
            rw [HQ.out]
            go_wp2_with fail
            refine (l01Link_any an _).mono ?_
            rintro e w1 ⟨rfl, hB⟩
            rw [HZ.out]
            have HX := Lib.hid (HX.out.next hB)
            clear hB p0 p1 p2 p3 p4 p5 p6 p7 p8 s0 s1
            obtain ⟨p0, p1, p2, p3, p4, p5, p6, p7, p8⟩ := lay9 HX.out.1.1
            obtain ⟨s0, s1⟩ := lay2u HX.out.2.1
            go_wp2_with fail
            refine (l01Bad_any av _ HN.out.2.1).mono ?_
            rintro e w1 ⟨rfl, rfl⟩
            rw [HW.out]
            go_wp2_with fail
            refine (l01HasM_any X.dp an _ V.a5 _ V.c5 rfl HX.out.1.2.1.dp).mono ?_
            rintro e w1 ⟨rfl, rfl⟩
            rw [HD.out]
            rw [HHB.out] at p1
            go_wp2
            go_ret
            exact ⟨ret_bool (by rw [HM.out]; simp [HHB.out]), HX.out.1.2.2.1⟩
          · have HHB := Lib.hid hb
            clear hb
            cases hat : hasM X.at_ an with
            | true =>
              have HAT := Lib.hid hat
              clear hat
              go_enter Tryz.func170, Tryz.ntmps170
              go_wp2_with fail
              refine (l01Handler_any an _ HN.out.1).mono ?_
              rintro e w1 ⟨rfl, rfl⟩
              rw [HQ.out]
              go_wp2_with fail
              refine (l01Link_any an _).mono ?_
              rintro e w1 ⟨rfl, hB⟩
              rw [HZ.out]
              have HX := Lib.hid (HX.out.next hB)
              clear hB p0 p1 p2 p3 p4 p5 p6 p7 p8 s0 s1
              obtain ⟨p0, p1, p2, p3, p4, p5, p6, p7, p8⟩ := lay9 HX.out.1.1
              obtain ⟨s0, s1⟩ := lay2u HX.out.2.1
              go_wp2_with fail
              refine (l01Bad_any av _ HN.out.2.1).mono ?_
              rintro e w1 ⟨rfl, rfl⟩
              rw [HW.out]
              go_wp2_with fail
              refine (l01HasM_any X.dp an _ V.a5 _ V.c5 rfl HX.out.1.2.1.dp).mono ?_
              rintro e w1 ⟨rfl, rfl⟩
              rw [HD.out]
              rw [HHB.out] at p1
              go_wp2_with fail
              refine (l01HasM_any X.at_ an _ V.a4 _ V.c4 rfl HX.out.1.2.1.at_).mono ?_
              rintro e w1 ⟨rfl, rfl⟩
              rw [HAT.out]
              go_wp2
              go_ret
              exact ⟨ret_bool (by rw [HM.out]; simp [HAT.out]), HX.out.1.2.2.1⟩
            | false =>
              have HAT := Lib.hid hat
              clear hat
              have hds : (X.da && dataB an) = true ∨ (X.da && dataB an) = false := by cases (X.da && dataB an) <;> simp
              rcases hds with hdd | hdd
              · obtain ⟨e1, e2⟩ := Bool.and_eq_true_iff.1 hdd
                have HDD := Lib.hid hdd
                have HDA := Lib.hid (And.intro e1 (data_parts e2))
                clear hdd e1 e2
                go_enter Tryz.func170, Tryz.ntmps170
                go_wp2_with fail
                refine (l01Handler_any an _ HN.out.1).mono ?_
                rintro e w1 ⟨rfl, rfl⟩
                rw [HQ.out]
                go_wp2_with fail
                refine (l01Link_any an _).mono ?_
                rintro e w1 ⟨rfl, hB⟩
                rw [HZ.out]
                have HX := Lib.hid (HX.out.next hB)
                clear hB p0 p1 p2 p3 p4 p5 p6 p7 p8 s0 s1
                obtain ⟨p0, p1, p2, p3, p4, p5, p6, p7, p8⟩ := lay9 HX.out.1.1
                obtain ⟨s0, s1⟩ := lay2u HX.out.2.1
                go_wp2_with fail
                refine (l01Bad_any av _ HN.out.2.1).mono ?_
                rintro e w1 ⟨rfl, rfl⟩
                rw [HW.out]
                go_wp2_with fail
                refine (l01HasM_any X.dp an _ V.a5 _ V.c5 rfl HX.out.1.2.1.dp).mono ?_
                rintro e w1 ⟨rfl, rfl⟩
                rw [HD.out]
                rw [HHB.out] at p1
                go_wp2_with fail
                refine (l01HasM_any X.at_ an _ V.a4 _ V.c4 rfl HX.out.1.2.1.at_).mono ?_
                rintro e w1 ⟨rfl, rfl⟩
                rw [HAT.out]
                rw [HDA.out.1] at p8
                have hz5 := HDA.out.2.1
                have hp5 := HDA.out.2.2
                go_wp2
                all_goals (go_ret; exact ⟨ret_bool (by rw [HM.out, HDD.out]; simp), HX.out.1.2.2.1⟩)
              · have HDD := Lib.hid hdd
                by_cases hr : 0 ≤ ruAt X.al sp n
                · obtain ⟨kk, hkk⟩ : ∃ kk : Nat, ruAt X.al sp n = (kk : Int) := ⟨(ruAt X.al sp n).toNat, by omega⟩
                  obtain ⟨hlt, hao⟩ := attrsOf_at hkk
                  have HK := Lib.hid (And.intro hkk hao)
                  have HLT := Lib.hid hlt
                  clear hr hkk hao
                  rcases data_no hdd with hda | ⟨hda, hd5⟩ | ⟨hda, hd5, hdp⟩
                  · have HDA := Lib.hid hda
                    clear hdd hda
                    go_enter Tryz.func170, Tryz.ntmps170
                    go_wp2_with fail
                    refine (l01Handler_any an _ HN.out.1).mono ?_
                    rintro e w1 ⟨rfl, rfl⟩
                    rw [HQ.out]
                    go_wp2_with fail
                    refine (l01Link_any an _).mono ?_
                    rintro e w1 ⟨rfl, hB⟩
                    rw [HZ.out]
                    have HX := Lib.hid (HX.out.next hB)
                    clear hB p0 p1 p2 p3 p4 p5 p6 p7 p8 s0 s1
                    obtain ⟨p0, p1, p2, p3, p4, p5, p6, p7, p8⟩ := lay9 HX.out.1.1
                    obtain ⟨s0, s1⟩ := lay2u HX.out.2.1
                    go_wp2_with fail
                    refine (l01Bad_any av _ HN.out.2.1).mono ?_
                    rintro e w1 ⟨rfl, rfl⟩
                    rw [HW.out]
                    go_wp2_with fail
                    refine (l01HasM_any X.dp an _ V.a5 _ V.c5 rfl HX.out.1.2.1.dp).mono ?_
                    rintro e w1 ⟨rfl, rfl⟩
                    rw [HD.out]
                    rw [HHB.out] at p1
                    go_wp2_with fail
                    refine (l01HasM_any X.at_ an _ V.a4 _ V.c4 rfl HX.out.1.2.1.at_).mono ?_
                    rintro e w1 ⟨rfl, rfl⟩
                    rw [HAT.out]
                    rw [HDA.out] at p8
                    go_wp2_with fail
                    refine (l07At_any X.al sp n _ V.a1 V.c1 HX.out.1.2.1.al).mono ?_
                    rintro e w1 ⟨rfl, rfl⟩
                    rw [HK.out.1]
                    go_wp2_with fail
                    have HD2 := Lib.hid (HX.out.next (Below.refl _ _).drew)
                    obtain ⟨gb, ob, hga, hgb, t1, t2, t3, B, cc, t4, t6, t5⟩ := HD2.out.1.2.1.al.get HLT.out
                    have hltn := HLT.out
                    have HNM := Lib.hid t5
                    have hS : (fun w' => w'.cell? ⟨w.heap.size, 2, none⟩ = some (.slice (some ⟨gb, ob, none⟩) X.al.length V.c1) ∧ w'.cell? ⟨gb, ob + kk * 3 + 2, none⟩ = some (.slice B X.al[kk].2.2.length cc) ∧ w'.cell? ⟨w.heap.size + 1, 0, none⟩ = some (.string an)) w1.drew := ⟨by have := (lay9 HD2.out.1.1).2.2.1; rw [hga] at this; exact this, t4, (lay2u HD2.out.2.1).1⟩
                    clear t5 hga t1 t2 t3 t6 p0 p1 p2 p3 p4 p5 p6 p7 p8 s0 s1
                    refine wp_region_held_drew (S := fun w' => w'.cell? ⟨w.heap.size, 2, none⟩ = some (.slice (some ⟨gb, ob, none⟩) X.al.length V.c1) ∧ w'.cell? ⟨gb, ob + kk * 3 + 2, none⟩ = some (.slice B X.al[kk].2.2.length cc) ∧ w'.cell? ⟨w.heap.size + 1, 0, none⟩ = some (.string an)) (by kernel_rfl) hS (fun hHeld => ?_)
                    refine wpAnyH_take (i := 0) (v := .int .i64 (kk : Int)) rfl (by kernel_rfl) (by kernel_rfl) (by kernel_rfl) (fun _ _ _ h => h) (Or.inl ⟨by rfl, fun w hSw => by (try dsimp only at hSw); go_simp⟩) (by assumption) ?_; (try simp only [Act.put, List.setIfInBounds_toArray, List.set_cons_zero, List.set_cons_succ, List.getElem_toArray, List.getElem_cons_zero])
                    refine wpAnyH_take (i := 1) (v := .bool true) rfl (by kernel_rfl) (by kernel_rfl) (by kernel_rfl) (fun _ _ _ h => h) (Or.inl ⟨by rfl, fun w hSw => by (try dsimp only at hSw); go_simp⟩) (by assumption) ?_; (try simp only [Act.put, List.setIfInBounds_toArray, List.set_cons_zero, List.set_cons_succ, List.getElem_toArray, List.getElem_cons_zero, List.getElem_cons_succ])
                    refine wpAnyH_take (i := 2) (v := .bool true) rfl (by kernel_rfl) (by kernel_rfl) (by kernel_rfl) (fun _ _ _ h => h) (Or.inl ⟨by rfl, fun w hSw => by (try dsimp only at hSw); go_simp⟩) (by assumption) ?_; (try simp only [Act.put, List.setIfInBounds_toArray, List.set_cons_zero, List.set_cons_succ, List.getElem_toArray, List.getElem_cons_zero, List.getElem_cons_succ])
                    refine wpAnyH_take (i := 3) (v := .pointer (some ⟨w.heap.size, 2, none⟩)) rfl (by kernel_rfl) (by kernel_rfl) (by kernel_rfl) (fun _ _ _ h => h) (Or.inl ⟨by rfl, fun w hSw => by (try dsimp only at hSw); go_simp⟩) (by assumption) ?_; (try simp only [Act.put, List.setIfInBounds_toArray, List.set_cons_zero, List.set_cons_succ, List.getElem_toArray, List.getElem_cons_zero, List.getElem_cons_succ])
                    refine wpAnyH_take (i := 4) (v := .slice (some ⟨gb, ob, none⟩) X.al.length V.c1) rfl (by kernel_rfl) (by kernel_rfl) (by kernel_rfl) (fun _ _ _ h => h) (Or.inl ⟨by rfl, fun w hSw => by (try dsimp only at hSw); go_simp⟩) (by assumption) ?_; (try simp only [Act.put, List.setIfInBounds_toArray, List.set_cons_zero, List.set_cons_succ, List.getElem_toArray, List.getElem_cons_zero, List.getElem_cons_succ])
                    refine wpAnyH_take (i := 5) (v := .int .i64 (kk : Int)) rfl (by kernel_rfl) (by kernel_rfl) (by kernel_rfl) (fun _ _ _ h => h) (Or.inl ⟨by rfl, fun w hSw => by (try dsimp only at hSw); go_simp⟩) (by assumption) ?_; (try simp only [Act.put, List.setIfInBounds_toArray, List.set_cons_zero, List.set_cons_succ, List.getElem_toArray, List.getElem_cons_zero, List.getElem_cons_succ])
                    refine wpAnyH_take (i := 6) (v := .pointer (some ⟨gb, ob + kk * 3, none⟩)) rfl (by kernel_rfl) (by kernel_rfl) (by kernel_rfl) (fun _ _ _ h => h) (Or.inl ⟨by rfl, fun w hSw => by (try dsimp only at hSw); go_simp⟩) (by assumption) ?_; (try simp only [Act.put, List.setIfInBounds_toArray, List.set_cons_zero, List.set_cons_succ, List.getElem_toArray, List.getElem_cons_zero, List.getElem_cons_succ])
                    refine wpAnyH_take (i := 7) (v := .pointer (some ⟨gb, ob + kk * 3 + 2, none⟩)) rfl (by kernel_rfl) (by kernel_rfl) (by kernel_rfl) (fun _ _ _ h => h) (Or.inl ⟨by rfl, fun w hSw => by (try dsimp only at hSw); go_simp⟩) (by assumption) ?_; (try simp only [Act.put, List.setIfInBounds_toArray, List.set_cons_zero, List.set_cons_succ, List.getElem_toArray, List.getElem_cons_zero, List.getElem_cons_succ])
                    refine wpAnyH_take (i := 8) (v := .slice B X.al[kk].2.2.length cc) rfl (by kernel_rfl) (by kernel_rfl) (by kernel_rfl) (fun _ _ _ h => h) (Or.inl ⟨by rfl, fun w hSw => by (try dsimp only at hSw); go_simp⟩) (by assumption) ?_; (try simp only [Act.put, List.setIfInBounds_toArray, List.set_cons_zero, List.set_cons_succ, List.getElem_toArray, List.getElem_cons_zero, List.getElem_cons_succ])
                    refine wpAnyH_take (i := 9) (v := .pointer (some ⟨w.heap.size + 1, 0, none⟩)) rfl (by kernel_rfl) (by kernel_rfl) (by kernel_rfl) (fun _ _ _ h => h) (Or.inl ⟨by rfl, fun w hSw => by (try dsimp only at hSw); go_simp⟩) (by assumption) ?_; (try simp only [Act.put, List.setIfInBounds_toArray, List.set_cons_zero, List.set_cons_succ, List.getElem_toArray, List.getElem_cons_zero, List.getElem_cons_succ])
                    refine wpAnyH_take (i := 10) (v := .string an) rfl (by kernel_rfl) (by kernel_rfl) (by kernel_rfl) (fun _ _ _ h => h) (Or.inl ⟨by rfl, fun w hSw => by (try dsimp only at hSw); go_simp⟩) (by assumption) ?_; (try simp only [Act.put, List.setIfInBounds_toArray, List.set_cons_zero, List.set_cons_succ, List.getElem_toArray, List.getElem_cons_zero, List.getElem_cons_succ])
                    refine wpAnyH_ready (rs := [11]) (by kernel_rfl) (by simp) ?_; refine AllReadyH.cons rfl (fun K hK => ?_) AllReadyH.nil; go_simp; ((go_at_call 117; refine (l01HasM_any X.al[kk].2.2 an _ B _ cc rfl HNM.out).mono ?_; rintro e w9 ⟨rfl, rfl⟩)); (try go_wp2_with fail); refine hK.out _ _ hS (fun hHeld => ?_); clear hK K; (try simp only [Act.put, List.setIfInBounds_toArray, List.set_cons_zero, List.set_cons_succ, List.getElem_toArray, List.getElem_cons_zero, List.getElem_cons_succ])
                    refine wpAnyH_take (i := 12) (v := .bool (hasM X.al[kk].2.2 an)) rfl (by kernel_rfl) (by kernel_rfl) (by kernel_rfl) (fun _ _ _ h => h) (Or.inl ⟨by rfl, fun w hSw => by (try dsimp only at hSw); go_simp⟩) (by assumption) ?_; (try simp only [Act.put, List.setIfInBounds_toArray, List.set_cons_zero, List.set_cons_succ, List.getElem_toArray, List.getElem_cons_zero, List.getElem_cons_succ])
                    refine wpAnyH_take (i := 13) (v := .bool (hasM X.al[kk].2.2 an)) rfl (by kernel_rfl) (by kernel_rfl) (by kernel_rfl) (fun _ _ _ h => h) (Or.inl ⟨by rfl, fun w hSw => by (try dsimp only at hSw); go_simp⟩) (by assumption) ?_; (try simp only [Act.put, List.setIfInBounds_toArray, List.set_cons_zero, List.set_cons_succ, List.getElem_toArray, List.getElem_cons_zero, List.getElem_cons_succ])
                    refine wpAnyH_done (by kernel_rfl) ?_ _
                    go_wp2
                    go_ret
                    exact ⟨ret_bool (by rw [HM.out, HAT.out, HDD.out, HK.out.2, HHB.out]; simp), HD2.out.1.2.2.1⟩
                  · have HDA := Lib.hid hda
                    have HD5 := Lib.hid hd5
                    clear hdd hda hd5
                    go_enter Tryz.func170, Tryz.ntmps170
                    go_wp2_with fail
                    refine (l01Handler_any an _ HN.out.1).mono ?_
                    rintro e w1 ⟨rfl, rfl⟩
                    rw [HQ.out]
                    go_wp2_with fail
                    refine (l01Link_any an _).mono ?_
                    rintro e w1 ⟨rfl, hB⟩
                    rw [HZ.out]
                    have HX := Lib.hid (HX.out.next hB)
                    clear hB p0 p1 p2 p3 p4 p5 p6 p7 p8 s0 s1
                    obtain ⟨p0, p1, p2, p3, p4, p5, p6, p7, p8⟩ := lay9 HX.out.1.1
                    obtain ⟨s0, s1⟩ := lay2u HX.out.2.1
                    go_wp2_with fail
                    refine (l01Bad_any av _ HN.out.2.1).mono ?_
                    rintro e w1 ⟨rfl, rfl⟩
                    rw [HW.out]
                    go_wp2_with fail
                    refine (l01HasM_any X.dp an _ V.a5 _ V.c5 rfl HX.out.1.2.1.dp).mono ?_
                    rintro e w1 ⟨rfl, rfl⟩
                    rw [HD.out]
                    rw [HHB.out] at p1
                    go_wp2_with fail
                    refine (l01HasM_any X.at_ an _ V.a4 _ V.c4 rfl HX.out.1.2.1.at_).mono ?_
                    rintro e w1 ⟨rfl, rfl⟩
                    rw [HAT.out]
                    rw [HDA.out] at p8
                    have hz5 := HD5.out
                    go_wp2_with fail
                    refine (l07At_any X.al sp n _ V.a1 V.c1 HX.out.1.2.1.al).mono ?_
                    rintro e w1 ⟨rfl, rfl⟩
                    rw [HK.out.1]
                    go_wp2_with fail
                    have HD2 := Lib.hid (HX.out.next (Below.refl _ _).drew)
                    obtain ⟨gb, ob, hga, hgb, t1, t2, t3, B, cc, t4, t6, t5⟩ := HD2.out.1.2.1.al.get HLT.out
                    have hltn := HLT.out
                    have HNM := Lib.hid t5
                    have hS : (fun w' => w'.cell? ⟨w.heap.size, 2, none⟩ = some (.slice (some ⟨gb, ob, none⟩) X.al.length V.c1) ∧ w'.cell? ⟨gb, ob + kk * 3 + 2, none⟩ = some (.slice B X.al[kk].2.2.length cc) ∧ w'.cell? ⟨w.heap.size + 1, 0, none⟩ = some (.string an)) w1.drew := ⟨by have := (lay9 HD2.out.1.1).2.2.1; rw [hga] at this; exact this, t4, (lay2u HD2.out.2.1).1⟩
                    clear t5 hga t1 t2 t3 t6 p0 p1 p2 p3 p4 p5 p6 p7 p8 s0 s1
                    refine wp_region_held_drew (S := fun w' => w'.cell? ⟨w.heap.size, 2, none⟩ = some (.slice (some ⟨gb, ob, none⟩) X.al.length V.c1) ∧ w'.cell? ⟨gb, ob + kk * 3 + 2, none⟩ = some (.slice B X.al[kk].2.2.length cc) ∧ w'.cell? ⟨w.heap.size + 1, 0, none⟩ = some (.string an)) (by kernel_rfl) hS (fun hHeld => ?_)
                    refine wpAnyH_take (i := 0) (v := .int .i64 (kk : Int)) rfl (by kernel_rfl) (by kernel_rfl) (by kernel_rfl) (fun _ _ _ h => h) (Or.inl ⟨by rfl, fun w hSw => by (try dsimp only at hSw); go_simp⟩) (by assumption) ?_; (try simp only [Act.put, List.setIfInBounds_toArray, List.set_cons_zero, List.set_cons_succ, List.getElem_toArray, List.getElem_cons_zero])
                    refine wpAnyH_take (i := 1) (v := .bool true) rfl (by kernel_rfl) (by kernel_rfl) (by kernel_rfl) (fun _ _ _ h => h) (Or.inl ⟨by rfl, fun w hSw => by (try dsimp only at hSw); go_simp⟩) (by assumption) ?_; (try simp only [Act.put, List.setIfInBounds_toArray, List.set_cons_zero, List.set_cons_succ, List.getElem_toArray, List.getElem_cons_zero, List.getElem_cons_succ])
                    refine wpAnyH_take (i := 2) (v := .bool true) rfl (by kernel_rfl) (by kernel_rfl) (by kernel_rfl) (fun _ _ _ h => h) (Or.inl ⟨by rfl, fun w hSw => by (try dsimp only at hSw); go_simp⟩) (by assumption) ?_; (try simp only [Act.put, List.setIfInBounds_toArray, List.set_cons_zero, List.set_cons_succ, List.getElem_toArray, List.getElem_cons_zero, List.getElem_cons_succ])
                    refine wpAnyH_take (i := 3) (v := .pointer (some ⟨w.heap.size, 2, none⟩)) rfl (by kernel_rfl) (by kernel_rfl) (by kernel_rfl) (fun _ _ _ h => h) (Or.inl ⟨by rfl, fun w hSw => by (try dsimp only at hSw); go_simp⟩) (by assumption) ?_; (try simp only [Act.put, List.setIfInBounds_toArray, List.set_cons_zero, List.set_cons_succ, List.getElem_toArray, List.getElem_cons_zero, List.getElem_cons_succ])
                    refine wpAnyH_take (i := 4) (v := .slice (some ⟨gb, ob, none⟩) X.al.length V.c1) rfl (by kernel_rfl) (by kernel_rfl) (by kernel_rfl) (fun _ _ _ h => h) (Or.inl ⟨by rfl, fun w hSw => by (try dsimp only at hSw); go_simp⟩) (by assumption) ?_; (try simp only [Act.put, List.setIfInBounds_toArray, List.set_cons_zero, List.set_cons_succ, List.getElem_toArray, List.getElem_cons_zero, List.getElem_cons_succ])
                    refine wpAnyH_take (i := 5) (v := .int .i64 (kk : Int)) rfl (by kernel_rfl) (by kernel_rfl) (by kernel_rfl) (fun _ _ _ h => h) (Or.inl ⟨by rfl, fun w hSw => by (try dsimp only at hSw); go_simp⟩) (by assumption) ?_; (try simp only [Act.put, List.setIfInBounds_toArray, List.set_cons_zero, List.set_cons_succ, List.getElem_toArray, List.getElem_cons_zero, List.getElem_cons_succ])
                    refine wpAnyH_take (i := 6) (v := .pointer (some ⟨gb, ob + kk * 3, none⟩)) rfl (by kernel_rfl) (by kernel_rfl) (by kernel_rfl) (fun _ _ _ h => h) (Or.inl ⟨by rfl, fun w hSw => by (try dsimp only at hSw); go_simp⟩) (by assumption) ?_; (try simp only [Act.put, List.setIfInBounds_toArray, List.set_cons_zero, List.set_cons_succ, List.getElem_toArray, List.getElem_cons_zero, List.getElem_cons_succ])
                    refine wpAnyH_take (i := 7) (v := .pointer (some ⟨gb, ob + kk * 3 + 2, none⟩)) rfl (by kernel_rfl) (by kernel_rfl) (by kernel_rfl) (fun _ _ _ h => h) (Or.inl ⟨by rfl, fun w hSw => by (try dsimp only at hSw); go_simp⟩) (by assumption) ?_; (try simp only [Act.put, List.setIfInBounds_toArray, List.set_cons_zero, List.set_cons_succ, List.getElem_toArray, List.getElem_cons_zero, List.getElem_cons_succ])
                    refine wpAnyH_take (i := 8) (v := .slice B X.al[kk].2.2.length cc) rfl (by kernel_rfl) (by kernel_rfl) (by kernel_rfl) (fun _ _ _ h => h) (Or.inl ⟨by rfl, fun w hSw => by (try dsimp only at hSw); go_simp⟩) (by assumption) ?_; (try simp only [Act.put, List.setIfInBounds_toArray, List.set_cons_zero, List.set_cons_succ, List.getElem_toArray, List.getElem_cons_zero, List.getElem_cons_succ])
                    refine wpAnyH_take (i := 9) (v := .pointer (some ⟨w.heap.size + 1, 0, none⟩)) rfl (by kernel_rfl) (by kernel_rfl) (by kernel_rfl) (fun _ _ _ h => h) (Or.inl ⟨by rfl, fun w hSw => by (try dsimp only at hSw); go_simp⟩) (by assumption) ?_; (try simp only [Act.put, List.setIfInBounds_toArray, List.set_cons_zero, List.set_cons_succ, List.getElem_toArray, List.getElem_cons_zero, List.getElem_cons_succ])
                    refine wpAnyH_take (i := 10) (v := .string an) rfl (by kernel_rfl) (by kernel_rfl) (by kernel_rfl) (fun _ _ _ h => h) (Or.inl ⟨by rfl, fun w hSw => by (try dsimp only at hSw); go_simp⟩) (by assumption) ?_; (try simp only [Act.put, List.setIfInBounds_toArray, List.set_cons_zero, List.set_cons_succ, List.getElem_toArray, List.getElem_cons_zero, List.getElem_cons_succ])
                    refine wpAnyH_ready (rs := [11]) (by kernel_rfl) (by simp) ?_; refine AllReadyH.cons rfl (fun K hK => ?_) AllReadyH.nil; go_simp; ((go_at_call 117; refine (l01HasM_any X.al[kk].2.2 an _ B _ cc rfl HNM.out).mono ?_; rintro e w9 ⟨rfl, rfl⟩)); (try go_wp2_with fail); refine hK.out _ _ hS (fun hHeld => ?_); clear hK K; (try simp only [Act.put, List.setIfInBounds_toArray, List.set_cons_zero, List.set_cons_succ, List.getElem_toArray, List.getElem_cons_zero, List.getElem_cons_succ])
                    refine wpAnyH_take (i := 12) (v := .bool (hasM X.al[kk].2.2 an)) rfl (by kernel_rfl) (by kernel_rfl) (by kernel_rfl) (fun _ _ _ h => h) (Or.inl ⟨by rfl, fun w hSw => by (try dsimp only at hSw); go_simp⟩) (by assumption) ?_; (try simp only [Act.put, List.setIfInBounds_toArray, List.set_cons_zero, List.set_cons_succ, List.getElem_toArray, List.getElem_cons_zero, List.getElem_cons_succ])
                    refine wpAnyH_take (i := 13) (v := .bool (hasM X.al[kk].2.2 an)) rfl (by kernel_rfl) (by kernel_rfl) (by kernel_rfl) (fun _ _ _ h => h) (Or.inl ⟨by rfl, fun w hSw => by (try dsimp only at hSw); go_simp⟩) (by assumption) ?_; (try simp only [Act.put, List.setIfInBounds_toArray, List.set_cons_zero, List.set_cons_succ, List.getElem_toArray, List.getElem_cons_zero, List.getElem_cons_succ])
                    refine wpAnyH_done (by kernel_rfl) ?_ _
                    go_wp2
                    go_ret
                    exact ⟨ret_bool (by rw [HM.out, HAT.out, HDD.out, HK.out.2, HHB.out]; simp), HD2.out.1.2.2.1⟩
                  · have HDA := Lib.hid hda
                    have HD5 := Lib.hid (And.intro hd5 hdp)
                    clear hdd hda hd5 hdp
                    go_enter Tryz.func170, Tryz.ntmps170
                    go_wp2_with fail
                    refine (l01Handler_any an _ HN.out.1).mono ?_
                    rintro e w1 ⟨rfl, rfl⟩
                    rw [HQ.out]
                    go_wp2_with fail
                    refine (l01Link_any an _).mono ?_
                    rintro e w1 ⟨rfl, hB⟩
                    rw [HZ.out]
                    have HX := Lib.hid (HX.out.next hB)
                    clear hB p0 p1 p2 p3 p4 p5 p6 p7 p8 s0 s1
                    obtain ⟨p0, p1, p2, p3, p4, p5, p6, p7, p8⟩ := lay9 HX.out.1.1
                    obtain ⟨s0, s1⟩ := lay2u HX.out.2.1
                    go_wp2_with fail
                    refine (l01Bad_any av _ HN.out.2.1).mono ?_
                    rintro e w1 ⟨rfl, rfl⟩
                    rw [HW.out]
                    go_wp2_with fail
                    refine (l01HasM_any X.dp an _ V.a5 _ V.c5 rfl HX.out.1.2.1.dp).mono ?_
                    rintro e w1 ⟨rfl, rfl⟩
                    rw [HD.out]
                    rw [HHB.out] at p1
                    go_wp2_with fail
                    refine (l01HasM_any X.at_ an _ V.a4 _ V.c4 rfl HX.out.1.2.1.at_).mono ?_
                    rintro e w1 ⟨rfl, rfl⟩
                    rw [HAT.out]
                    rw [HDA.out] at p8
                    have hz5 := HD5.out.1
                    have hp5 := HD5.out.2
                    go_wp2_with fail
                    refine (l07At_any X.al sp n _ V.a1 V.c1 HX.out.1.2.1.al).mono ?_
                    rintro e w1 ⟨rfl, rfl⟩
                    rw [HK.out.1]
                    go_wp2_with fail
                    have HD2 := Lib.hid (HX.out.next (Below.refl _ _).drew)
                    obtain ⟨gb, ob, hga, hgb, t1, t2, t3, B, cc, t4, t6, t5⟩ := HD2.out.1.2.1.al.get HLT.out
                    have hltn := HLT.out
                    have HNM := Lib.hid t5
                    have hS : (fun w' => w'.cell? ⟨w.heap.size, 2, none⟩ = some (.slice (some ⟨gb, ob, none⟩) X.al.length V.c1) ∧ w'.cell? ⟨gb, ob + kk * 3 + 2, none⟩ = some (.slice B X.al[kk].2.2.length cc) ∧ w'.cell? ⟨w.heap.size + 1, 0, none⟩ = some (.string an)) w1.drew := ⟨by have := (lay9 HD2.out.1.1).2.2.1; rw [hga] at this; exact this, t4, (lay2u HD2.out.2.1).1⟩
                    clear t5 hga t1 t2 t3 t6 p0 p1 p2 p3 p4 p5 p6 p7 p8 s0 s1
                    refine wp_region_held_drew (S := fun w' => w'.cell? ⟨w.heap.size, 2, none⟩ = some (.slice (some ⟨gb, ob, none⟩) X.al.length V.c1) ∧ w'.cell? ⟨gb, ob + kk * 3 + 2, none⟩ = some (.slice B X.al[kk].2.2.length cc) ∧ w'.cell? ⟨w.heap.size + 1, 0, none⟩ = some (.string an)) (by kernel_rfl) hS (fun hHeld => ?_)
                    refine wpAnyH_take (i := 0) (v := .int .i64 (kk : Int)) rfl (by kernel_rfl) (by kernel_rfl) (by kernel_rfl) (fun _ _ _ h => h) (Or.inl ⟨by rfl, fun w hSw => by (try dsimp only at hSw); go_simp⟩) (by assumption) ?_; (try simp only [Act.put, List.setIfInBounds_toArray, List.set_cons_zero, List.set_cons_succ, List.getElem_toArray, List.getElem_cons_zero])
                    refine wpAnyH_take (i := 1) (v := .bool true) rfl (by kernel_rfl) (by kernel_rfl) (by kernel_rfl) (fun _ _ _ h => h) (Or.inl ⟨by rfl, fun w hSw => by (try dsimp only at hSw); go_simp⟩) (by assumption) ?_; (try simp only [Act.put, List.setIfInBounds_toArray, List.set_cons_zero, List.set_cons_succ, List.getElem_toArray, List.getElem_cons_zero, List.getElem_cons_succ])
                    refine wpAnyH_take (i := 2) (v := .bool true) rfl (by kernel_rfl) (by kernel_rfl) (by kernel_rfl) (fun _ _ _ h => h) (Or.inl ⟨by rfl, fun w hSw => by (try dsimp only at hSw); go_simp⟩) (by assumption) ?_; (try simp only [Act.put, List.setIfInBounds_toArray, List.set_cons_zero, List.set_cons_succ, List.getElem_toArray, List.getElem_cons_zero, List.getElem_cons_succ])
                    refine wpAnyH_take (i := 3) (v := .pointer (some ⟨w.heap.size, 2, none⟩)) rfl (by kernel_rfl) (by kernel_rfl) (by kernel_rfl) (fun _ _ _ h => h) (Or.inl ⟨by rfl, fun w hSw => by (try dsimp only at hSw); go_simp⟩) (by assumption) ?_; (try simp only [Act.put, List.setIfInBounds_toArray, List.set_cons_zero, List.set_cons_succ, List.getElem_toArray, List.getElem_cons_zero, List.getElem_cons_succ])
                    refine wpAnyH_take (i := 4) (v := .slice (some ⟨gb, ob, none⟩) X.al.length V.c1) rfl (by kernel_rfl) (by kernel_rfl) (by kernel_rfl) (fun _ _ _ h => h) (Or.inl ⟨by rfl, fun w hSw => by (try dsimp only at hSw); go_simp⟩) (by assumption) ?_; (try simp only [Act.put, List.setIfInBounds_toArray, List.set_cons_zero, List.set_cons_succ, List.getElem_toArray, List.getElem_cons_zero, List.getElem_cons_succ])
                    refine wpAnyH_take (i := 5) (v := .int .i64 (kk : Int)) rfl (by kernel_rfl) (by kernel_rfl) (by kernel_rfl) (fun _ _ _ h => h) (Or.inl ⟨by rfl, fun w hSw => by (try dsimp only at hSw); go_simp⟩) (by assumption) ?_; (try simp only [Act.put, List.setIfInBounds_toArray, List.set_cons_zero, List.set_cons_succ, List.getElem_toArray, List.getElem_cons_zero, List.getElem_cons_succ])
                    refine wpAnyH_take (i := 6) (v := .pointer (some ⟨gb, ob + kk * 3, none⟩)) rfl (by kernel_rfl) (by kernel_rfl) (by kernel_rfl) (fun _ _ _ h => h) (Or.inl ⟨by rfl, fun w hSw => by (try dsimp only at hSw); go_simp⟩) (by assumption) ?_; (try simp only [Act.put, List.setIfInBounds_toArray, List.set_cons_zero, List.set_cons_succ, List.getElem_toArray, List.getElem_cons_zero, List.getElem_cons_succ])
                    refine wpAnyH_take (i := 7) (v := .pointer (some ⟨gb, ob + kk * 3 + 2, none⟩)) rfl (by kernel_rfl) (by kernel_rfl) (by kernel_rfl) (fun _ _ _ h => h) (Or.inl ⟨by rfl, fun w hSw => by (try dsimp only at hSw); go_simp⟩) (by assumption) ?_; (try simp only [Act.put, List.setIfInBounds_toArray, List.set_cons_zero, List.set_cons_succ, List.getElem_toArray, List.getElem_cons_zero, List.getElem_cons_succ])
                    refine wpAnyH_take (i := 8) (v := .slice B X.al[kk].2.2.length cc) rfl (by kernel_rfl) (by kernel_rfl) (by kernel_rfl) (fun _ _ _ h => h) (Or.inl ⟨by rfl, fun w hSw => by (try dsimp only at hSw); go_simp⟩) (by assumption) ?_; (try simp only [Act.put, List.setIfInBounds_toArray, List.set_cons_zero, List.set_cons_succ, List.getElem_toArray, List.getElem_cons_zero, List.getElem_cons_succ])
                    refine wpAnyH_take (i := 9) (v := .pointer (some ⟨w.heap.size + 1, 0, none⟩)) rfl (by kernel_rfl) (by kernel_rfl) (by kernel_rfl) (fun _ _ _ h => h) (Or.inl ⟨by rfl, fun w hSw => by (try dsimp only at hSw); go_simp⟩) (by assumption) ?_; (try simp only [Act.put, List.setIfInBounds_toArray, List.set_cons_zero, List.set_cons_succ, List.getElem_toArray, List.getElem_cons_zero, List.getElem_cons_succ])
                    refine wpAnyH_take (i := 10) (v := .string an) rfl (by kernel_rfl) (by kernel_rfl) (by kernel_rfl) (fun _ _ _ h => h) (Or.inl ⟨by rfl, fun w hSw => by (try dsimp only at hSw); go_simp⟩) (by assumption) ?_; (try simp only [Act.put, List.setIfInBounds_toArray, List.set_cons_zero, List.set_cons_succ, List.getElem_toArray, List.getElem_cons_zero, List.getElem_cons_succ])
                    refine wpAnyH_ready (rs := [11]) (by kernel_rfl) (by simp) ?_; refine AllReadyH.cons rfl (fun K hK => ?_) AllReadyH.nil; go_simp; ((go_at_call 117; refine (l01HasM_any X.al[kk].2.2 an _ B _ cc rfl HNM.out).mono ?_; rintro e w9 ⟨rfl, rfl⟩)); (try go_wp2_with fail); refine hK.out _ _ hS (fun hHeld => ?_); clear hK K; (try simp only [Act.put, List.setIfInBounds_toArray, List.set_cons_zero, List.set_cons_succ, List.getElem_toArray, List.getElem_cons_zero, List.getElem_cons_succ])
                    refine wpAnyH_take (i := 12) (v := .bool (hasM X.al[kk].2.2 an)) rfl (by kernel_rfl) (by kernel_rfl) (by kernel_rfl) (fun _ _ _ h => h) (Or.inl ⟨by rfl, fun w hSw => by (try dsimp only at hSw); go_simp⟩) (by assumption) ?_; (try simp only [Act.put, List.setIfInBounds_toArray, List.set_cons_zero, List.set_cons_succ, List.getElem_toArray, List.getElem_cons_zero, List.getElem_cons_succ])
                    refine wpAnyH_take (i := 13) (v := .bool (hasM X.al[kk].2.2 an)) rfl (by kernel_rfl) (by kernel_rfl) (by kernel_rfl) (fun _ _ _ h => h) (Or.inl ⟨by rfl, fun w hSw => by (try dsimp only at hSw); go_simp⟩) (by assumption) ?_; (try simp only [Act.put, List.setIfInBounds_toArray, List.set_cons_zero, List.set_cons_succ, List.getElem_toArray, List.getElem_cons_zero, List.getElem_cons_succ])
                    refine wpAnyH_done (by kernel_rfl) ?_ _
                    go_wp2
                    go_ret
                    exact ⟨ret_bool (by rw [HM.out, HAT.out, HDD.out, HK.out.2, HHB.out]; simp), HD2.out.1.2.2.1⟩
                · have HK := Lib.hid (attrsOf_neg hr)
                  obtain ⟨kk, hkk⟩ : ∃ kk : Int, ruAt X.al sp n = kk := ⟨_, rfl⟩
                  rw [hkk] at hr
                  have HKK := Lib.hid hkk
                  clear hkk
                  rcases data_no hdd with hda | ⟨hda, hd5⟩ | ⟨hda, hd5, hdp⟩
                  · have HDA := Lib.hid hda
                    clear hdd hda
                    go_enter Tryz.func170, Tryz.ntmps170
                    go_wp2_with fail
                    refine (l01Handler_any an _ HN.out.1).mono ?_
                    rintro e w1 ⟨rfl, rfl⟩
                    rw [HQ.out]
                    go_wp2_with fail
                    refine (l01Link_any an _).mono ?_
                    rintro e w1 ⟨rfl, hB⟩
                    rw [HZ.out]
                    have HX := Lib.hid (HX.out.next hB)
                    clear hB p0 p1 p2 p3 p4 p5 p6 p7 p8 s0 s1
                    obtain ⟨p0, p1, p2, p3, p4, p5, p6, p7, p8⟩ := lay9 HX.out.1.1
                    obtain ⟨s0, s1⟩ := lay2u HX.out.2.1
                    go_wp2_with fail
                    refine (l01Bad_any av _ HN.out.2.1).mono ?_
                    rintro e w1 ⟨rfl, rfl⟩
                    rw [HW.out]
                    go_wp2_with fail
                    refine (l01HasM_any X.dp an _ V.a5 _ V.c5 rfl HX.out.1.2.1.dp).mono ?_
                    rintro e w1 ⟨rfl, rfl⟩
                    rw [HD.out]
                    rw [HHB.out] at p1
                    go_wp2_with fail
                    refine (l01HasM_any X.at_ an _ V.a4 _ V.c4 rfl HX.out.1.2.1.at_).mono ?_
                    rintro e w1 ⟨rfl, rfl⟩
                    rw [HAT.out]
                    rw [HDA.out] at p8
                    go_wp2_with fail
                    refine (l07At_any X.al sp n _ V.a1 V.c1 HX.out.1.2.1.al).mono ?_
                    rintro e w1 ⟨rfl, rfl⟩
                    rw [HKK.out]
                    go_wp2_with fail
                    have HD2 := Lib.hid (HX.out.next (Below.refl _ _).drew)
                    clear p0 p1 p2 p3 p4 p5 p6 p7 p8 s0 s1
                    have hrn : decide (kk ≥ 0) = false := by simpa using hr
                    refine wp_region_held_drew (S := fun _ => True) (by kernel_rfl) trivial (fun hHeld => ?_)
                    refine wpAnyH_take (i := 0) (v := .int .i64 kk) rfl (by kernel_rfl) (by kernel_rfl) (by kernel_rfl) (fun _ _ _ h => h) (Or.inl ⟨by rfl, fun w hSw => by (try dsimp only at hSw); go_simp⟩) (by assumption) ?_; (try simp only [Act.put, List.setIfInBounds_toArray, List.set_cons_zero, List.set_cons_succ, List.getElem_toArray, List.getElem_cons_zero])
                    refine wpAnyH_take (i := 1) (v := .bool false) rfl (by kernel_rfl) (by kernel_rfl) (by kernel_rfl) (fun _ _ _ h => h) (Or.inl ⟨by rfl, fun w hSw => by (try dsimp only at hSw); go_simp⟩) (by assumption) ?_; (try simp only [Act.put, List.setIfInBounds_toArray, List.set_cons_zero, List.set_cons_succ, List.getElem_toArray, List.getElem_cons_zero, List.getElem_cons_succ])
                    refine wpAnyH_take (i := 2) (v := .bool false) rfl (by kernel_rfl) (by kernel_rfl) (by kernel_rfl) (fun _ _ _ h => h) (Or.inl ⟨by rfl, fun w hSw => by (try dsimp only at hSw); go_simp⟩) (by assumption) ?_; (try simp only [Act.put, List.setIfInBounds_toArray, List.set_cons_zero, List.set_cons_succ, List.getElem_toArray, List.getElem_cons_zero, List.getElem_cons_succ])
                    refine wpAnyH_take (i := 3) (v := undef) rfl (by kernel_rfl) (by kernel_rfl) (by kernel_rfl) (fun _ _ _ h => h) (Or.inr ⟨by rfl, rfl⟩) (by assumption) ?_; (try simp only [Act.put, List.setIfInBounds_toArray, List.set_cons_zero, List.set_cons_succ, List.getElem_toArray, List.getElem_cons_zero, List.getElem_cons_succ])
                    refine wpAnyH_take (i := 4) (v := undef) rfl (by kernel_rfl) (by kernel_rfl) (by kernel_rfl) (fun _ _ _ h => h) (Or.inr ⟨by rfl, rfl⟩) (by assumption) ?_; (try simp only [Act.put, List.setIfInBounds_toArray, List.set_cons_zero, List.set_cons_succ, List.getElem_toArray, List.getElem_cons_zero, List.getElem_cons_succ])
                    refine wpAnyH_take (i := 5) (v := undef) rfl (by kernel_rfl) (by kernel_rfl) (by kernel_rfl) (fun _ _ _ h => h) (Or.inr ⟨by rfl, rfl⟩) (by assumption) ?_; (try simp only [Act.put, List.setIfInBounds_toArray, List.set_cons_zero, List.set_cons_succ, List.getElem_toArray, List.getElem_cons_zero, List.getElem_cons_succ])
                    refine wpAnyH_take (i := 6) (v := undef) rfl (by kernel_rfl) (by kernel_rfl) (by kernel_rfl) (fun _ _ _ h => h) (Or.inr ⟨by rfl, rfl⟩) (by assumption) ?_; (try simp only [Act.put, List.setIfInBounds_toArray, List.set_cons_zero, List.set_cons_succ, List.getElem_toArray, List.getElem_cons_zero, List.getElem_cons_succ])
                    refine wpAnyH_take (i := 7) (v := undef) rfl (by kernel_rfl) (by kernel_rfl) (by kernel_rfl) (fun _ _ _ h => h) (Or.inr ⟨by rfl, rfl⟩) (by assumption) ?_; (try simp only [Act.put, List.setIfInBounds_toArray, List.set_cons_zero, List.set_cons_succ, List.getElem_toArray, List.getElem_cons_zero, List.getElem_cons_succ])
                    refine wpAnyH_take (i := 8) (v := undef) rfl (by kernel_rfl) (by kernel_rfl) (by kernel_rfl) (fun _ _ _ h => h) (Or.inr ⟨by rfl, rfl⟩) (by assumption) ?_; (try simp only [Act.put, List.setIfInBounds_toArray, List.set_cons_zero, List.set_cons_succ, List.getElem_toArray, List.getElem_cons_zero, List.getElem_cons_succ])
                    refine wpAnyH_take (i := 9) (v := undef) rfl (by kernel_rfl) (by kernel_rfl) (by kernel_rfl) (fun _ _ _ h => h) (Or.inr ⟨by rfl, rfl⟩) (by assumption) ?_; (try simp only [Act.put, List.setIfInBounds_toArray, List.set_cons_zero, List.set_cons_succ, List.getElem_toArray, List.getElem_cons_zero, List.getElem_cons_succ])
                    refine wpAnyH_take (i := 10) (v := undef) rfl (by kernel_rfl) (by kernel_rfl) (by kernel_rfl) (fun _ _ _ h => h) (Or.inr ⟨by rfl, rfl⟩) (by assumption) ?_; (try simp only [Act.put, List.setIfInBounds_toArray, List.set_cons_zero, List.set_cons_succ, List.getElem_toArray, List.getElem_cons_zero, List.getElem_cons_succ])
                    refine wpAnyH_take (i := 11) (v := undef) rfl (by kernel_rfl) (by kernel_rfl) (by kernel_rfl) (fun _ _ _ h => h) (Or.inr ⟨by rfl, rfl⟩) (by assumption) ?_; (try simp only [Act.put, List.setIfInBounds_toArray, List.set_cons_zero, List.set_cons_succ, List.getElem_toArray, List.getElem_cons_zero, List.getElem_cons_succ])
                    refine wpAnyH_take (i := 12) (v := .bool false) rfl (by kernel_rfl) (by kernel_rfl) (by kernel_rfl) (fun _ _ _ h => h) (Or.inl ⟨by rfl, fun w hSw => by (try dsimp only at hSw); go_simp⟩) (by assumption) ?_; (try simp only [Act.put, List.setIfInBounds_toArray, List.set_cons_zero, List.set_cons_succ, List.getElem_toArray, List.getElem_cons_zero, List.getElem_cons_succ])
                    refine wpAnyH_take (i := 13) (v := .bool false) rfl (by kernel_rfl) (by kernel_rfl) (by kernel_rfl) (fun _ _ _ h => h) (Or.inl ⟨by rfl, fun w hSw => by (try dsimp only at hSw); go_simp⟩) (by assumption) ?_; (try simp only [Act.put, List.setIfInBounds_toArray, List.set_cons_zero, List.set_cons_succ, List.getElem_toArray, List.getElem_cons_zero, List.getElem_cons_succ])
                    refine wpAnyH_done (by kernel_rfl) ?_ _
                    go_wp2
                    go_ret
                    exact ⟨ret_bool (by rw [HM.out, HAT.out, HDD.out, HK.out, HHB.out]; simp [hasM]), HD2.out.1.2.2.1⟩
                  · have HDA := Lib.hid hda
                    have HD5 := Lib.hid hd5
                    clear hdd hda hd5
                    go_enter Tryz.func170, Tryz.ntmps170
                    go_wp2_with fail
                    refine (l01Handler_any an _ HN.out.1).mono ?_
                    rintro e w1 ⟨rfl, rfl⟩
                    rw [HQ.out]
                    go_wp2_with fail
                    refine (l01Link_any an _).mono ?_
                    rintro e w1 ⟨rfl, hB⟩
                    rw [HZ.out]
                    have HX := Lib.hid (HX.out.next hB)
                    clear hB p0 p1 p2 p3 p4 p5 p6 p7 p8 s0 s1
                    obtain ⟨p0, p1, p2, p3, p4, p5, p6, p7, p8⟩ := lay9 HX.out.1.1
                    obtain ⟨s0, s1⟩ := lay2u HX.out.2.1
                    go_wp2_with fail
                    refine (l01Bad_any av _ HN.out.2.1).mono ?_
                    rintro e w1 ⟨rfl, rfl⟩
                    rw [HW.out]
                    go_wp2_with fail
                    refine (l01HasM_any X.dp an _ V.a5 _ V.c5 rfl HX.out.1.2.1.dp).mono ?_
                    rintro e w1 ⟨rfl, rfl⟩
                    rw [HD.out]
                    rw [HHB.out] at p1
                    go_wp2_with fail
                    refine (l01HasM_any X.at_ an _ V.a4 _ V.c4 rfl HX.out.1.2.1.at_).mono ?_
                    rintro e w1 ⟨rfl, rfl⟩
                    rw [HAT.out]
                    rw [HDA.out] at p8
                    have hz5 := HD5.out
                    go_wp2_with fail
                    refine (l07At_any X.al sp n _ V.a1 V.c1 HX.out.1.2.1.al).mono ?_
                    rintro e w1 ⟨rfl, rfl⟩
                    rw [HKK.out]
                    go_wp2_with fail
                    have HD2 := Lib.hid (HX.out.next (Below.refl _ _).drew)
                    clear p0 p1 p2 p3 p4 p5 p6 p7 p8 s0 s1
                    have hrn : decide (kk ≥ 0) = false := by simpa using hr
                    refine wp_region_held_drew (S := fun _ => True) (by kernel_rfl) trivial (fun hHeld => ?_)
                    refine wpAnyH_take (i := 0) (v := .int .i64 kk) rfl (by kernel_rfl) (by kernel_rfl) (by kernel_rfl) (fun _ _ _ h => h) (Or.inl ⟨by rfl, fun w hSw => by (try dsimp only at hSw); go_simp⟩) (by assumption) ?_; (try simp only [Act.put, List.setIfInBounds_toArray, List.set_cons_zero, List.set_cons_succ, List.getElem_toArray, List.getElem_cons_zero])
                    refine wpAnyH_take (i := 1) (v := .bool false) rfl (by kernel_rfl) (by kernel_rfl) (by kernel_rfl) (fun _ _ _ h => h) (Or.inl ⟨by rfl, fun w hSw => by (try dsimp only at hSw); go_simp⟩) (by assumption) ?_; (try simp only [Act.put, List.setIfInBounds_toArray, List.set_cons_zero, List.set_cons_succ, List.getElem_toArray, List.getElem_cons_zero, List.getElem_cons_succ])
                    refine wpAnyH_take (i := 2) (v := .bool false) rfl (by kernel_rfl) (by kernel_rfl) (by kernel_rfl) (fun _ _ _ h => h) (Or.inl ⟨by rfl, fun w hSw => by (try dsimp only at hSw); go_simp⟩) (by assumption) ?_; (try simp only [Act.put, List.setIfInBounds_toArray, List.set_cons_zero, List.set_cons_succ, List.getElem_toArray, List.getElem_cons_zero, List.getElem_cons_succ])
                    refine wpAnyH_take (i := 3) (v := undef) rfl (by kernel_rfl) (by kernel_rfl) (by kernel_rfl) (fun _ _ _ h => h) (Or.inr ⟨by rfl, rfl⟩) (by assumption) ?_; (try simp only [Act.put, List.setIfInBounds_toArray, List.set_cons_zero, List.set_cons_succ, List.getElem_toArray, List.getElem_cons_zero, List.getElem_cons_succ])
                    refine wpAnyH_take (i := 4) (v := undef) rfl (by kernel_rfl) (by kernel_rfl) (by kernel_rfl) (fun _ _ _ h => h) (Or.inr ⟨by rfl, rfl⟩) (by assumption) ?_; (try simp only [Act.put, List.setIfInBounds_toArray, List.set_cons_zero, List.set_cons_succ, List.getElem_toArray, List.getElem_cons_zero, List.getElem_cons_succ])
                    refine wpAnyH_take (i := 5) (v := undef) rfl (by kernel_rfl) (by kernel_rfl) (by kernel_rfl) (fun _ _ _ h => h) (Or.inr ⟨by rfl, rfl⟩) (by assumption) ?_; (try simp only [Act.put, List.setIfInBounds_toArray, List.set_cons_zero, List.set_cons_succ, List.getElem_toArray, List.getElem_cons_zero, List.getElem_cons_succ])
                    refine wpAnyH_take (i := 6) (v := undef) rfl (by kernel_rfl) (by kernel_rfl) (by kernel_rfl) (fun _ _ _ h => h) (Or.inr ⟨by rfl, rfl⟩) (by assumption) ?_; (try simp only [Act.put, List.setIfInBounds_toArray, List.set_cons_zero, List.set_cons_succ, List.getElem_toArray, List.getElem_cons_zero, List.getElem_cons_succ])
                    refine wpAnyH_take (i := 7) (v := undef) rfl (by kernel_rfl) (by kernel_rfl) (by kernel_rfl) (fun _ _ _ h => h) (Or.inr ⟨by rfl, rfl⟩) (by assumption) ?_; (try simp only [Act.put, List.setIfInBounds_toArray, List.set_cons_zero, List.set_cons_succ, List.getElem_toArray, List.getElem_cons_zero, List.getElem_cons_succ])
                    refine wpAnyH_take (i := 8) (v := undef) rfl (by kernel_rfl) (by kernel_rfl) (by kernel_rfl) (fun _ _ _ h => h) (Or.inr ⟨by rfl, rfl⟩) (by assumption) ?_; (try simp only [Act.put, List.setIfInBounds_toArray, List.set_cons_zero, List.set_cons_succ, List.getElem_toArray, List.getElem_cons_zero, List.getElem_cons_succ])
                    refine wpAnyH_take (i := 9) (v := undef) rfl (by kernel_rfl) (by kernel_rfl) (by kernel_rfl) (fun _ _ _ h => h) (Or.inr ⟨by rfl, rfl⟩) (by assumption) ?_; (try simp only [Act.put, List.setIfInBounds_toArray, List.set_cons_zero, List.set_cons_succ, List.getElem_toArray, List.getElem_cons_zero, List.getElem_cons_succ])
                    refine wpAnyH_take (i := 10) (v := undef) rfl (by kernel_rfl) (by kernel_rfl) (by kernel_rfl) (fun _ _ _ h => h) (Or.inr ⟨by rfl, rfl⟩) (by assumption) ?_; (try simp only [Act.put, List.setIfInBounds_toArray, List.set_cons_zero, List.set_cons_succ, List.getElem_toArray, List.getElem_cons_zero, List.getElem_cons_succ])
                    refine wpAnyH_take (i := 11) (v := undef) rfl (by kernel_rfl) (by kernel_rfl) (by kernel_rfl) (fun _ _ _ h => h) (Or.inr ⟨by rfl, rfl⟩) (by assumption) ?_; (try simp only [Act.put, List.setIfInBounds_toArray, List.set_cons_zero, List.set_cons_succ, List.getElem_toArray, List.getElem_cons_zero, List.getElem_cons_succ])
                    refine wpAnyH_take (i := 12) (v := .bool false) rfl (by kernel_rfl) (by kernel_rfl) (by kernel_rfl) (fun _ _ _ h => h) (Or.inl ⟨by rfl, fun w hSw => by (try dsimp only at hSw); go_simp⟩) (by assumption) ?_; (try simp only [Act.put, List.setIfInBounds_toArray, List.set_cons_zero, List.set_cons_succ, List.getElem_toArray, List.getElem_cons_zero, List.getElem_cons_succ])
                    refine wpAnyH_take (i := 13) (v := .bool false) rfl (by kernel_rfl) (by kernel_rfl) (by kernel_rfl) (fun _ _ _ h => h) (Or.inl ⟨by rfl, fun w hSw => by (try dsimp only at hSw); go_simp⟩) (by assumption) ?_; (try simp only [Act.put, List.setIfInBounds_toArray, List.set_cons_zero, List.set_cons_succ, List.getElem_toArray, List.getElem_cons_zero, List.getElem_cons_succ])
                    refine wpAnyH_done (by kernel_rfl) ?_ _
                    go_wp2
                    go_ret
                    exact ⟨ret_bool (by rw [HM.out, HAT.out, HDD.out, HK.out, HHB.out]; simp [hasM]), HD2.out.1.2.2.1⟩
                  · have HDA := Lib.hid hda
                    have HD5 := Lib.hid (And.intro hd5 hdp)
                    clear hdd hda hd5 hdp
                    go_enter Tryz.func170, Tryz.ntmps170
                    go_wp2_with fail
                    refine (l01Handler_any an _ HN.out.1).mono ?_
                    rintro e w1 ⟨rfl, rfl⟩
                    rw [HQ.out]
                    go_wp2_with fail
                    refine (l01Link_any an _).mono ?_
                    rintro e w1 ⟨rfl, hB⟩
                    rw [HZ.out]
                    have HX := Lib.hid (HX.out.next hB)
                    clear hB p0 p1 p2 p3 p4 p5 p6 p7 p8 s0 s1
                    obtain ⟨p0, p1, p2, p3, p4, p5, p6, p7, p8⟩ := lay9 HX.out.1.1
                    obtain ⟨s0, s1⟩ := lay2u HX.out.2.1
                    go_wp2_with fail
                    refine (l01Bad_any av _ HN.out.2.1).mono ?_
                    rintro e w1 ⟨rfl, rfl⟩
                    rw [HW.out]
                    go_wp2_with fail
                    refine (l01HasM_any X.dp an _ V.a5 _ V.c5 rfl HX.out.1.2.1.dp).mono ?_
                    rintro e w1 ⟨rfl, rfl⟩
                    rw [HD.out]
                    rw [HHB.out] at p1
                    go_wp2_with fail
                    refine (l01HasM_any X.at_ an _ V.a4 _ V.c4 rfl HX.out.1.2.1.at_).mono ?_
                    rintro e w1 ⟨rfl, rfl⟩
                    rw [HAT.out]
                    rw [HDA.out] at p8
                    have hz5 := HD5.out.1
                    have hp5 := HD5.out.2
                    go_wp2_with fail
                    refine (l07At_any X.al sp n _ V.a1 V.c1 HX.out.1.2.1.al).mono ?_
                    rintro e w1 ⟨rfl, rfl⟩
                    rw [HKK.out]
                    go_wp2_with fail
                    have HD2 := Lib.hid (HX.out.next (Below.refl _ _).drew)
                    clear p0 p1 p2 p3 p4 p5 p6 p7 p8 s0 s1
                    have hrn : decide (kk ≥ 0) = false := by simpa using hr
                    refine wp_region_held_drew (S := fun _ => True) (by kernel_rfl) trivial (fun hHeld => ?_)
                    refine wpAnyH_take (i := 0) (v := .int .i64 kk) rfl (by kernel_rfl) (by kernel_rfl) (by kernel_rfl) (fun _ _ _ h => h) (Or.inl ⟨by rfl, fun w hSw => by (try dsimp only at hSw); go_simp⟩) (by assumption) ?_; (try simp only [Act.put, List.setIfInBounds_toArray, List.set_cons_zero, List.set_cons_succ, List.getElem_toArray, List.getElem_cons_zero])
                    refine wpAnyH_take (i := 1) (v := .bool false) rfl (by kernel_rfl) (by kernel_rfl) (by kernel_rfl) (fun _ _ _ h => h) (Or.inl ⟨by rfl, fun w hSw => by (try dsimp only at hSw); go_simp⟩) (by assumption) ?_; (try simp only [Act.put, List.setIfInBounds_toArray, List.set_cons_zero, List.set_cons_succ, List.getElem_toArray, List.getElem_cons_zero, List.getElem_cons_succ])
                    refine wpAnyH_take (i := 2) (v := .bool false) rfl (by kernel_rfl) (by kernel_rfl) (by kernel_rfl) (fun _ _ _ h => h) (Or.inl ⟨by rfl, fun w hSw => by (try dsimp only at hSw); go_simp⟩) (by assumption) ?_; (try simp only [Act.put, List.setIfInBounds_toArray, List.set_cons_zero, List.set_cons_succ, List.getElem_toArray, List.getElem_cons_zero, List.getElem_cons_succ])
                    refine wpAnyH_take (i := 3) (v := undef) rfl (by kernel_rfl) (by kernel_rfl) (by kernel_rfl) (fun _ _ _ h => h) (Or.inr ⟨by rfl, rfl⟩) (by assumption) ?_; (try simp only [Act.put, List.setIfInBounds_toArray, List.set_cons_zero, List.set_cons_succ, List.getElem_toArray, List.getElem_cons_zero, List.getElem_cons_succ])
                    refine wpAnyH_take (i := 4) (v := undef) rfl (by kernel_rfl) (by kernel_rfl) (by kernel_rfl) (fun _ _ _ h => h) (Or.inr ⟨by rfl, rfl⟩) (by assumption) ?_; (try simp only [Act.put, List.setIfInBounds_toArray, List.set_cons_zero, List.set_cons_succ, List.getElem_toArray, List.getElem_cons_zero, List.getElem_cons_succ])
                    refine wpAnyH_take (i := 5) (v := undef) rfl (by kernel_rfl) (by kernel_rfl) (by kernel_rfl) (fun _ _ _ h => h) (Or.inr ⟨by rfl, rfl⟩) (by assumption) ?_; (try simp only [Act.put, List.setIfInBounds_toArray, List.set_cons_zero, List.set_cons_succ, List.getElem_toArray, List.getElem_cons_zero, List.getElem_cons_succ])
                    refine wpAnyH_take (i := 6) (v := undef) rfl (by kernel_rfl) (by kernel_rfl) (by kernel_rfl) (fun _ _ _ h => h) (Or.inr ⟨by rfl, rfl⟩) (by assumption) ?_; (try simp only [Act.put, List.setIfInBounds_toArray, List.set_cons_zero, List.set_cons_succ, List.getElem_toArray, List.getElem_cons_zero, List.getElem_cons_succ])
                    refine wpAnyH_take (i := 7) (v := undef) rfl (by kernel_rfl) (by kernel_rfl) (by kernel_rfl) (fun _ _ _ h => h) (Or.inr ⟨by rfl, rfl⟩) (by assumption) ?_; (try simp only [Act.put, List.setIfInBounds_toArray, List.set_cons_zero, List.set_cons_succ, List.getElem_toArray, List.getElem_cons_zero, List.getElem_cons_succ])
                    refine wpAnyH_take (i := 8) (v := undef) rfl (by kernel_rfl) (by kernel_rfl) (by kernel_rfl) (fun _ _ _ h => h) (Or.inr ⟨by rfl, rfl⟩) (by assumption) ?_; (try simp only [Act.put, List.setIfInBounds_toArray, List.set_cons_zero, List.set_cons_succ, List.getElem_toArray, List.getElem_cons_zero, List.getElem_cons_succ])
                    refine wpAnyH_take (i := 9) (v := undef) rfl (by kernel_rfl) (by kernel_rfl) (by kernel_rfl) (fun _ _ _ h => h) (Or.inr ⟨by rfl, rfl⟩) (by assumption) ?_; (try simp only [Act.put, List.setIfInBounds_toArray, List.set_cons_zero, List.set_cons_succ, List.getElem_toArray, List.getElem_cons_zero, List.getElem_cons_succ])
                    refine wpAnyH_take (i := 10) (v := undef) rfl (by kernel_rfl) (by kernel_rfl) (by kernel_rfl) (fun _ _ _ h => h) (Or.inr ⟨by rfl, rfl⟩) (by assumption) ?_; (try simp only [Act.put, List.setIfInBounds_toArray, List.set_cons_zero, List.set_cons_succ, List.getElem_toArray, List.getElem_cons_zero, List.getElem_cons_succ])
                    refine wpAnyH_take (i := 11) (v := undef) rfl (by kernel_rfl) (by kernel_rfl) (by kernel_rfl) (fun _ _ _ h => h) (Or.inr ⟨by rfl, rfl⟩) (by assumption) ?_; (try simp only [Act.put, List.setIfInBounds_toArray, List.set_cons_zero, List.set_cons_succ, List.getElem_toArray, List.getElem_cons_zero, List.getElem_cons_succ])
                    refine wpAnyH_take (i := 12) (v := .bool false) rfl (by kernel_rfl) (by kernel_rfl) (by kernel_rfl) (fun _ _ _ h => h) (Or.inl ⟨by rfl, fun w hSw => by (try dsimp only at hSw); go_simp⟩) (by assumption) ?_; (try simp only [Act.put, List.setIfInBounds_toArray, List.set_cons_zero, List.set_cons_succ, List.getElem_toArray, List.getElem_cons_zero, List.getElem_cons_succ])
                    refine wpAnyH_take (i := 13) (v := .bool false) rfl (by kernel_rfl) (by kernel_rfl) (by kernel_rfl) (fun _ _ _ h => h) (Or.inl ⟨by rfl, fun w hSw => by (try dsimp only at hSw); go_simp⟩) (by assumption) ?_; (try simp only [Act.put, List.setIfInBounds_toArray, List.set_cons_zero, List.set_cons_succ, List.getElem_toArray, List.getElem_cons_zero, List.getElem_cons_succ])
                    refine wpAnyH_done (by kernel_rfl) ?_ _
                    go_wp2
                    go_ret
                    exact ⟨ret_bool (by rw [HM.out, HAT.out, HDD.out, HK.out, HHB.out]; simp [hasM]), HD2.out.1.2.2.1⟩
end Go.Proofs.YthdkkpbhijlpaaaGreat
