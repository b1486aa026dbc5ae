import Derived.Deep.DeepCutAuto
import Derived.Deep.CutBlock
import Derived.Test.YthdkkpbhijlpaaaGreatS12
set_option linter.unusedVariables false
namespace Go.Proofs.YthdkkpbhijlpaaaGreat
open Go.ChangeShapes Go.WideShapes Go.ChangeAt Go.RowKit Go.Deep Go.Maps

theorem any_take_len {α : Type} {p : α → Bool} {l : List α} (h : (l.take l.length).any p = false) : l.any p = false := by rwa [List.take_length] at h
set_option maxHeartbeats 8000000 in
set_option maxRecDepth 100000 in
theorem l07Check_any (X : Cf) (V : CfV) (w : World) (h : CfIn w X V) :
    Calls Tryz.prog 71 #[.agg #[.bool X.ha, .bool X.hb, .slice V.a1 X.al.length V.c1, .slice V.a2 X.rm.length V.c2, .slice V.a3 X.uw.length V.c3, .slice V.a4 X.at_.length V.c4, .slice V.a5 X.dp.length V.c5, .bool X.cm, .bool X.da]] w fun e w' => e = .returned (.int .i64 (checkOf X)) ∧ Below w.heap.size w w' := by
  have HX := Lib.hid (CfBox.new h 35)
  obtain ⟨p0, p1, p2, p3, p4, p5, p6, p7, p8⟩ := lay9 HX.out.1
  clear h
  cases t0 : rulesB true X.al with
  | false =>
    have HM : Hid (checkOf X = 1) := Lib.hid (by simp [checkOf, cfOK, t0])
    have T0 := Lib.hid t0
    clear t0
    go_enter Tryz.func71, Tryz.ntmps71
    go_wp2_with fail
    refine (l07Rules_any X.al true _ V.a1 V.c1 HX.out.2.1.al).mono ?_
    rintro e w0 ⟨rfl, hB⟩
    rw [T0.out]
    have HX := Lib.hid (HX.out.next hB)
    clear hB p0 p1 p2 p3 p4 p5 p6 p7 p8
    obtain ⟨p0, p1, p2, p3, p4, p5, p6, p7, p8⟩ := lay9 HX.out.1
    go_wp2
    go_ret
    exact ⟨by rw [HM.out]; rfl, HX.out.2.2.1⟩
  | true =>
    have T0 := Lib.hid t0
    cases t1 : rulesB false X.rm with
    | false =>
      have HM : Hid (checkOf X = 1) := Lib.hid (by simp [checkOf, cfOK, t0, t1])
      have T1 := Lib.hid t1
      clear t0 t1
      go_enter Tryz.func71, Tryz.ntmps71
      go_wp2_with fail
      refine (l07Rules_any X.al true _ V.a1 V.c1 HX.out.2.1.al).mono ?_
      rintro e w0 ⟨rfl, hB⟩
      rw [T0.out]
      have HX := Lib.hid (HX.out.next hB)
      clear hB p0 p1 p2 p3 p4 p5 p6 p7 p8
      obtain ⟨p0, p1, p2, p3, p4, p5, p6, p7, p8⟩ := lay9 HX.out.1
      go_wp2_with fail
      refine (l07Rules_any X.rm false _ V.a2 V.c2 HX.out.2.1.rm).mono ?_
      rintro e w1 ⟨rfl, hB⟩
      rw [T1.out]
      have HX := Lib.hid (HX.out.next hB)
      clear hB p0 p1 p2 p3 p4 p5 p6 p7 p8
      obtain ⟨p0, p1, p2, p3, p4, p5, p6, p7, p8⟩ := lay9 HX.out.1
      go_wp2
      go_ret
      exact ⟨by rw [HM.out]; rfl, HX.out.2.2.1⟩
    | true =>
      have T1 := Lib.hid t1
      cases t2 : rulesB false X.uw with
      | false =>
        have HM : Hid (checkOf X = 1) := Lib.hid (by simp [checkOf, cfOK, t0, t1, t2])
        have T2 := Lib.hid t2
        clear t0 t1 t2
        go_enter Tryz.func71, Tryz.ntmps71
        go_wp2_with fail
        refine (l07Rules_any X.al true _ V.a1 V.c1 HX.out.2.1.al).mono ?_
        rintro e w0 ⟨rfl, hB⟩
        rw [T0.out]
        have HX := Lib.hid (HX.out.next hB)
        clear hB p0 p1 p2 p3 p4 p5 p6 p7 p8
        obtain ⟨p0, p1, p2, p3, p4, p5, p6, p7, p8⟩ := lay9 HX.out.1
        go_wp2_with fail
        refine (l07Rules_any X.rm false _ V.a2 V.c2 HX.out.2.1.rm).mono ?_
        rintro e w1 ⟨rfl, hB⟩
        rw [T1.out]
        have HX := Lib.hid (HX.out.next hB)
        clear hB p0 p1 p2 p3 p4 p5 p6 p7 p8
        obtain ⟨p0, p1, p2, p3, p4, p5, p6, p7, p8⟩ := lay9 HX.out.1
        go_wp2_with fail
        refine (l07Rules_any X.uw false _ V.a3 V.c3 HX.out.2.1.uw).mono ?_
        rintro e w2 ⟨rfl, hB⟩
        rw [T2.out]
        have HX := Lib.hid (HX.out.next hB)
        clear hB p0 p1 p2 p3 p4 p5 p6 p7 p8
        obtain ⟨p0, p1, p2, p3, p4, p5, p6, p7, p8⟩ := lay9 HX.out.1
        go_wp2
        go_ret
        exact ⟨by rw [HM.out]; rfl, HX.out.2.2.1⟩
      | true =>
        have T2 := Lib.hid t2
        cases t3 : namesB X.at_ with
        | false =>
          have HM : Hid (checkOf X = 1) := Lib.hid (by simp [checkOf, cfOK, t0, t1, t2, t3])
          have T3 := Lib.hid t3
          clear t0 t1 t2 t3
          go_enter Tryz.func71, Tryz.ntmps71
          go_wp2_with fail
          refine (l07Rules_any X.al true _ V.a1 V.c1 HX.out.2.1.al).mono ?_
          rintro e w0 ⟨rfl, hB⟩
          rw [T0.out]
          have HX := Lib.hid (HX.out.next hB)
          clear hB p0 p1 p2 p3 p4 p5 p6 p7 p8
          obtain ⟨p0, p1, p2, p3, p4, p5, p6, p7, p8⟩ := lay9 HX.out.1
          go_wp2_with fail
          refine (l07Rules_any X.rm false _ V.a2 V.c2 HX.out.2.1.rm).mono ?_
          rintro e w1 ⟨rfl, hB⟩
          rw [T1.out]
          have HX := Lib.hid (HX.out.next hB)
          clear hB p0 p1 p2 p3 p4 p5 p6 p7 p8
          obtain ⟨p0, p1, p2, p3, p4, p5, p6, p7, p8⟩ := lay9 HX.out.1
          go_wp2_with fail
          refine (l07Rules_any X.uw false _ V.a3 V.c3 HX.out.2.1.uw).mono ?_
          rintro e w2 ⟨rfl, hB⟩
          rw [T2.out]
          have HX := Lib.hid (HX.out.next hB)
          clear hB p0 p1 p2 p3 p4 p5 p6 p7 p8
          obtain ⟨p0, p1, p2, p3, p4, p5, p6, p7, p8⟩ := lay9 HX.out.1
          go_wp2_with fail
          refine (l07Names_any X.at_ _ V.a4 V.c4 HX.out.2.1.l4 HX.out.2.1.at_).mono ?_
          rintro e w3 ⟨rfl, hB⟩
          rw [T3.out]
          have HX := Lib.hid (HX.out.next hB)
          clear hB p0 p1 p2 p3 p4 p5 p6 p7 p8
          obtain ⟨p0, p1, p2, p3, p4, p5, p6, p7, p8⟩ := lay9 HX.out.1
          go_wp2
          go_ret
          exact ⟨by rw [HM.out]; rfl, HX.out.2.2.1⟩
        | true =>
          have T3 := Lib.hid t3
          cases t4 : namesB X.dp with
          | false =>
            have HM : Hid (checkOf X = 1) := Lib.hid (by simp [checkOf, cfOK, t0, t1, t2, t3, t4])
            have T4 := Lib.hid t4
            clear t0 t1 t2 t3 t4
            go_enter Tryz.func71, Tryz.ntmps71
            go_wp2_with fail
            refine (l07Rules_any X.al true _ V.a1 V.c1 HX.out.2.1.al).mono ?_
            rintro e w0 ⟨rfl, hB⟩
            rw [T0.out]
            have HX := Lib.hid (HX.out.next hB)
            clear hB p0 p1 p2 p3 p4 p5 p6 p7 p8
            obtain ⟨p0, p1, p2, p3, p4, p5, p6, p7, p8⟩ := lay9 HX.out.1
            go_wp2_with fail
            refine (l07Rules_any X.rm false _ V.a2 V.c2 HX.out.2.1.rm).mono ?_
            rintro e w1 ⟨rfl, hB⟩
            rw [T1.out]
            have HX := Lib.hid (HX.out.next hB)
            clear hB p0 p1 p2 p3 p4 p5 p6 p7 p8
            obtain ⟨p0, p1, p2, p3, p4, p5, p6, p7, p8⟩ := lay9 HX.out.1
            go_wp2_with fail
            refine (l07Rules_any X.uw false _ V.a3 V.c3 HX.out.2.1.uw).mono ?_
            rintro e w2 ⟨rfl, hB⟩
            rw [T2.out]
            have HX := Lib.hid (HX.out.next hB)
            clear hB p0 p1 p2 p3 p4 p5 p6 p7 p8
            obtain ⟨p0, p1, p2, p3, p4, p5, p6, p7, p8⟩ := lay9 HX.out.1
            go_wp2_with fail
            refine (l07Names_any X.at_ _ V.a4 V.c4 HX.out.2.1.l4 HX.out.2.1.at_).mono ?_
            rintro e w3 ⟨rfl, hB⟩
            rw [T3.out]
            have HX := Lib.hid (HX.out.next hB)
            clear hB p0 p1 p2 p3 p4 p5 p6 p7 p8
            obtain ⟨p0, p1, p2, p3, p4, p5, p6, p7, p8⟩ := lay9 HX.out.1
            go_wp2_with fail
            refine (l07Names_any X.dp _ V.a5 V.c5 HX.out.2.1.l5 HX.out.2.1.dp).mono ?_
            rintro e w4 ⟨rfl, hB⟩
            rw [T4.out]
            have HX := Lib.hid (HX.out.next hB)
            clear hB p0 p1 p2 p3 p4 p5 p6 p7 p8
            obtain ⟨p0, p1, p2, p3, p4, p5, p6, p7, p8⟩ := lay9 HX.out.1
            go_wp2
            go_ret
            exact ⟨by rw [HM.out]; rfl, HX.out.2.2.1⟩
          | true =>
            have T4 := Lib.hid t4
            have HM : Hid (checkOf X = if (cfLists X || unwrapB X || attrsB X) = true then 13 else 0) := Lib.hid (by simp [checkOf, cfOK, t0, t1, t2, t3, t4])
            clear t0 t1 t2 t3 t4
            go_enter Tryz.func71, Tryz.ntmps71
            go_wp2_with fail
            refine (l07Rules_any X.al true _ V.a1 V.c1 HX.out.2.1.al).mono ?_
            rintro e w0 ⟨rfl, hB⟩
            rw [T0.out]
            have HX := Lib.hid (HX.out.next hB)
            clear hB p0 p1 p2 p3 p4 p5 p6 p7 p8
            obtain ⟨p0, p1, p2, p3, p4, p5, p6, p7, p8⟩ := lay9 HX.out.1
            go_wp2_with fail
            refine (l07Rules_any X.rm false _ V.a2 V.c2 HX.out.2.1.rm).mono ?_
            rintro e w1 ⟨rfl, hB⟩
            rw [T1.out]
            have HX := Lib.hid (HX.out.next hB)
            clear hB p0 p1 p2 p3 p4 p5 p6 p7 p8
            obtain ⟨p0, p1, p2, p3, p4, p5, p6, p7, p8⟩ := lay9 HX.out.1
            go_wp2_with fail
            refine (l07Rules_any X.uw false _ V.a3 V.c3 HX.out.2.1.uw).mono ?_
            rintro e w2 ⟨rfl, hB⟩
            rw [T2.out]
            have HX := Lib.hid (HX.out.next hB)
            clear hB p0 p1 p2 p3 p4 p5 p6 p7 p8
            obtain ⟨p0, p1, p2, p3, p4, p5, p6, p7, p8⟩ := lay9 HX.out.1
            go_wp2_with fail
            refine (l07Names_any X.at_ _ V.a4 V.c4 HX.out.2.1.l4 HX.out.2.1.at_).mono ?_
            rintro e w3 ⟨rfl, hB⟩
            rw [T3.out]
            have HX := Lib.hid (HX.out.next hB)
            clear hB p0 p1 p2 p3 p4 p5 p6 p7 p8
            obtain ⟨p0, p1, p2, p3, p4, p5, p6, p7, p8⟩ := lay9 HX.out.1
            go_wp2_with fail
            refine (l07Names_any X.dp _ V.a5 V.c5 HX.out.2.1.l5 HX.out.2.1.dp).mono ?_
            rintro e w4 ⟨rfl, hB⟩
            rw [T4.out]
            have HX := Lib.hid (HX.out.next hB)
            clear hB p0 p1 p2 p3 p4 p5 p6 p7 p8
            obtain ⟨p0, p1, p2, p3, p4, p5, p6, p7, p8⟩ := lay9 HX.out.1
            go_upto_region 3 with fail
            go_cut [78] from 35 to 78 (fun s wx => s = .bool (cfLists X) ∧ Hid (CfBox w wx w.heap.size X V))
            case first =>
              obtain ⟨ha, hhha⟩ : ∃ b, X.ha = b := ⟨_, rfl⟩
              rw [hhha] at p0
              obtain ⟨hb, hhhb⟩ : ∃ b, X.hb = b := ⟨_, rfl⟩
              rw [hhhb] at p1
              obtain ⟨da, hhda⟩ : ∃ b, X.da = b := ⟨_, rfl⟩
              rw [hhda] at p8
              obtain ⟨n1, hhn1⟩ : ∃ n, X.al.length = n := ⟨_, rfl⟩
              rw [hhn1] at p2
              obtain ⟨n2, hhn2⟩ : ∃ n, X.rm.length = n := ⟨_, rfl⟩
              rw [hhn2] at p3
              obtain ⟨n4, hhn4⟩ : ∃ n, X.at_.length = n := ⟨_, rfl⟩
              rw [hhn4] at p5
              obtain ⟨n5, hhn5⟩ : ∃ n, X.dp.length = n := ⟨_, rfl⟩
              rw [hhn5] at p6
              have HE := Lib.hid (And.intro hhha (And.intro hhhb (And.intro hhda (And.intro hhn1 (And.intro hhn2 (And.intro hhn4 hhn5))))))
              clear hhha hhhb hhda hhn1 hhn2 hhn4 hhn5
              cases ha with
              | true =>
                by_cases h2 : 0 < n2
                · have i2 : ((n2 : Nat) : Int) > 0 := by omega
                  go_wp2
                  go_meet
                  exact ⟨congrArg Value.bool (by obtain ⟨e1, e2, e3, e4, e5, e6, e7⟩ := HE.out; unfold cfLists; rw [e1, e2, e3, e4, e5, e6, e7]; simp [listsB, *]), HX⟩
                · have i2 : ¬ ((n2 : Nat) : Int) > 0 := by omega
                  cases hb with
                  | true =>
                    by_cases h5 : 0 < n5
                    · have i5 : ((n5 : Nat) : Int) > 0 := by omega
                      go_wp2
                      go_meet
                      exact ⟨congrArg Value.bool (by obtain ⟨e1, e2, e3, e4, e5, e6, e7⟩ := HE.out; unfold cfLists; rw [e1, e2, e3, e4, e5, e6, e7]; simp [listsB, *]), HX⟩
                    · have i5 : ¬ ((n5 : Nat) : Int) > 0 := by omega
                      go_wp2
                      go_meet
                      exact ⟨congrArg Value.bool (by obtain ⟨e1, e2, e3, e4, e5, e6, e7⟩ := HE.out; unfold cfLists; rw [e1, e2, e3, e4, e5, e6, e7]; simp [listsB, *]), HX⟩
                  | false =>
                    by_cases h4 : 0 < n4
                    · have i4 : ((n4 : Nat) : Int) > 0 := by omega
                      go_wp2
                      go_meet
                      exact ⟨congrArg Value.bool (by obtain ⟨e1, e2, e3, e4, e5, e6, e7⟩ := HE.out; unfold cfLists; rw [e1, e2, e3, e4, e5, e6, e7]; simp [listsB, *]), HX⟩
                    · have i4 : ¬ ((n4 : Nat) : Int) > 0 := by omega
                      cases da with
                      | true =>
                        go_wp2
                        go_meet
                        exact ⟨congrArg Value.bool (by obtain ⟨e1, e2, e3, e4, e5, e6, e7⟩ := HE.out; unfold cfLists; rw [e1, e2, e3, e4, e5, e6, e7]; simp [listsB, *]), HX⟩
                      | false =>
                        go_wp2
                        go_meet
                        exact ⟨congrArg Value.bool (by obtain ⟨e1, e2, e3, e4, e5, e6, e7⟩ := HE.out; unfold cfLists; rw [e1, e2, e3, e4, e5, e6, e7]; simp [listsB, *]), HX⟩
              | false =>
                by_cases h1 : 0 < n1
                · have i1 : ((n1 : Nat) : Int) > 0 := by omega
                  go_wp2
                  go_meet
                  exact ⟨congrArg Value.bool (by obtain ⟨e1, e2, e3, e4, e5, e6, e7⟩ := HE.out; unfold cfLists; rw [e1, e2, e3, e4, e5, e6, e7]; simp [listsB, *]), HX⟩
                · have i1 : ¬ ((n1 : Nat) : Int) > 0 := by omega
                  cases hb with
                  | true =>
                    by_cases h5 : 0 < n5
                    · have i5 : ((n5 : Nat) : Int) > 0 := by omega
                      go_wp2
                      go_meet
                      exact ⟨congrArg Value.bool (by obtain ⟨e1, e2, e3, e4, e5, e6, e7⟩ := HE.out; unfold cfLists; rw [e1, e2, e3, e4, e5, e6, e7]; simp [listsB, *]), HX⟩
                    · have i5 : ¬ ((n5 : Nat) : Int) > 0 := by omega
                      go_wp2
                      go_meet
                      exact ⟨congrArg Value.bool (by obtain ⟨e1, e2, e3, e4, e5, e6, e7⟩ := HE.out; unfold cfLists; rw [e1, e2, e3, e4, e5, e6, e7]; simp [listsB, *]), HX⟩
                  | false =>
                    by_cases h4 : 0 < n4
                    · have i4 : ((n4 : Nat) : Int) > 0 := by omega
                      go_wp2
                      go_meet
                      exact ⟨congrArg Value.bool (by obtain ⟨e1, e2, e3, e4, e5, e6, e7⟩ := HE.out; unfold cfLists; rw [e1, e2, e3, e4, e5, e6, e7]; simp [listsB, *]), HX⟩
                    · have i4 : ¬ ((n4 : Nat) : Int) > 0 := by omega
                      cases da with
                      | true =>
                        go_wp2
                        go_meet
                        exact ⟨congrArg Value.bool (by obtain ⟨e1, e2, e3, e4, e5, e6, e7⟩ := HE.out; unfold cfLists; rw [e1, e2, e3, e4, e5, e6, e7]; simp [listsB, *]), HX⟩
                      | false =>
                        go_wp2
                        go_meet
                        exact ⟨congrArg Value.bool (by obtain ⟨e1, e2, e3, e4, e5, e6, e7⟩ := HE.out; unfold cfLists; rw [e1, e2, e3, e4, e5, e6, e7]; simp [listsB, *]), HX⟩
            case rest =>
              obtain ⟨rfl, HX⟩ := hcut
              cases hL : cfLists X with
              | true =>
                have HM : Hid (checkOf X = 13) := Lib.hid (by rw [HM.out, hL]; rfl)
                clear hL
                go_wp2
                go_ret
                exact ⟨by rw [HM.out]; rfl, HX.out.2.2.1⟩
              | false =>
                have HM : Hid (checkOf X = if (unwrapB X || attrsB X) = true then 13 else 0) := Lib.hid (by rw [HM.out, hL]; rfl)
                clear hL
                clear p0 p1 p2 p3 p4 p5 p6 p7 p8
                have hu10 := rulesB_len T2.out
                have ha10 := rulesB_len T0.out
                go_wp2_with fail
                go_loopw [3] (fun i wr => ∃ k : Nat, k ≤ X.uw.length ∧ i = .int .i64 k ∧ Hid (CfBox w wr w.heap.size X V ∧ (X.uw.take k).any (fun x => hasRu X.al x.1 x.2.1 || hasRu X.rm x.1 x.2.1) = false)) (fun i wr => X.uw.length - (intOf i).toNat)
                case atStart => exact ⟨0, by omega, rfl, Lib.hid ⟨HX.out, by simp⟩⟩
                case round =>
                  clear HX
                  obtain ⟨k, hk, rfl, HH⟩ := hrel
                  have HX := Lib.hid HH.out.1
                  have HN := Lib.hid HH.out.2
                  clear HH
                  obtain ⟨p0, p1, p2, p3, p4, p5, p6, p7, p8⟩ := lay9 HX.out.1
                  by_cases hlt : k < X.uw.length
                  · obtain ⟨g, o, hga, hg, c0, c1, hz, B, cc, c2, hbc, hb⟩ := HX.out.2.1.uw.get hlt
                    rw [hga] at p4
                    have HX2 := Lib.hid (HX.out.next ((Below.refl wr.heap.size wr).alloc (Nat.le_refl _) (.cells #[.int .i64 X.uw[k].1, .string X.uw[k].2.1, .slice B X.uw[k].2.2.length cc] 106)))
                    clear hb hga
                    obtain ⟨q0, q1, q2, q3, q4, q5, q6, q7, q8⟩ := lay9 HX2.out.1
                    cases h1 : hasRu X.al X.uw[k].1 X.uw[k].2.1 with
                    | true =>
                      have i1 : ruAt X.al X.uw[k].1 X.uw[k].2.1 ≥ 0 := by have := ruAt_has X.al X.uw[k].1 X.uw[k].2.1; rw [h1] at this; simpa using this
                      have HM : Hid (checkOf X = 13) := Lib.hid (by rw [HM.out, show unwrapB X = true from any_hit hlt (by simp [h1])]; rfl)
                      clear h1
                      go_wp2_with (go_at_call 116; refine (l07At_any X.al _ _ _ V.a1 V.c1 HX2.out.2.1.al).mono ?_; rintro e w7 ⟨rfl, rfl⟩; have hfirst : True := trivial)
                      go_ret
                      exact ⟨by rw [HM.out]; rfl, HX2.out.2.2.1⟩
                    | false =>
                      have i1 : ¬ ruAt X.al X.uw[k].1 X.uw[k].2.1 ≥ 0 := by have := ruAt_has X.al X.uw[k].1 X.uw[k].2.1; rw [h1] at this; simpa using this
                      cases h2 : hasRu X.rm X.uw[k].1 X.uw[k].2.1 with
                      | true =>
                        have i2 : ruAt X.rm X.uw[k].1 X.uw[k].2.1 ≥ 0 := by have := ruAt_has X.rm X.uw[k].1 X.uw[k].2.1; rw [h2] at this; simpa using this
                        have HM : Hid (checkOf X = 13) := Lib.hid (by rw [HM.out, show unwrapB X = true from any_hit hlt (by simp [h2])]; rfl)
                        clear h1 h2
                        go_wp2_with (first | (have hsecond := hfirst; go_at_call 116; refine (l07At_any X.rm _ _ _ V.a2 V.c2 HX2.out.2.1.rm).mono ?_; rintro e w8 ⟨rfl, rfl⟩) | (go_at_call 116; refine (l07At_any X.al _ _ _ V.a1 V.c1 HX2.out.2.1.al).mono ?_; rintro e w7 ⟨rfl, rfl⟩; have hfirst : True := trivial))
                        go_ret
                        exact ⟨by rw [HM.out]; rfl, HX2.out.2.2.1⟩
                      | false =>
                        have i2 : ¬ ruAt X.rm X.uw[k].1 X.uw[k].2.1 ≥ 0 := by have := ruAt_has X.rm X.uw[k].1 X.uw[k].2.1; rw [h2] at this; simpa using this
                        have HQ : Hid ((hasRu X.al X.uw[k].1 X.uw[k].2.1 || hasRu X.rm X.uw[k].1 X.uw[k].2.1) = false) := Lib.hid (by rw [h1, h2]; rfl)
                        clear h1 h2
                        go_wp2_with (first | (have hsecond := hfirst; go_at_call 116; refine (l07At_any X.rm _ _ _ V.a2 V.c2 HX2.out.2.1.rm).mono ?_; rintro e w8 ⟨rfl, rfl⟩) | (go_at_call 116; refine (l07At_any X.al _ _ _ V.a1 V.c1 HX2.out.2.1.al).mono ?_; rintro e w7 ⟨rfl, rfl⟩; have hfirst : True := trivial))
                        go_roundw
                        case rel => exact ⟨k + 1, by omega, by go_num, Lib.hid ⟨HX2.out, any_no hlt HN.out HQ.out⟩⟩
                        case measure => simp [intOf]; omega
                  · obtain rfl : k = X.uw.length := by omega
                    have HM : Hid (checkOf X = if attrsB X = true then 13 else 0) := Lib.hid (by rw [HM.out]; simp [show unwrapB X = false from any_take_len HN.out])
                    clear HN
                    go_wp2_with fail
                    go_loopw [5] (fun i wr => ∃ j : Nat, j ≤ X.al.length ∧ i = .int .i64 j ∧ Hid (CfBox w wr w.heap.size X V ∧ (X.al.take j).any (fun x => x.2.2.any (attr1B X)) = false)) (fun i wr => X.al.length - (intOf i).toNat)
                    case atStart => exact ⟨0, by omega, rfl, Lib.hid ⟨HX.out, by simp⟩⟩
                    case round =>
                      clear HX
                      rename World => wo
                      obtain ⟨j, hj, rfl, HH⟩ := hrel
                      have HX := Lib.hid HH.out.1
                      have HN := Lib.hid HH.out.2
                      clear HH
                      obtain ⟨p0, p1, p2, p3, p4, p5, p6, p7, p8⟩ := lay9 HX.out.1
                      by_cases hjl : j < X.al.length
                      · obtain ⟨g, o, hga, hg, c0, c1, hz, B, cc, c2, hbc, hb⟩ := HX.out.2.1.al.get hjl
                        have HG := Lib.hid (And.intro hga (And.intro hg (And.intro c2 hb)))
                        have hbl := hb.1
                        unfold maxLen at hbl
                        clear hga c0 c1 hz hb hg c2
                        go_wp2_with fail
                        go_loopw [6] (fun i wr => ∃ m : Nat, m ≤ X.al[j].2.2.length ∧ i = .int .i64 m ∧ Hid (CfBox w wr w.heap.size X V ∧ Below wo.heap.size wo wr ∧ (X.al[j].2.2.take m).any (attr1B X) = false)) (fun i wr => X.al[j].2.2.length - (intOf i).toNat)
                        case atStart => exact ⟨0, by omega, rfl, Lib.hid ⟨HX.out, Below.refl _ _, by simp⟩⟩
                        case round =>
                          clear HX
                          obtain ⟨m, hm, rfl, HH⟩ := hrel
                          have HX := Lib.hid HH.out.1
                          have HQ := Lib.hid HH.out.2.2
                          have hB := HH.out.2.1
                          obtain ⟨p0, p1, p2, p3, p4, p5, p6, p7, p8⟩ := lay9 HX.out.1
                          have c2 := (hB.cell (p := ⟨g, o + j * 3 + 2, none⟩) HG.out.2.1).trans HG.out.2.2.1
                          have hb := HG.out.2.2.2.next hB
                          rw [HG.out.1] at p2
                          have HBO := Lib.hid hB
                          clear hB HH
                          by_cases hml : m < X.al[j].2.2.length
                          · obtain ⟨gb, ob, rfl, hgb, tb, hzt⟩ := hb.get hml
                            clear hb
                            cases hhb : X.hb with
                            | false =>
                              rw [hhb] at p1
                              have HM : Hid (checkOf X = 13) := Lib.hid (by rw [HM.out, show attrsB X = true from any_hit hjl (any_hit hml (by simp [attr1B, hhb]))]; rfl)
                              clear hhb
                              go_wp2
                              go_quiet (fail)
                              go_wp2
                              go_ret
                              exact ⟨by rw [HM.out]; rfl, below_drewN HX.out.2.2.1 _⟩
                            | true =>
                              rw [hhb] at p1
                              cases hm2 : hasM X.at_ X.al[j].2.2[m] with
                              | true =>
                                have HM : Hid (checkOf X = 13) := Lib.hid (by rw [HM.out, show attrsB X = true from any_hit hjl (any_hit hml (by simp [attr1B, hm2]))]; rfl)
                                have H2 := Lib.hid hm2
                                clear hhb hm2
                                go_wp2
                                go_quiet ((go_at_call 117; exact Calls.quiet_of_same (l01HasM_q X.at_ X.al[j].2.2[m] _ V.a4 _ V.c4 _ _ H2.out rfl HX.out.2.1.at_)))
                                go_wp2
                                go_ret
                                exact ⟨by rw [HM.out]; rfl, below_drewN HX.out.2.2.1 _⟩
                              | false =>
                                have HQ2 : Hid (attr1B X X.al[j].2.2[m] = false) := Lib.hid (by simp [attr1B, hhb, hm2])
                                have H2 := Lib.hid hm2
                                clear hhb hm2
                                go_wp2
                                go_quiet ((go_at_call 117; exact Calls.quiet_of_same (l01HasM_q X.at_ X.al[j].2.2[m] _ V.a4 _ V.c4 _ _ H2.out rfl HX.out.2.1.at_)))
                                go_wp2
                                go_roundw
                                case rel => exact ⟨m + 1, by omega, by go_num, Lib.hid ⟨HX.out.next (below_drewN (Below.refl _ _) _), below_drewN HBO.out _, any_no hml HQ.out HQ2.out⟩⟩
                                case measure => simp [intOf]; omega
                          · obtain rfl : m = X.al[j].2.2.length := by omega
                            clear hb
                            go_wp2
                            go_roundw
                            case rel => exact ⟨j + 1, by omega, by go_num, Lib.hid ⟨HX.out, any_no hjl HN.out (any_take_len HQ.out)⟩⟩
                            case measure => simp [intOf]; omega
                      · obtain rfl : j = X.al.length := by omega
                        have HM : Hid (checkOf X = 0) := Lib.hid (by rw [HM.out]; simp [show attrsB X = false from any_take_len HN.out])
                        go_wp2
                        go_ret
                        exact ⟨by rw [HM.out]; rfl, HX.out.2.2.1⟩
end Go.Proofs.YthdkkpbhijlpaaaGreat
namespace Go.Proofs.YthdkkpbhijlpaaaGreat
open Go.ChangeShapes Go.WideShapes Go.ChangeAt Go.RowKit Go.Deep Go.Maps

theorem checkOf_ok {X : Cf} (h : checkOf X = 0) : cfOK X = true := by
  unfold checkOf at h
  split at h
  · assumption
  · cases h
theorem cfOK_lists {X : Cf} (h : cfOK X = true) : rulesB true X.al = true ∧ rulesB false X.rm = true ∧ rulesB false X.uw = true := by
  unfold cfOK at h
  simp only [Bool.and_eq_true] at h
  exact ⟨h.1.1.1.1, h.1.1.1.2, h.1.1.2⟩
end Go.Proofs.YthdkkpbhijlpaaaGreat
