import Derived.Test.YthdkkpbhijlpaaaGreatS11
set_option linter.unusedVariables false
namespace Go.Proofs.YthdkkpbhijlpaaaGreat
open Go.ChangeShapes Go.WideShapes Go.ChangeAt Go.RowKit Go.Deep Go.Maps

def unwrapB (X : Cf) : Bool := X.uw.any fun x => hasRu X.al x.1 x.2.1 || hasRu X.rm x.1 x.2.1
def attr1B (X : Cf) (n : ByteArray) : Bool := !X.hb || hasM X.at_ n
def attrsB (X : Cf) : Bool := X.al.any fun x => x.2.2.any (attr1B X)
theorem unwrapContradicts_any (X : Cf) (V : CfV) (w : World) (h : CfIn w X V) (ha : rulesB true X.al = true) (hr : rulesB false X.rm = true) (hu : rulesB false X.uw = true) :
    Calls Tryz.prog 80 #[.agg #[.bool X.ha, .bool X.hb, .slice V.a1 X.al.length V.c1, .slice V.a2 X.rm.length V.c2, .slice V.a3 X.uw.length V.c3, .slice V.a4 X.at_.length V.c4, .slice V.a5 X.dp.length V.c5, .bool X.cm, .bool X.da]] w fun e w' => e = .returned (.bool (unwrapB X)) ∧ Below w.heap.size w w' := by
  have HX := Lib.hid (CfBox.new h 35)
  have HS := Lib.hid (all_safe (rulesB_all hu))
  have E1 := Lib.hid (enters_of Tryz.func130 (by kernel_rfl) rfl)
  have HF : Hid (RuFn Tryz.prog 130 #[] #[.pointer (some ⟨w.heap.size, 0, none⟩)] (fun x => hasRu X.al x.1 x.2.1 || hasRu X.rm x.1 x.2.1) X.uw (w.alloc (.cells #[.bool X.ha, .bool X.hb, .slice V.a1 X.al.length V.c1, .slice V.a2 X.rm.length V.c2, .slice V.a3 X.uw.length V.c3, .slice V.a4 X.at_.length V.c4, .slice V.a5 X.dp.length V.c5, .bool X.cm, .bool X.da] 35))) := Lib.hid fun k hk W B cc hB hz hc hN => by
    have := unwrap1_any X V w w.heap.size X.uw[k].1 X.uw[k].2.1 X.uw[k].2.2 W B cc (HS.out _ (List.getElem_mem hk)).1 (HS.out _ (List.getElem_mem hk)).2 hz (HX.out.next hB) ha hr
    simpa using this
  obtain ⟨p0, p1, p2, p3, p4, p5, p6, p7, p8⟩ := lay9 HX.out.1
  clear h ha hr hu
  go_enter Tryz.func80, Tryz.ntmps80
  go_wp2_with (go_at_call 81; refine (ruContainsFunc_any _ #[] _ _ E1.out X.uw _ V.a3 V.c3 HX.out.2.1.uw HF.out).mono ?_; rintro e w1 ⟨rfl, hB⟩; have HX := Lib.hid (HX.out.next hB); clear hB)
  go_ret
  exact ⟨rfl, HX.out.2.2.1⟩
theorem attr1_any (X : Cf) (V : CfV) (w0 : World) (g : Nat) (n : ByteArray) (w : World) (h : CfBox w0 w g X V) :
    Calls Tryz.prog 135 #[.string n, .pointer (some ⟨g, 0, none⟩)] w fun e w' => e = .returned (.bool (attr1B X n)) ∧ Below w.heap.size w w' := by
  have HX := Lib.hid h
  obtain ⟨p0, p1, p2, p3, p4, p5, p6, p7, p8⟩ := lay9 HX.out.1
  clear h
  cases hb : X.hb with
  | true =>
    rw [hb] at p1
    have HE : Hid (attr1B X n = hasM X.at_ n) := Lib.hid (by simp [attr1B, hb])
    clear hb
    go_enter Tryz.func135, Tryz.ntmps135
    go_wp2_with (go_at_call 129; refine (containsM_any X.at_ n _ V.a4 _ V.c4 rfl HX.out.2.1.at_).mono ?_; rintro e w1 ⟨rfl, rfl⟩)
    go_ret
    exact ⟨by rw [HE.out]; rfl, Below.refl _ _⟩
  | false =>
    rw [hb] at p1
    have HE : Hid (attr1B X n = true) := Lib.hid (by simp [attr1B, hb])
    clear hb
    go_enter Tryz.func135, Tryz.ntmps135
    go_wp2
    go_ret
    exact ⟨by rw [HE.out]; rfl, Below.refl _ _⟩
theorem contradictsAttrs_any (X : Cf) (V : CfV) (sp : Int) (n : ByteArray) (al : List ByteArray) (w : World) (A : Option Addr) (c : Nat) (h : CfIn w X V) (hN : NmIn w A al) :
    Calls Tryz.prog 82 #[.agg #[.bool X.ha, .bool X.hb, .slice V.a1 X.al.length V.c1, .slice V.a2 X.rm.length V.c2, .slice V.a3 X.uw.length V.c3, .slice V.a4 X.at_.length V.c4, .slice V.a5 X.dp.length V.c5, .bool X.cm, .bool X.da], .agg #[.int .i64 sp, .string n, .slice A al.length c]] w fun e w' => e = .returned (.bool (al.any (attr1B X))) ∧ Below w.heap.size w w' := by
  obtain ⟨L1, L2, B3⟩ := two_lay (Below.refl (w.heap.size + 1 + 1) ((w.alloc (.cells #[.bool X.ha, .bool X.hb, .slice V.a1 X.al.length V.c1, .slice V.a2 X.rm.length V.c2, .slice V.a3 X.uw.length V.c3, .slice V.a4 X.at_.length V.c4, .slice V.a5 X.dp.length V.c5, .bool X.cm, .bool X.da] 35)).alloc (.cells #[.int .i64 sp, .string n, .slice A al.length c] 106)))
  have HX : Hid (CfBox w ((w.alloc (.cells #[.bool X.ha, .bool X.hb, .slice V.a1 X.al.length V.c1, .slice V.a2 X.rm.length V.c2, .slice V.a3 X.uw.length V.c3, .slice V.a4 X.at_.length V.c4, .slice V.a5 X.dp.length V.c5, .bool X.cm, .bool X.da] 35)).alloc (.cells #[.int .i64 sp, .string n, .slice A al.length c] 106)) w.heap.size X V) := Lib.hid ⟨L1, h.next B3, B3, by simp; omega⟩
  have HN := Lib.hid (hN.next B3)
  have E1 := Lib.hid (enters_of Tryz.func135 (by kernel_rfl) rfl)
  have HF : Hid (NmFn Tryz.prog 135 #[] #[.pointer (some ⟨w.heap.size, 0, none⟩)] (attr1B X) al ((w.alloc (.cells #[.bool X.ha, .bool X.hb, .slice V.a1 X.al.length V.c1, .slice V.a2 X.rm.length V.c2, .slice V.a3 X.uw.length V.c3, .slice V.a4 X.at_.length V.c4, .slice V.a5 X.dp.length V.c5, .bool X.cm, .bool X.da] 35)).alloc (.cells #[.int .i64 sp, .string n, .slice A al.length c] 106))) := Lib.hid fun k hk W hB _ => by
    have := attr1_any X V w w.heap.size al[k] W (HX.out.next hB)
    simpa using this
  obtain ⟨q0, q1, q2⟩ := lay3 L2
  clear h hN L1 L2 B3
  go_enter Tryz.func82, Tryz.ntmps82
  go_wp2_with (go_at_call 134; refine (nmContainsFunc_any _ #[] _ _ E1.out al _ A c HN.out HF.out).mono ?_; rintro e w1 ⟨rfl, hB⟩; have HX := Lib.hid (HX.out.next hB); clear hB)
  go_ret
  exact ⟨rfl, HX.out.2.2.1⟩
end Go.Proofs.YthdkkpbhijlpaaaGreat
namespace Go.Proofs.YthdkkpbhijlpaaaGreat
open Go.ChangeShapes Go.WideShapes Go.ChangeAt Go.RowKit Go.Deep Go.Maps

noncomputable def cfOK (X : Cf) : Bool := rulesB true X.al && rulesB false X.rm && rulesB false X.uw && namesB X.at_ && namesB X.dp
def cfLists (X : Cf) : Bool := listsB X.ha X.hb X.al.length X.rm.length X.at_.length X.dp.length X.da
/-- the code of a configuration -/
noncomputable def checkOf (X : Cf) : Int := if cfOK X = true then (if (cfLists X || unwrapB X || attrsB X) = true then 13 else 0) else 1
theorem attrs_bound (X : Cf) (V : CfV) (w : World) (h : CfIn w X V) : RuFn Tryz.prog 82 #[.agg #[.bool X.ha, .bool X.hb, .slice V.a1 X.al.length V.c1, .slice V.a2 X.rm.length V.c2, .slice V.a3 X.uw.length V.c3, .slice V.a4 X.at_.length V.c4, .slice V.a5 X.dp.length V.c5, .bool X.cm, .bool X.da]] #[] (fun x => x.2.2.any (attr1B X)) X.al w := fun k hk W B cc hB hz hc hN => by
  have := contradictsAttrs_any X V X.al[k].1 X.al[k].2.1 X.al[k].2.2 W B cc (h.next hB) hN
  simpa using this
set_option maxHeartbeats 4000000 in
theorem implCheck_any (X : Cf) (V : CfV) (w : World) (h : CfIn w X V) :
    Calls Tryz.prog 39 #[.agg #[.bool X.ha, .bool X.hb, .slice V.a1 X.al.length V.c1, .slice V.a2 X.rm.length V.c2, .slice V.a3 X.uw.length V.c3, .slice V.a4 X.at_.length V.c4, .slice V.a5 X.dp.length V.c5, .bool X.cm, .bool X.da]] w fun e w' => e = .returned (.int .i64 (checkOf X)) ∧ Below w.heap.size w w' := by
  have HX := Lib.hid (CfBox.new h 35)
  obtain ⟨p0, p1, p2, p3, p4, p5, p6, p7, p8⟩ := lay9 HX.out.1
  have E1 := Lib.hid (enters_of Tryz.func82 (by kernel_rfl) rfl)
  clear h
  cases t0 : rulesB true X.al with
  | false =>
    have HM : Hid (checkOf X = 1) := Lib.hid (by simp [checkOf, cfOK, t0])
    have T0 := Lib.hid t0
    clear t0
    go_enter Tryz.func39, Tryz.ntmps39
    go_wp2_with fail
    refine (rulesOK_any X.al _ V.a1 V.c1 HX.out.2.1.al).mono ?_
    rintro e w0 ⟨rfl, hB⟩
    rw [T0.out]
    have HX := Lib.hid (HX.out.next hB)
    clear hB p0 p1 p2 p3 p4 p5 p6 p7 p8
    obtain ⟨p0, p1, p2, p3, p4, p5, p6, p7, p8⟩ := lay9 HX.out.1
    go_wp2
    go_ret
    exact ⟨by rw [HM.out]; rfl, HX.out.2.2.1⟩
  | true =>
    have T0 := Lib.hid t0
    cases t1 : rulesB false X.rm with
    | false =>
      have HM : Hid (checkOf X = 1) := Lib.hid (by simp [checkOf, cfOK, t0, t1])
      have T1 := Lib.hid t1
      clear t0 t1
      go_enter Tryz.func39, Tryz.ntmps39
      go_wp2_with fail
      refine (rulesOK_any X.al _ V.a1 V.c1 HX.out.2.1.al).mono ?_
      rintro e w0 ⟨rfl, hB⟩
      rw [T0.out]
      have HX := Lib.hid (HX.out.next hB)
      clear hB p0 p1 p2 p3 p4 p5 p6 p7 p8
      obtain ⟨p0, p1, p2, p3, p4, p5, p6, p7, p8⟩ := lay9 HX.out.1
      go_wp2_with fail
      refine (bareRulesOK_any X.rm _ V.a2 V.c2 HX.out.2.1.rm).mono ?_
      rintro e w1 ⟨rfl, hB⟩
      rw [T1.out]
      have HX := Lib.hid (HX.out.next hB)
      clear hB p0 p1 p2 p3 p4 p5 p6 p7 p8
      obtain ⟨p0, p1, p2, p3, p4, p5, p6, p7, p8⟩ := lay9 HX.out.1
      go_wp2
      go_ret
      exact ⟨by rw [HM.out]; rfl, HX.out.2.2.1⟩
    | true =>
      have T1 := Lib.hid t1
      cases t2 : rulesB false X.uw with
      | false =>
        have HM : Hid (checkOf X = 1) := Lib.hid (by simp [checkOf, cfOK, t0, t1, t2])
        have T2 := Lib.hid t2
        clear t0 t1 t2
        go_enter Tryz.func39, Tryz.ntmps39
        go_wp2_with fail
        refine (rulesOK_any X.al _ V.a1 V.c1 HX.out.2.1.al).mono ?_
        rintro e w0 ⟨rfl, hB⟩
        rw [T0.out]
        have HX := Lib.hid (HX.out.next hB)
        clear hB p0 p1 p2 p3 p4 p5 p6 p7 p8
        obtain ⟨p0, p1, p2, p3, p4, p5, p6, p7, p8⟩ := lay9 HX.out.1
        go_wp2_with fail
        refine (bareRulesOK_any X.rm _ V.a2 V.c2 HX.out.2.1.rm).mono ?_
        rintro e w1 ⟨rfl, hB⟩
        rw [T1.out]
        have HX := Lib.hid (HX.out.next hB)
        clear hB p0 p1 p2 p3 p4 p5 p6 p7 p8
        obtain ⟨p0, p1, p2, p3, p4, p5, p6, p7, p8⟩ := lay9 HX.out.1
        go_wp2_with fail
        refine (bareRulesOK_any X.uw _ V.a3 V.c3 HX.out.2.1.uw).mono ?_
        rintro e w2 ⟨rfl, hB⟩
        rw [T2.out]
        have HX := Lib.hid (HX.out.next hB)
        clear hB p0 p1 p2 p3 p4 p5 p6 p7 p8
        obtain ⟨p0, p1, p2, p3, p4, p5, p6, p7, p8⟩ := lay9 HX.out.1
        go_wp2
        go_ret
        exact ⟨by rw [HM.out]; rfl, HX.out.2.2.1⟩
      | true =>
        have T2 := Lib.hid t2
        cases t3 : namesB X.at_ with
        | false =>
          have HM : Hid (checkOf X = 1) := Lib.hid (by simp [checkOf, cfOK, t0, t1, t2, t3])
          have T3 := Lib.hid t3
          clear t0 t1 t2 t3
          go_enter Tryz.func39, Tryz.ntmps39
          go_wp2_with fail
          refine (rulesOK_any X.al _ V.a1 V.c1 HX.out.2.1.al).mono ?_
          rintro e w0 ⟨rfl, hB⟩
          rw [T0.out]
          have HX := Lib.hid (HX.out.next hB)
          clear hB p0 p1 p2 p3 p4 p5 p6 p7 p8
          obtain ⟨p0, p1, p2, p3, p4, p5, p6, p7, p8⟩ := lay9 HX.out.1
          go_wp2_with fail
          refine (bareRulesOK_any X.rm _ V.a2 V.c2 HX.out.2.1.rm).mono ?_
          rintro e w1 ⟨rfl, hB⟩
          rw [T1.out]
          have HX := Lib.hid (HX.out.next hB)
          clear hB p0 p1 p2 p3 p4 p5 p6 p7 p8
          obtain ⟨p0, p1, p2, p3, p4, p5, p6, p7, p8⟩ := lay9 HX.out.1
          go_wp2_with fail
          refine (bareRulesOK_any X.uw _ V.a3 V.c3 HX.out.2.1.uw).mono ?_
          rintro e w2 ⟨rfl, hB⟩
          rw [T2.out]
          have HX := Lib.hid (HX.out.next hB)
          clear hB p0 p1 p2 p3 p4 p5 p6 p7 p8
          obtain ⟨p0, p1, p2, p3, p4, p5, p6, p7, p8⟩ := lay9 HX.out.1
          go_wp2_with fail
          refine (namesOK_any X.at_ _ V.a4 V.c4 HX.out.2.1.l4 HX.out.2.1.at_).mono ?_
          rintro e w3 ⟨rfl, rfl⟩
          rw [T3.out]
          go_wp2
          go_ret
          exact ⟨by rw [HM.out]; rfl, HX.out.2.2.1⟩
        | true =>
          have T3 := Lib.hid t3
          cases t4 : namesB X.dp with
          | false =>
            have HM : Hid (checkOf X = 1) := Lib.hid (by simp [checkOf, cfOK, t0, t1, t2, t3, t4])
            have T4 := Lib.hid t4
            clear t0 t1 t2 t3 t4
            go_enter Tryz.func39, Tryz.ntmps39
            go_wp2_with fail
            refine (rulesOK_any X.al _ V.a1 V.c1 HX.out.2.1.al).mono ?_
            rintro e w0 ⟨rfl, hB⟩
            rw [T0.out]
            have HX := Lib.hid (HX.out.next hB)
            clear hB p0 p1 p2 p3 p4 p5 p6 p7 p8
            obtain ⟨p0, p1, p2, p3, p4, p5, p6, p7, p8⟩ := lay9 HX.out.1
            go_wp2_with fail
            refine (bareRulesOK_any X.rm _ V.a2 V.c2 HX.out.2.1.rm).mono ?_
            rintro e w1 ⟨rfl, hB⟩
            rw [T1.out]
            have HX := Lib.hid (HX.out.next hB)
            clear hB p0 p1 p2 p3 p4 p5 p6 p7 p8
            obtain ⟨p0, p1, p2, p3, p4, p5, p6, p7, p8⟩ := lay9 HX.out.1
            go_wp2_with fail
            refine (bareRulesOK_any X.uw _ V.a3 V.c3 HX.out.2.1.uw).mono ?_
            rintro e w2 ⟨rfl, hB⟩
            rw [T2.out]
            have HX := Lib.hid (HX.out.next hB)
            clear hB p0 p1 p2 p3 p4 p5 p6 p7 p8
            obtain ⟨p0, p1, p2, p3, p4, p5, p6, p7, p8⟩ := lay9 HX.out.1
            go_wp2_with fail
            refine (namesOK_any X.at_ _ V.a4 V.c4 HX.out.2.1.l4 HX.out.2.1.at_).mono ?_
            rintro e w3 ⟨rfl, rfl⟩
            rw [T3.out]
            go_wp2_with fail
            refine (namesOK_any X.dp _ V.a5 V.c5 HX.out.2.1.l5 HX.out.2.1.dp).mono ?_
            rintro e w4 ⟨rfl, rfl⟩
            rw [T4.out]
            go_wp2
            go_ret
            exact ⟨by rw [HM.out]; rfl, HX.out.2.2.1⟩
          | true =>
            have T4 := Lib.hid t4
            cases t5 : cfLists X with
            | true =>
              have HM : Hid (checkOf X = 13) := Lib.hid (by simp [checkOf, cfOK, t0, t1, t2, t3, t4, t5])
              have T5 := Lib.hid t5
              clear t0 t1 t2 t3 t4 t5
              go_enter Tryz.func39, Tryz.ntmps39
              go_wp2_with fail
              refine (rulesOK_any X.al _ V.a1 V.c1 HX.out.2.1.al).mono ?_
              rintro e w0 ⟨rfl, hB⟩
              rw [T0.out]
              have HX := Lib.hid (HX.out.next hB)
              clear hB p0 p1 p2 p3 p4 p5 p6 p7 p8
              obtain ⟨p0, p1, p2, p3, p4, p5, p6, p7, p8⟩ := lay9 HX.out.1
              go_wp2_with fail
              refine (bareRulesOK_any X.rm _ V.a2 V.c2 HX.out.2.1.rm).mono ?_
              rintro e w1 ⟨rfl, hB⟩
              rw [T1.out]
              have HX := Lib.hid (HX.out.next hB)
              clear hB p0 p1 p2 p3 p4 p5 p6 p7 p8
              obtain ⟨p0, p1, p2, p3, p4, p5, p6, p7, p8⟩ := lay9 HX.out.1
              go_wp2_with fail
              refine (bareRulesOK_any X.uw _ V.a3 V.c3 HX.out.2.1.uw).mono ?_
              rintro e w2 ⟨rfl, hB⟩
              rw [T2.out]
              have HX := Lib.hid (HX.out.next hB)
              clear hB p0 p1 p2 p3 p4 p5 p6 p7 p8
              obtain ⟨p0, p1, p2, p3, p4, p5, p6, p7, p8⟩ := lay9 HX.out.1
              go_wp2_with fail
              refine (namesOK_any X.at_ _ V.a4 V.c4 HX.out.2.1.l4 HX.out.2.1.at_).mono ?_
              rintro e w3 ⟨rfl, rfl⟩
              rw [T3.out]
              go_wp2_with fail
              refine (namesOK_any X.dp _ V.a5 V.c5 HX.out.2.1.l5 HX.out.2.1.dp).mono ?_
              rintro e w4 ⟨rfl, rfl⟩
              rw [T4.out]
              go_wp2_with fail
              refine (listsContradict_any X.ha X.hb X.cm X.da V.a1 V.a2 V.a3 V.a4 V.a5 X.al.length X.rm.length X.uw.length X.at_.length X.dp.length V.c1 V.c2 V.c3 V.c4 V.c5 _).mono ?_
              rintro e w5 ⟨rfl, hB⟩
              rw [show listsB X.ha X.hb X.al.length X.rm.length X.at_.length X.dp.length X.da = _ from T5.out]
              have HX := Lib.hid (HX.out.next hB)
              clear hB p0 p1 p2 p3 p4 p5 p6 p7 p8
              obtain ⟨p0, p1, p2, p3, p4, p5, p6, p7, p8⟩ := lay9 HX.out.1
              go_wp2
              go_ret
              exact ⟨by rw [HM.out]; rfl, HX.out.2.2.1⟩
            | false =>
              have T5 := Lib.hid t5
              cases t6 : unwrapB X with
              | true =>
                have HM : Hid (checkOf X = 13) := Lib.hid (by simp [checkOf, cfOK, t0, t1, t2, t3, t4, t5, t6])
                have T6 := Lib.hid t6
                clear t0 t1 t2 t3 t4 t5 t6
                go_enter Tryz.func39, Tryz.ntmps39
                go_wp2_with fail
                refine (rulesOK_any X.al _ V.a1 V.c1 HX.out.2.1.al).mono ?_
                rintro e w0 ⟨rfl, hB⟩
                rw [T0.out]
                have HX := Lib.hid (HX.out.next hB)
                clear hB p0 p1 p2 p3 p4 p5 p6 p7 p8
                obtain ⟨p0, p1, p2, p3, p4, p5, p6, p7, p8⟩ := lay9 HX.out.1
                go_wp2_with fail
                refine (bareRulesOK_any X.rm _ V.a2 V.c2 HX.out.2.1.rm).mono ?_
                rintro e w1 ⟨rfl, hB⟩
                rw [T1.out]
                have HX := Lib.hid (HX.out.next hB)
                clear hB p0 p1 p2 p3 p4 p5 p6 p7 p8
                obtain ⟨p0, p1, p2, p3, p4, p5, p6, p7, p8⟩ := lay9 HX.out.1
                go_wp2_with fail
                refine (bareRulesOK_any X.uw _ V.a3 V.c3 HX.out.2.1.uw).mono ?_
                rintro e w2 ⟨rfl, hB⟩
                rw [T2.out]
                have HX := Lib.hid (HX.out.next hB)
                clear hB p0 p1 p2 p3 p4 p5 p6 p7 p8
                obtain ⟨p0, p1, p2, p3, p4, p5, p6, p7, p8⟩ := lay9 HX.out.1
                go_wp2_with fail
                refine (namesOK_any X.at_ _ V.a4 V.c4 HX.out.2.1.l4 HX.out.2.1.at_).mono ?_
                rintro e w3 ⟨rfl, rfl⟩
                rw [T3.out]
                go_wp2_with fail
                refine (namesOK_any X.dp _ V.a5 V.c5 HX.out.2.1.l5 HX.out.2.1.dp).mono ?_
                rintro e w4 ⟨rfl, rfl⟩
                rw [T4.out]
                go_wp2_with fail
                refine (listsContradict_any X.ha X.hb X.cm X.da V.a1 V.a2 V.a3 V.a4 V.a5 X.al.length X.rm.length X.uw.length X.at_.length X.dp.length V.c1 V.c2 V.c3 V.c4 V.c5 _).mono ?_
                rintro e w5 ⟨rfl, hB⟩
                rw [show listsB X.ha X.hb X.al.length X.rm.length X.at_.length X.dp.length X.da = _ from T5.out]
                have HX := Lib.hid (HX.out.next hB)
                clear hB p0 p1 p2 p3 p4 p5 p6 p7 p8
                obtain ⟨p0, p1, p2, p3, p4, p5, p6, p7, p8⟩ := lay9 HX.out.1
                go_wp2_with fail
                refine (unwrapContradicts_any X V _ HX.out.2.1 T0.out T1.out T2.out).mono ?_
                rintro e w6 ⟨rfl, hB⟩
                rw [T6.out]
                have HX := Lib.hid (HX.out.next hB)
                clear hB p0 p1 p2 p3 p4 p5 p6 p7 p8
                obtain ⟨p0, p1, p2, p3, p4, p5, p6, p7, p8⟩ := lay9 HX.out.1
                go_wp2
                go_ret
                exact ⟨by rw [HM.out]; rfl, HX.out.2.2.1⟩
              | false =>
                have T6 := Lib.hid t6
                cases t7 : attrsB X with
                | true =>
                  have HM : Hid (checkOf X = 13) := Lib.hid (by simp [checkOf, cfOK, t0, t1, t2, t3, t4, t5, t6, t7])
                  have T7 := Lib.hid t7
                  clear t0 t1 t2 t3 t4 t5 t6 t7
                  go_enter Tryz.func39, Tryz.ntmps39
                  go_wp2_with fail
                  refine (rulesOK_any X.al _ V.a1 V.c1 HX.out.2.1.al).mono ?_
                  rintro e w0 ⟨rfl, hB⟩
                  rw [T0.out]
                  have HX := Lib.hid (HX.out.next hB)
                  clear hB p0 p1 p2 p3 p4 p5 p6 p7 p8
                  obtain ⟨p0, p1, p2, p3, p4, p5, p6, p7, p8⟩ := lay9 HX.out.1
                  go_wp2_with fail
                  refine (bareRulesOK_any X.rm _ V.a2 V.c2 HX.out.2.1.rm).mono ?_
                  rintro e w1 ⟨rfl, hB⟩
                  rw [T1.out]
                  have HX := Lib.hid (HX.out.next hB)
                  clear hB p0 p1 p2 p3 p4 p5 p6 p7 p8
                  obtain ⟨p0, p1, p2, p3, p4, p5, p6, p7, p8⟩ := lay9 HX.out.1
                  go_wp2_with fail
                  refine (bareRulesOK_any X.uw _ V.a3 V.c3 HX.out.2.1.uw).mono ?_
                  rintro e w2 ⟨rfl, hB⟩
                  rw [T2.out]
                  have HX := Lib.hid (HX.out.next hB)
                  clear hB p0 p1 p2 p3 p4 p5 p6 p7 p8
                  obtain ⟨p0, p1, p2, p3, p4, p5, p6, p7, p8⟩ := lay9 HX.out.1
                  go_wp2_with fail
                  refine (namesOK_any X.at_ _ V.a4 V.c4 HX.out.2.1.l4 HX.out.2.1.at_).mono ?_
                  rintro e w3 ⟨rfl, rfl⟩
                  rw [T3.out]
                  go_wp2_with fail
                  refine (namesOK_any X.dp _ V.a5 V.c5 HX.out.2.1.l5 HX.out.2.1.dp).mono ?_
                  rintro e w4 ⟨rfl, rfl⟩
                  rw [T4.out]
                  go_wp2_with fail
                  refine (listsContradict_any X.ha X.hb X.cm X.da V.a1 V.a2 V.a3 V.a4 V.a5 X.al.length X.rm.length X.uw.length X.at_.length X.dp.length V.c1 V.c2 V.c3 V.c4 V.c5 _).mono ?_
                  rintro e w5 ⟨rfl, hB⟩
                  rw [show listsB X.ha X.hb X.al.length X.rm.length X.at_.length X.dp.length X.da = _ from T5.out]
                  have HX := Lib.hid (HX.out.next hB)
                  clear hB p0 p1 p2 p3 p4 p5 p6 p7 p8
                  obtain ⟨p0, p1, p2, p3, p4, p5, p6, p7, p8⟩ := lay9 HX.out.1
                  go_wp2_with fail
                  refine (unwrapContradicts_any X V _ HX.out.2.1 T0.out T1.out T2.out).mono ?_
                  rintro e w6 ⟨rfl, hB⟩
                  rw [T6.out]
                  have HX := Lib.hid (HX.out.next hB)
                  clear hB p0 p1 p2 p3 p4 p5 p6 p7 p8
                  obtain ⟨p0, p1, p2, p3, p4, p5, p6, p7, p8⟩ := lay9 HX.out.1
                  go_wp2_with fail
                  refine (ruContainsFunc_any _ #[.agg #[.bool X.ha, .bool X.hb, .slice V.a1 X.al.length V.c1, .slice V.a2 X.rm.length V.c2, .slice V.a3 X.uw.length V.c3, .slice V.a4 X.at_.length V.c4, .slice V.a5 X.dp.length V.c5, .bool X.cm, .bool X.da]] #[] _ E1.out X.al _ V.a1 V.c1 HX.out.2.1.al (attrs_bound X V _ HX.out.2.1)).mono ?_
                  rintro e w7 ⟨rfl, hB⟩
                  rw [show (X.al.any fun x => x.2.2.any (attr1B X)) = _ from T7.out]
                  have HX := Lib.hid (HX.out.next hB)
                  clear hB p0 p1 p2 p3 p4 p5 p6 p7 p8
                  obtain ⟨p0, p1, p2, p3, p4, p5, p6, p7, p8⟩ := lay9 HX.out.1
                  go_wp2
                  go_ret
                  exact ⟨by rw [HM.out]; rfl, HX.out.2.2.1⟩
                | false =>
                  have T7 := Lib.hid t7
                  have HM : Hid (checkOf X = 0) := Lib.hid (by simp [checkOf, cfOK, t0, t1, t2, t3, t4, t5, t6, t7])
                  clear t0 t1 t2 t3 t4 t5 t6 t7
                  go_enter Tryz.func39, Tryz.ntmps39
                  go_wp2_with fail
                  refine (rulesOK_any X.al _ V.a1 V.c1 HX.out.2.1.al).mono ?_
                  rintro e w0 ⟨rfl, hB⟩
                  rw [T0.out]
                  have HX := Lib.hid (HX.out.next hB)
                  clear hB p0 p1 p2 p3 p4 p5 p6 p7 p8
                  obtain ⟨p0, p1, p2, p3, p4, p5, p6, p7, p8⟩ := lay9 HX.out.1
                  go_wp2_with fail
                  refine (bareRulesOK_any X.rm _ V.a2 V.c2 HX.out.2.1.rm).mono ?_
                  rintro e w1 ⟨rfl, hB⟩
                  rw [T1.out]
                  have HX := Lib.hid (HX.out.next hB)
                  clear hB p0 p1 p2 p3 p4 p5 p6 p7 p8
                  obtain ⟨p0, p1, p2, p3, p4, p5, p6, p7, p8⟩ := lay9 HX.out.1
                  go_wp2_with fail
                  refine (bareRulesOK_any X.uw _ V.a3 V.c3 HX.out.2.1.uw).mono ?_
                  rintro e w2 ⟨rfl, hB⟩
                  rw [T2.out]
                  have HX := Lib.hid (HX.out.next hB)
                  clear hB p0 p1 p2 p3 p4 p5 p6 p7 p8
                  obtain ⟨p0, p1, p2, p3, p4, p5, p6, p7, p8⟩ := lay9 HX.out.1
                  go_wp2_with fail
                  refine (namesOK_any X.at_ _ V.a4 V.c4 HX.out.2.1.l4 HX.out.2.1.at_).mono ?_
                  rintro e w3 ⟨rfl, rfl⟩
                  rw [T3.out]
                  go_wp2_with fail
                  refine (namesOK_any X.dp _ V.a5 V.c5 HX.out.2.1.l5 HX.out.2.1.dp).mono ?_
                  rintro e w4 ⟨rfl, rfl⟩
                  rw [T4.out]
                  go_wp2_with fail
                  refine (listsContradict_any X.ha X.hb X.cm X.da V.a1 V.a2 V.a3 V.a4 V.a5 X.al.length X.rm.length X.uw.length X.at_.length X.dp.length V.c1 V.c2 V.c3 V.c4 V.c5 _).mono ?_
                  rintro e w5 ⟨rfl, hB⟩
                  rw [show listsB X.ha X.hb X.al.length X.rm.length X.at_.length X.dp.length X.da = _ from T5.out]
                  have HX := Lib.hid (HX.out.next hB)
                  clear hB p0 p1 p2 p3 p4 p5 p6 p7 p8
                  obtain ⟨p0, p1, p2, p3, p4, p5, p6, p7, p8⟩ := lay9 HX.out.1
                  go_wp2_with fail
                  refine (unwrapContradicts_any X V _ HX.out.2.1 T0.out T1.out T2.out).mono ?_
                  rintro e w6 ⟨rfl, hB⟩
                  rw [T6.out]
                  have HX := Lib.hid (HX.out.next hB)
                  clear hB p0 p1 p2 p3 p4 p5 p6 p7 p8
                  obtain ⟨p0, p1, p2, p3, p4, p5, p6, p7, p8⟩ := lay9 HX.out.1
                  go_wp2_with fail
                  refine (ruContainsFunc_any _ #[.agg #[.bool X.ha, .bool X.hb, .slice V.a1 X.al.length V.c1, .slice V.a2 X.rm.length V.c2, .slice V.a3 X.uw.length V.c3, .slice V.a4 X.at_.length V.c4, .slice V.a5 X.dp.length V.c5, .bool X.cm, .bool X.da]] #[] _ E1.out X.al _ V.a1 V.c1 HX.out.2.1.al (attrs_bound X V _ HX.out.2.1)).mono ?_
                  rintro e w7 ⟨rfl, hB⟩
                  rw [show (X.al.any fun x => x.2.2.any (attr1B X)) = _ from T7.out]
                  have HX := Lib.hid (HX.out.next hB)
                  clear hB p0 p1 p2 p3 p4 p5 p6 p7 p8
                  obtain ⟨p0, p1, p2, p3, p4, p5, p6, p7, p8⟩ := lay9 HX.out.1
                  go_wp2
                  go_ret
                  exact ⟨by rw [HM.out]; rfl, HX.out.2.2.1⟩
end Go.Proofs.YthdkkpbhijlpaaaGreat
