import Derived.Deep.RegionHeld3
import Derived.Test.YthdkkpbhijlpaaaGreatS31
import Derived.Test.YthdkkpbhijlpaaaGreatS22
set_option linter.unusedVariables false
namespace Go.Proofs.YthdkkpbhijlpaaaGreat
open Go.ChangeShapes Go.WideShapes Go.ChangeAt Go.RowKit Go.Deep

theorem ownsRow_sameZ {w w' : World} {base : Nat} {e : TypeId} {s : Nat} {v : Value} {n : Nat} {xs : List Value} (h : w.ownsRow base e s v n xs) (hb : ∀ k, v.ownBlock = some k → w'.heap[k]? = w.heap[k]?) : w'.ownsRow base e s v n xs := by
  obtain ⟨h1, h2⟩ := h
  refine ⟨h1, ?_⟩
  rcases h2 with h2 | ⟨g, cap, cur, e1, e2, e3, e4⟩
  · exact Or.inl h2
  · subst e1; exact Or.inr ⟨g, cap, cur, rfl, e2, (hb g rfl).trans e3, e4⟩
theorem ownsRow_lowZ {w : World} {base base' : Nat} {e : TypeId} {s : Nat} {v : Value} {n : Nat} {xs : List Value} (h : w.ownsRow base e s v n xs) (hb : base' ≤ base) : w.ownsRow base' e s v n xs := by
  obtain ⟨h1, h2⟩ := h
  refine ⟨h1, ?_⟩
  rcases h2 with h2 | ⟨g, cap, cur, e1, e2, e3⟩
  · exact Or.inl h2
  · exact Or.inr ⟨g, cap, cur, e1, Nat.le_trans hb e2, e3⟩
theorem lay_sameZ {w w' : World} {g : Nat} {cs : Array Value} (h : Lay w g cs) (hb : w'.heap[g]? = w.heap[g]?) : Lay w' g cs :=
  ⟨fun j => (World.cell?_of_block (w := w) (a := ⟨g, j, none⟩) hb).trans (h.1 j), fun j => (World.frozen?_of_block (w := w) (a := ⟨g, j, none⟩) hb).trans (h.2 j)⟩
theorem lay6z {w : World} {g : Nat} {v0 v1 v2 v3 v4 v5 : Value} (h : Lay w g #[v0, v1, v2, v3, v4, v5]) : w.cell? ⟨g, 0, none⟩ = some v0 ∧ w.cell? ⟨g, 1, none⟩ = some v1 ∧ w.cell? ⟨g, 2, none⟩ = some v2 ∧ w.cell? ⟨g, 3, none⟩ = some v3 ∧ w.cell? ⟨g, 4, none⟩ = some v4 ∧ w.cell? ⟨g, 5, none⟩ = some v5 :=
  ⟨h.1 0, h.1 1, h.1 2, h.1 3, h.1 4, h.1 5⟩
theorem alVals_snoc (l : List (ByteArray × ByteArray)) (a : ByteArray × ByteArray) : alVals (l ++ [a]) = alVals l ++ [.string a.1, .string a.2] := by
  induction l with
  | nil => rfl
  | cons x r ih => simp only [List.cons_append, alVals, ih]
/-- an attribute put behind a row of one's own -/
theorem wpList_push_attr {ops : Array Oper} {rest : List Oper} {o : Oper} {a : Act} {Q : Exit → Act → World → Prop} {w : World} (hgd : o.guard = none) (s x : Operand)
    (ho : o.op = .call { callee := .builtin .append, args := #[s, x], argTypes := #[69, 69] })
    (base g0 : Nat) (v : Value) (L : List (ByteArray × ByteArray)) (hv : a.eval s = v) (hO : w.ownsRow base 121 2 v L.length (alVals L)) (hbase : base ≤ w.heap.size) (hl : L.length ≤ 1048576) (hx : a.eval x = .slice (some ⟨g0, 0, none⟩) 1 1)
    (an av : ByteArray) (hc : ∀ j u, ([.string an, .string av] : List Value)[j]? = some u → w.cell? ((⟨g0, 0, none⟩ : Addr).add j) = some u)
    (h : ∀ v' w', w'.ownsRow base 121 2 v' (L ++ [(an, av)]).length (alVals (L ++ [(an, av)])) → Below base w w' → wpList Tryz.prog ops Q rest (a.put o.dst v') w') : wpList Tryz.prog ops Q (o :: rest) a w := by
  obtain ⟨i0, hi0, hz0, hz1, hz2⟩ := info_of infoAttr
  refine wpList_append_own_at w hgd s x 69 ho base 121 i0 _ 2 32 Tryz.underlying69 hi0 hz0 hz1 hz2 rfl (by omega) v L.length (alVals L) hv hO ⟨g0, 0, none⟩ 1 1 _ hx rfl hc (by intro u hu; simp only [List.mem_cons, List.not_mem_nil, or_false] at hu; rcases hu with rfl | rfl <;> rfl) (by unfold maxLen; omega) (by omega) hbase ?_
  intro v' w' hown hgrow _ _
  refine h v' w' ?_ ((Below.refl base w).grown hgrow hbase fun q hq => (World.ownsRow.lt hO q hq).1)
  rw [alVals_snoc, List.length_append]
  exact hown
theorem keepAl_next {X : Cf} {sp : Int} {n : ByteArray} {al : List (ByteArray × ByteArray)} {j : Nat} (hj : j < al.length) : keepAl X sp n (al.take (j + 1)) = keepAl X sp n (al.take j) ++ (if attA X sp n al[j].1 al[j].2 = true then [(al[j].1, al[j].2)] else []) := by
  unfold keepAl
  rw [List.take_succ_eq_append_getElem hj, List.filter_append]
  congr 1
  by_cases h : attA X sp n al[j].1 al[j].2 = true
  · rw [if_pos h]; simp [h]
  · rw [if_neg h]; simp [h]
theorem keepAl_len {X : Cf} {sp : Int} {n : ByteArray} {al : List (ByteArray × ByteArray)} {j : Nat} (h : al.length ≤ 6) : (keepAl X sp n (al.take j)).length ≤ 6 := by
  have h1 := List.length_filter_le (fun a : ByteArray × ByteArray => attA X sp n a.1 a.2) (al.take j)
  have h2 : (al.take j).length ≤ al.length := by rw [List.length_take]; omega
  unfold keepAl
  omega
set_option maxHeartbeats 4000000 in
set_option maxRecDepth 100000 in
theorem l08Attrs_any (X : Cf) (V : CfV) (k sp : Int) (n t : ByteArray) (al : List (ByteArray × ByteArray)) (ca lk ck b o lo hi : Nat) (A K : Option Addr) (w : World) (h : CfIn w X V) (hA : RowAt lo hi A al.length b o) (hal : AsAt w b o al) (hh : hi ≤ w.heap.size) (h6 : al.length ≤ 6) (hsm : ∀ x ∈ al, x.1.size ≤ 65536 ∧ x.2.size ≤ 65536) :
    Calls Tryz.prog 120 #[.agg #[.bool X.ha, .bool X.hb, .slice V.a1 X.al.length V.c1, .slice V.a2 X.rm.length V.c2, .slice V.a3 X.uw.length V.c3, .slice V.a4 X.at_.length V.c4, .slice V.a5 X.dp.length V.c5, .bool X.cm, .bool X.da], .agg #[.int .i64 k, .int .i64 sp, .string n, .string t, .slice A al.length ca, .slice K lk ck]] w fun e w' => ∃ v, e = .returned v ∧ w'.ownsRow w.heap.size 121 2 v (keepAl X sp n al).length (alVals (keepAl X sp n al)) ∧ Below w.heap.size w w' := by
  have HC := Lib.hid h
  have HA := Lib.hid hA
  have HS := Lib.hid hal.get
  have HSM := Lib.hid hsm
  have BW : Hid (Below w.heap.size w ((w.alloc (.cells #[.bool X.ha, .bool X.hb, .slice V.a1 X.al.length V.c1, .slice V.a2 X.rm.length V.c2, .slice V.a3 X.uw.length V.c3, .slice V.a4 X.at_.length V.c4, .slice V.a5 X.dp.length V.c5, .bool X.cm, .bool X.da] 35)).alloc (.cells #[.int .i64 k, .int .i64 sp, .string n, .string t, .slice A al.length ca, .slice K lk ck] 71))) := Lib.hid (((Below.refl w.heap.size w).alloc (Nat.le_refl _) _).alloc (by simp) _)
  have LC : Hid (Lay ((w.alloc (.cells #[.bool X.ha, .bool X.hb, .slice V.a1 X.al.length V.c1, .slice V.a2 X.rm.length V.c2, .slice V.a3 X.uw.length V.c3, .slice V.a4 X.at_.length V.c4, .slice V.a5 X.dp.length V.c5, .bool X.cm, .bool X.da] 35)).alloc (.cells #[.int .i64 k, .int .i64 sp, .string n, .string t, .slice A al.length ca, .slice K lk ck] 71)) w.heap.size #[.bool X.ha, .bool X.hb, .slice V.a1 X.al.length V.c1, .slice V.a2 X.rm.length V.c2, .slice V.a3 X.uw.length V.c3, .slice V.a4 X.at_.length V.c4, .slice V.a5 X.dp.length V.c5, .bool X.cm, .bool X.da]) := Lib.hid ((Lay.new w #[.bool X.ha, .bool X.hb, .slice V.a1 X.al.length V.c1, .slice V.a2 X.rm.length V.c2, .slice V.a3 X.uw.length V.c3, .slice V.a4 X.at_.length V.c4, .slice V.a5 X.dp.length V.c5, .bool X.cm, .bool X.da] 35).below ((Below.refl _ _).alloc (Nat.le_refl _) _) (by simp))
  have LN : Hid (Lay ((w.alloc (.cells #[.bool X.ha, .bool X.hb, .slice V.a1 X.al.length V.c1, .slice V.a2 X.rm.length V.c2, .slice V.a3 X.uw.length V.c3, .slice V.a4 X.at_.length V.c4, .slice V.a5 X.dp.length V.c5, .bool X.cm, .bool X.da] 35)).alloc (.cells #[.int .i64 k, .int .i64 sp, .string n, .string t, .slice A al.length ca, .slice K lk ck] 71)) (w.heap.size + 1) #[.int .i64 k, .int .i64 sp, .string n, .string t, .slice A al.length ca, .slice K lk ck]) := Lib.hid (by have := Lay.new (w.alloc (.cells #[.bool X.ha, .bool X.hb, .slice V.a1 X.al.length V.c1, .slice V.a2 X.rm.length V.c2, .slice V.a3 X.uw.length V.c3, .slice V.a4 X.at_.length V.c4, .slice V.a5 X.dp.length V.c5, .bool X.cm, .bool X.da] 35)) #[.int .i64 k, .int .i64 sp, .string n, .string t, .slice A al.length ca, .slice K lk ck] 71; rwa [show (w.alloc (.cells #[.bool X.ha, .bool X.hb, .slice V.a1 X.al.length V.c1, .slice V.a2 X.rm.length V.c2, .slice V.a3 X.uw.length V.c3, .slice V.a4 X.at_.length V.c4, .slice V.a5 X.dp.length V.c5, .bool X.cm, .bool X.da] 35)).heap.size = w.heap.size + 1 by simp] at this)
  have hWs : ((w.alloc (.cells #[.bool X.ha, .bool X.hb, .slice V.a1 X.al.length V.c1, .slice V.a2 X.rm.length V.c2, .slice V.a3 X.uw.length V.c3, .slice V.a4 X.at_.length V.c4, .slice V.a5 X.dp.length V.c5, .bool X.cm, .bool X.da] 35)).alloc (.cells #[.int .i64 k, .int .i64 sp, .string n, .string t, .slice A al.length ca, .slice K lk ck] 71)).heap.size = w.heap.size + 1 + 1 := by simp
  have O0 : Hid ((((w.alloc (.cells #[.bool X.ha, .bool X.hb, .slice V.a1 X.al.length V.c1, .slice V.a2 X.rm.length V.c2, .slice V.a3 X.uw.length V.c3, .slice V.a4 X.at_.length V.c4, .slice V.a5 X.dp.length V.c5, .bool X.cm, .bool X.da] 35)).alloc (.cells #[.int .i64 k, .int .i64 sp, .string n, .string t, .slice A al.length ca, .slice K lk ck] 71)).alloc (.cells #[] 121)).ownsRow (w.heap.size + 1 + 1) 121 2 (.slice (some ⟨w.heap.size + 1 + 1, 0, none⟩) 0 0) 0 []) := Lib.hid (by have := World.ownsRow_lit (e := 121) (size := 2) (base := w.heap.size + 1 + 1) ((w.alloc (.cells #[.bool X.ha, .bool X.hb, .slice V.a1 X.al.length V.c1, .slice V.a2 X.rm.length V.c2, .slice V.a3 X.uw.length V.c3, .slice V.a4 X.at_.length V.c4, .slice V.a5 X.dp.length V.c5, .bool X.cm, .bool X.da] 35)).alloc (.cells #[.int .i64 k, .int .i64 sp, .string n, .string t, .slice A al.length ca, .slice K lk ck] 71)) #[] 0 (by simp) (Nat.zero_le _) rfl; rwa [hWs] at this)
  have B0 : Hid (Below (w.heap.size + 1 + 1) ((w.alloc (.cells #[.bool X.ha, .bool X.hb, .slice V.a1 X.al.length V.c1, .slice V.a2 X.rm.length V.c2, .slice V.a3 X.uw.length V.c3, .slice V.a4 X.at_.length V.c4, .slice V.a5 X.dp.length V.c5, .bool X.cm, .bool X.da] 35)).alloc (.cells #[.int .i64 k, .int .i64 sp, .string n, .string t, .slice A al.length ca, .slice K lk ck] 71)) (((w.alloc (.cells #[.bool X.ha, .bool X.hb, .slice V.a1 X.al.length V.c1, .slice V.a2 X.rm.length V.c2, .slice V.a3 X.uw.length V.c3, .slice V.a4 X.at_.length V.c4, .slice V.a5 X.dp.length V.c5, .bool X.cm, .bool X.da] 35)).alloc (.cells #[.int .i64 k, .int .i64 sp, .string n, .string t, .slice A al.length ca, .slice K lk ck] 71)).alloc (.cells #[] 121))) := Lib.hid ((Below.refl _ _).alloc (by simp) _)
  have HWS := Lib.hid hWs
  clear h hA hal hsm hWs
  go_enter Tryz.func120, Tryz.ntmps120
  go_wp2
  go_loopw [5, 6] (fun v i wr => ∃ (j : Nat) (vv : Value), vv = v ∧ i = .int .i64 (j : Int) ∧ j ≤ al.length ∧ Hid (wr.ownsRow (w.heap.size + 1 + 1) 121 2 v (keepAl X sp n (al.take j)).length (alVals (keepAl X sp n (al.take j))) ∧ Below (w.heap.size + 1 + 1) ((w.alloc (.cells #[.bool X.ha, .bool X.hb, .slice V.a1 X.al.length V.c1, .slice V.a2 X.rm.length V.c2, .slice V.a3 X.uw.length V.c3, .slice V.a4 X.at_.length V.c4, .slice V.a5 X.dp.length V.c5, .bool X.cm, .bool X.da] 35)).alloc (.cells #[.int .i64 k, .int .i64 sp, .string n, .string t, .slice A al.length ca, .slice K lk ck] 71)) wr)) (fun _ i _ => al.length - (intOf i).toNat)
  case atStart => exact ⟨0, _, rfl, rfl, Nat.zero_le _, Lib.hid ⟨O0.out, B0.out⟩⟩
  case round =>
    clear O0 B0
    obtain ⟨j, vv, hvv, rfl, hj, HH⟩ := hrel
    subst hvv
    have HB := Lib.hid HH.out.2
    have HO := Lib.hid HH.out.1
    clear HH
    have hk2 : ∀ q, q < w.heap.size + 1 + 1 → wr.heap[q]? = ((w.alloc (.cells #[.bool X.ha, .bool X.hb, .slice V.a1 X.al.length V.c1, .slice V.a2 X.rm.length V.c2, .slice V.a3 X.uw.length V.c3, .slice V.a4 X.at_.length V.c4, .slice V.a5 X.dp.length V.c5, .bool X.cm, .bool X.da] 35)).alloc (.cells #[.int .i64 k, .int .i64 sp, .string n, .string t, .slice A al.length ca, .slice K lk ck] 71)).heap[q]? := fun q hq => HB.out.block q hq
    obtain ⟨p0, p1, p2, p3, p4, p5, p6, p7, p8⟩ := lay9 (lay_sameZ LC.out (hk2 _ (by omega)))
    obtain ⟨n0, n1, n2, n3, n4, n5⟩ := lay6z (lay_sameZ LN.out (hk2 _ (by omega)))
    have BWR := Lib.hid (BW.out.trans (HB.out.mono (by omega)))
    have hwr : w.heap.size + 1 + 1 ≤ wr.heap.size := by have := HB.out.size; have := HWS.out; omega
    clear hk2
    by_cases hlt : j < al.length
    · obtain ⟨rfl, hlo, hhi⟩ := HA.out.2 (by omega)
      obtain ⟨s1, s2, s3, s4⟩ := HS.out j hlt
      have t1 := (BWR.out.cell (p := ⟨b, o + j * 2, none⟩) (by show b < _; omega)).trans s1
      have t2 := (BWR.out.cell (p := ⟨b, o + j * 2 + 1, none⟩) (by show b < _; omega)).trans s2
      have HZ := Lib.hid (HSM.out al[j] (List.getElem_mem hlt))
      have HKN := Lib.hid (keepAl_next (X := X) (sp := sp) (n := n) hlt)
      have HKL := Lib.hid (keepAl_len (X := X) (sp := sp) (n := n) (j := j) h6)
      have HAT := Lib.hid (fun W (hW : Below wr.heap.size wr W) => (l07Attr_any X V sp n al[j].1 al[j].2 W HZ.out.1 HZ.out.2 (HC.out.next (BWR.out.trans (hW.mono BWR.out.size)))).mono fun e w' (h : _ ∧ _) => (⟨h.1, hW.trans (h.2.mono hW.size)⟩ : _ ∧ Below wr.heap.size wr w'))
      clear s1 s2 s3 s4
      generalize al[j] = a at t1 t2 HZ HKN HAT
      obtain ⟨an, av⟩ := a
      simp only at t1 t2 HKN HAT
      cases hq : attA X sp n an av with
      | false =>
        have HQ := Lib.hid hq
        rw [hq] at HKN
        clear hq
        go_wp2_with fail
        go_region_held3 (fun w' => w'.cell? ⟨w.heap.size, 0, none⟩ = some (.bool X.ha) ∧ w'.cell? ⟨w.heap.size, 1, none⟩ = some (.bool X.hb) ∧ w'.cell? ⟨w.heap.size, 2, none⟩ = some (.slice V.a1 X.al.length V.c1) ∧ w'.cell? ⟨w.heap.size, 3, none⟩ = some (.slice V.a2 X.rm.length V.c2) ∧ w'.cell? ⟨w.heap.size, 4, none⟩ = some (.slice V.a3 X.uw.length V.c3) ∧ w'.cell? ⟨w.heap.size, 5, none⟩ = some (.slice V.a4 X.at_.length V.c4) ∧ w'.cell? ⟨w.heap.size, 6, none⟩ = some (.slice V.a5 X.dp.length V.c5) ∧ w'.cell? ⟨w.heap.size, 7, none⟩ = some (.bool X.cm) ∧ w'.cell? ⟨w.heap.size, 8, none⟩ = some (.bool X.da) ∧ w'.cell? ⟨w.heap.size + 1, 1, none⟩ = some (.int .i64 sp) ∧ w'.cell? ⟨w.heap.size + 1, 2, none⟩ = some (.string n) ∧ w'.cell? ⟨w.heap.size + 1, 4, none⟩ = some (.slice (some ⟨b, o, none⟩) al.length ca) ∧ w'.cell? ⟨b, o + j * 2, none⟩ = some (.string an) ∧ w'.cell? ⟨b, o + j * 2 + 1, none⟩ = some (.string av)) (first | exact ⟨p0, p1, p2, p3, p4, p5, p6, p7, p8, n1, n2, n4, t1, t2⟩ | exact Y2 | go_keep) (first | (go_at_call 170; refine (HAT.out _ (by first | exact Below.refl _ _ | exact (Below.refl _ _).drew)).mono ?_; rintro e w2 ⟨rfl, hB⟩; rw [HQ.out]; have B2 := Lib.hid hB; have Y2 : w2.cell? ⟨w.heap.size, 0, none⟩ = some (.bool X.ha) ∧ w2.cell? ⟨w.heap.size, 1, none⟩ = some (.bool X.hb) ∧ w2.cell? ⟨w.heap.size, 2, none⟩ = some (.slice V.a1 X.al.length V.c1) ∧ w2.cell? ⟨w.heap.size, 3, none⟩ = some (.slice V.a2 X.rm.length V.c2) ∧ w2.cell? ⟨w.heap.size, 4, none⟩ = some (.slice V.a3 X.uw.length V.c3) ∧ w2.cell? ⟨w.heap.size, 5, none⟩ = some (.slice V.a4 X.at_.length V.c4) ∧ w2.cell? ⟨w.heap.size, 6, none⟩ = some (.slice V.a5 X.dp.length V.c5) ∧ w2.cell? ⟨w.heap.size, 7, none⟩ = some (.bool X.cm) ∧ w2.cell? ⟨w.heap.size, 8, none⟩ = some (.bool X.da) ∧ w2.cell? ⟨w.heap.size + 1, 1, none⟩ = some (.int .i64 sp) ∧ w2.cell? ⟨w.heap.size + 1, 2, none⟩ = some (.string n) ∧ w2.cell? ⟨w.heap.size + 1, 4, none⟩ = some (.slice (some ⟨b, o, none⟩) al.length ca) ∧ w2.cell? ⟨b, o + j * 2, none⟩ = some (.string an) ∧ w2.cell? ⟨b, o + j * 2 + 1, none⟩ = some (.string av) := ⟨(hB.cell (p := ⟨w.heap.size, 0, none⟩) (by show w.heap.size < wr.heap.size; omega)).trans p0, (hB.cell (p := ⟨w.heap.size, 1, none⟩) (by show w.heap.size < wr.heap.size; omega)).trans p1, (hB.cell (p := ⟨w.heap.size, 2, none⟩) (by show w.heap.size < wr.heap.size; omega)).trans p2, (hB.cell (p := ⟨w.heap.size, 3, none⟩) (by show w.heap.size < wr.heap.size; omega)).trans p3, (hB.cell (p := ⟨w.heap.size, 4, none⟩) (by show w.heap.size < wr.heap.size; omega)).trans p4, (hB.cell (p := ⟨w.heap.size, 5, none⟩) (by show w.heap.size < wr.heap.size; omega)).trans p5, (hB.cell (p := ⟨w.heap.size, 6, none⟩) (by show w.heap.size < wr.heap.size; omega)).trans p6, (hB.cell (p := ⟨w.heap.size, 7, none⟩) (by show w.heap.size < wr.heap.size; omega)).trans p7, (hB.cell (p := ⟨w.heap.size, 8, none⟩) (by show w.heap.size < wr.heap.size; omega)).trans p8, (hB.cell (p := ⟨w.heap.size + 1, 1, none⟩) (by show w.heap.size + 1 < wr.heap.size; omega)).trans n1, (hB.cell (p := ⟨w.heap.size + 1, 2, none⟩) (by show w.heap.size + 1 < wr.heap.size; omega)).trans n2, (hB.cell (p := ⟨w.heap.size + 1, 4, none⟩) (by show w.heap.size + 1 < wr.heap.size; omega)).trans n4, (hB.cell (p := ⟨b, o + j * 2, none⟩) (by show b < wr.heap.size; omega)).trans t1, (hB.cell (p := ⟨b, o + j * 2 + 1, none⟩) (by show b < wr.heap.size; omega)).trans t2⟩; clear hB))
        go_wp2_with fail
        go_roundw
        case rel => exact ⟨j + 1, _, rfl, by go_num, by omega, Lib.hid ⟨by rw [HKN.out]; simpa using (ownsRow_sameZ HO.out fun q hq => B2.out.block q (World.ownsRow.lt HO.out q hq).2), HB.out.trans (B2.out.mono (by have := HB.out.size; have := HWS.out; omega))⟩⟩
        case measure => (simp [intOf] <;> omega)
      | true =>
        have HQ := Lib.hid hq
        rw [hq] at HKN
        clear hq
        go_wp2_with fail
        go_region_held3 (fun w' => w'.cell? ⟨w.heap.size, 0, none⟩ = some (.bool X.ha) ∧ w'.cell? ⟨w.heap.size, 1, none⟩ = some (.bool X.hb) ∧ w'.cell? ⟨w.heap.size, 2, none⟩ = some (.slice V.a1 X.al.length V.c1) ∧ w'.cell? ⟨w.heap.size, 3, none⟩ = some (.slice V.a2 X.rm.length V.c2) ∧ w'.cell? ⟨w.heap.size, 4, none⟩ = some (.slice V.a3 X.uw.length V.c3) ∧ w'.cell? ⟨w.heap.size, 5, none⟩ = some (.slice V.a4 X.at_.length V.c4) ∧ w'.cell? ⟨w.heap.size, 6, none⟩ = some (.slice V.a5 X.dp.length V.c5) ∧ w'.cell? ⟨w.heap.size, 7, none⟩ = some (.bool X.cm) ∧ w'.cell? ⟨w.heap.size, 8, none⟩ = some (.bool X.da) ∧ w'.cell? ⟨w.heap.size + 1, 1, none⟩ = some (.int .i64 sp) ∧ w'.cell? ⟨w.heap.size + 1, 2, none⟩ = some (.string n) ∧ w'.cell? ⟨w.heap.size + 1, 4, none⟩ = some (.slice (some ⟨b, o, none⟩) al.length ca) ∧ w'.cell? ⟨b, o + j * 2, none⟩ = some (.string an) ∧ w'.cell? ⟨b, o + j * 2 + 1, none⟩ = some (.string av)) (first | exact ⟨p0, p1, p2, p3, p4, p5, p6, p7, p8, n1, n2, n4, t1, t2⟩ | exact Y2 | go_keep) (first | (go_at_call 170; refine (HAT.out _ (by first | exact Below.refl _ _ | exact (Below.refl _ _).drew)).mono ?_; rintro e w2 ⟨rfl, hB⟩; rw [HQ.out]; have B2 := Lib.hid hB; have Y2 : w2.cell? ⟨w.heap.size, 0, none⟩ = some (.bool X.ha) ∧ w2.cell? ⟨w.heap.size, 1, none⟩ = some (.bool X.hb) ∧ w2.cell? ⟨w.heap.size, 2, none⟩ = some (.slice V.a1 X.al.length V.c1) ∧ w2.cell? ⟨w.heap.size, 3, none⟩ = some (.slice V.a2 X.rm.length V.c2) ∧ w2.cell? ⟨w.heap.size, 4, none⟩ = some (.slice V.a3 X.uw.length V.c3) ∧ w2.cell? ⟨w.heap.size, 5, none⟩ = some (.slice V.a4 X.at_.length V.c4) ∧ w2.cell? ⟨w.heap.size, 6, none⟩ = some (.slice V.a5 X.dp.length V.c5) ∧ w2.cell? ⟨w.heap.size, 7, none⟩ = some (.bool X.cm) ∧ w2.cell? ⟨w.heap.size, 8, none⟩ = some (.bool X.da) ∧ w2.cell? ⟨w.heap.size + 1, 1, none⟩ = some (.int .i64 sp) ∧ w2.cell? ⟨w.heap.size + 1, 2, none⟩ = some (.string n) ∧ w2.cell? ⟨w.heap.size + 1, 4, none⟩ = some (.slice (some ⟨b, o, none⟩) al.length ca) ∧ w2.cell? ⟨b, o + j * 2, none⟩ = some (.string an) ∧ w2.cell? ⟨b, o + j * 2 + 1, none⟩ = some (.string av) := ⟨(hB.cell (p := ⟨w.heap.size, 0, none⟩) (by show w.heap.size < wr.heap.size; omega)).trans p0, (hB.cell (p := ⟨w.heap.size, 1, none⟩) (by show w.heap.size < wr.heap.size; omega)).trans p1, (hB.cell (p := ⟨w.heap.size, 2, none⟩) (by show w.heap.size < wr.heap.size; omega)).trans p2, (hB.cell (p := ⟨w.heap.size, 3, none⟩) (by show w.heap.size < wr.heap.size; omega)).trans p3, (hB.cell (p := ⟨w.heap.size, 4, none⟩) (by show w.heap.size < wr.heap.size; omega)).trans p4, (hB.cell (p := ⟨w.heap.size, 5, none⟩) (by show w.heap.size < wr.heap.size; omega)).trans p5, (hB.cell (p := ⟨w.heap.size, 6, none⟩) (by show w.heap.size < wr.heap.size; omega)).trans p6, (hB.cell (p := ⟨w.heap.size, 7, none⟩) (by show w.heap.size < wr.heap.size; omega)).trans p7, (hB.cell (p := ⟨w.heap.size, 8, none⟩) (by show w.heap.size < wr.heap.size; omega)).trans p8, (hB.cell (p := ⟨w.heap.size + 1, 1, none⟩) (by show w.heap.size + 1 < wr.heap.size; omega)).trans n1, (hB.cell (p := ⟨w.heap.size + 1, 2, none⟩) (by show w.heap.size + 1 < wr.heap.size; omega)).trans n2, (hB.cell (p := ⟨w.heap.size + 1, 4, none⟩) (by show w.heap.size + 1 < wr.heap.size; omega)).trans n4, (hB.cell (p := ⟨b, o + j * 2, none⟩) (by show b < wr.heap.size; omega)).trans t1, (hB.cell (p := ⟨b, o + j * 2 + 1, none⟩) (by show b < wr.heap.size; omega)).trans t2⟩; clear hB))
        have hs2 := B2.out.size
        have OL : Hid ((w2.alloc (.cells [Value.string an, Value.string av].toArray 121)).ownsRow (w.heap.size + 1 + 1) 121 2 vv (keepAl X sp n (al.take j)).length (alVals (keepAl X sp n (al.take j)))) := Lib.hid (ownsRow_sameZ (ownsRow_sameZ HO.out fun q hq => B2.out.block q (World.ownsRow.lt HO.out q hq).2) fun q hq => Below.heap_alloc w2 _ q (Nat.lt_of_lt_of_le (World.ownsRow.lt HO.out q hq).2 B2.out.size))
        have CN := Lib.hid (cells_new w2 [.string an, .string av] 121)
        have BL : Hid (Below (w.heap.size + 1 + 1) wr (w2.alloc (.cells [Value.string an, Value.string av].toArray 121))) := Lib.hid ((B2.out.mono hwr).alloc (by omega) _)
        go_wp2_with (at_builtin; refine wpList_push_attr rfl (.tmp 26) (.tmp 32) rfl (w.heap.size + 1 + 1) w2.heap.size _ (keepAl X sp n (al.take j)) rfl OL.out (by simp; omega) (by have := HKL.out; omega) rfl an av CN.out ?_; rintro v' w4 hO4 hB4; have O4 := Lib.hid hO4; have B4 := Lib.hid hB4; clear hO4 hB4)
        go_roundw
        case rel => exact ⟨j + 1, _, rfl, by go_num, by omega, Lib.hid ⟨by rw [HKN.out]; simpa using O4.out, HB.out.trans (BL.out.trans B4.out)⟩⟩
        case measure => (simp [intOf] <;> omega)
    · obtain rfl : j = al.length := by omega
      have HF : Hid (al.take al.length = al) := Lib.hid (List.take_length)
      go_wp2
      go_ret
      exact ⟨_, rfl, by have := HO.out; rw [HF.out] at this; exact ownsRow_lowZ this (by omega), BWR.out⟩
end Go.Proofs.YthdkkpbhijlpaaaGreat
namespace Go.Proofs.YthdkkpbhijlpaaaGreat
open Go.ChangeShapes Go.WideShapes Go.ChangeAt Go.RowKit Go.Deep

/-- a number's text, the number said as the walk has it -/
theorem markText_at (n : Nat) (i : Int) (hi : i = (n : Int)) (h1 : 1 ≤ n) (h2 : n ≤ 1073741824) (w : World) :
    Calls Tryz.prog 44 #[.int .i64 i] w fun e w' => e = .returned (.string (markT n)) ∧ Below w.heap.size w w' := by
  subst hi
  exact markText_any n h1 h2 w
theorem heldAttrS_any (al : List (ByteArray × ByteArray)) (m : Nat) (w : World) (A : Option Addr) (c b o lo hi : Nat) (h1 : 1 ≤ m) (h2 : m + 2 * al.length ≤ 1073741824) (hA : RowAt lo hi A al.length b o) (hh : hi ≤ w.heap.size) (hal : AsAt w b o (markAl al m)) :
    Calls Tryz.prog 48 #[.slice A al.length c, .int .i64 (m : Int)] w fun e w' => e = .returned (.int .i64 ((m + 2 * al.length : Nat) : Int)) ∧ Below w.heap.size w w' := by
  have hlen := hA.1
  unfold maxLen at hlen
  have HA := Lib.hid hA
  have HS := Lib.hid hal
  clear hA hal
  go_enter Tryz.func48, Tryz.ntmps48
  go_wp2
  go_loopw [1, 5] (fun x i wr => ∃ (k mm : Nat) (suf : List (ByteArray × ByteArray)), x = .int .i64 (mm : Int) ∧ i = .int .i64 (k : Int) ∧ k + suf.length = al.length ∧ mm + 2 * suf.length = m + 2 * al.length ∧ 1 ≤ mm ∧ Hid (AsAt w b (o + k * 2) (markAl suf mm) ∧ Below w.heap.size w wr)) (fun x i wr => al.length - (intOf i).toNat)
  case atStart => exact ⟨0, m, al, rfl, rfl, by omega, rfl, h1, Lib.hid ⟨by simpa using HS.out, Below.refl _ _⟩⟩
  case round =>
    obtain ⟨k, mm, suf, rfl, rfl, hk, hmm, hm1, HH⟩ := hrel
    cases suf with
    | nil =>
      have hkl : k = al.length := by simpa using hk
      have hml : mm = m + 2 * al.length := by simpa using hmm
      clear hk hmm
      subst hkl
      subst hml
      go_wp2
      go_ret
      exact ⟨rfl, HH.out.2⟩
    | cons x r =>
      obtain ⟨⟨s1, s2, _, _, s5⟩, hB⟩ := HH.out
      simp only [List.length_cons] at hk hmm
      obtain ⟨rfl, hlo, hhi⟩ := HA.out.2 (by omega)
      have hkl : k < al.length := by omega
      have hb : b < w.heap.size := by omega
      have t1 := (hB.cell (p := ⟨b, o + k * 2, none⟩) hb).trans s1
      have t2 := (hB.cell (p := ⟨b, o + k * 2 + 1, none⟩) hb).trans s2
      have hbr : b < wr.heap.size := Nat.lt_of_lt_of_le hb hB.size
      have H5 := Lib.hid s5
      have HB := Lib.hid hB
      clear HH s1 s2 s5 hB
      go_wp2
      go_region_held3 (fun w' => w'.cell? ⟨b, o + k * 2, none⟩ = some (.string (markT mm)) ∧ w'.cell? ⟨b, o + k * 2 + 1, none⟩ = some (.string (markT (mm + 1)))) (first | exact And.intro u1 u2 | go_keep) (first | (go_at_call 44; refine (markText_any mm hm1 (by omega) _).mono ?_; rintro e w1 ⟨rfl, hB1⟩; have u1 := (hB1.cell (p := ⟨b, o + k * 2, none⟩) hbr).trans t1; have u2 := (hB1.cell (p := ⟨b, o + k * 2 + 1, none⟩) hbr).trans t2; have B1 := Lib.hid (HB.out.drew.trans (hB1.mono HB.out.size)); clear hB1))
      have hb1 : b < w1.heap.size := Nat.lt_of_lt_of_le hb B1.out.size
      go_wp2
      go_region_held3 (fun w' => w'.cell? ⟨b, o + k * 2 + 1, none⟩ = some (.string (markT (mm + 1)))) (first | exact u3 | go_keep) (first | (go_at_call 44; refine (markText_at (mm + 1) _ (by omega) (by omega) (by omega) _).mono ?_; rintro e w2 ⟨rfl, hB2⟩; have u3 := (hB2.cell (p := ⟨b, o + k * 2 + 1, none⟩) hb1).trans u2; have B2 := Lib.hid (B1.out.drew.trans (hB2.mono B1.out.size)); clear hB2))
      go_wp2
      go_roundw
      case rel => exact ⟨k + 1, mm + 2, r, by go_num, by go_num, by omega, by omega, by omega, Lib.hid ⟨by rw [show o + (k + 1) * 2 = o + k * 2 + 2 by omega]; exact H5.out, B2.out⟩⟩
      case measure => simp [intOf]; omega
end Go.Proofs.YthdkkpbhijlpaaaGreat
