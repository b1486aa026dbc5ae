import Derived.Deep.RegionHeld3
import Derived.Test.YthdkkpbhijlpaaaGreatQ16
import Derived.Test.YthdkkpbhijlpaaaGreatQ17
import Derived.Test.YthdkkpbhijlpaaaGreatQ18
import Derived.Test.YthdkkpbhijlpaaaGreatQ20
import Derived.Test.YthdkkpbhijlpaaaGreatQ28
import Derived.Test.YthdkkpbhijlpaaaGreatQ19
import Derived.Test.YthdkkpbhijlpaaaGreatQ04
set_option linter.unusedVariables false
namespace Go.Proofs.YthdkkpbhijlpaaaGreat
open Go.ChangeShapes Go.WideShapes Go.ChangeAt Go.RowKit Go.Deep

/-- the attributes that stay -/
def keepAl (X : Cf) (sp : Int) (n : ByteArray) (al : List (ByteArray × ByteArray)) : List (ByteArray × ByteArray) := al.filter fun a => attA X sp n a.1 a.2
/-- a raw element whose words have markup -/
def rawW (sp : Int) (n : ByteArray) (kids : Fo) : Bool := (sp == 0 && inL rawL n) && hasC ⟨kids.words.toArray⟩ 60
def Fo.san (X : Cf) : Fo → Fo
  | .nil => .nil
  | .cons k sp n t al kids rest =>
    (if k = 2 then .one 2 0 ⟨#[]⟩ t [] .nil
     else if k = 3 then (if (X.cm && commentIn t) = true then .one 3 0 ⟨#[]⟩ t [] .nil else .nil)
     else if unwB X sp n = true then kids.san X
     else if (allB X sp n && !rawW sp n kids) = true then .one k sp n ⟨#[]⟩ (keepAl X sp n al) (kids.san X)
     else .nil).app (rest.san X)
theorem Fo.san_app (X : Cf) : ∀ P S : Fo, (P.app S).san X = (P.san X).app (S.san X)
  | .nil, S => rfl
  | .cons k sp n t al kids r, S => by
    simp only [Fo.app, Fo.san, Fo.san_app X r S, Fo.app_assoc]
theorem Fo.san_one (X : Cf) (k sp : Int) (n t : ByteArray) (al : List (ByteArray × ByteArray)) (kids : Fo) :
    (Fo.one k sp n t al kids).san X = (if k = 2 then .one 2 0 ⟨#[]⟩ t [] .nil
     else if k = 3 then (if (X.cm && commentIn t) = true then .one 3 0 ⟨#[]⟩ t [] .nil else .nil)
     else if unwB X sp n = true then kids.san X
     else if (allB X sp n && !rawW sp n kids) = true then .one k sp n ⟨#[]⟩ (keepAl X sp n al) (kids.san X)
     else .nil) := by
  simp only [Fo.one, Fo.san, Fo.app_nil]
/-- it has no more nodes -/
theorem Fo.san_nodes (X : Cf) : ∀ F : Fo, (F.san X).nodes ≤ F.nodes
  | .nil => Nat.le_refl _
  | .cons k sp n t al kids r => by
    have h1 := Fo.san_nodes X kids
    have h2 := Fo.san_nodes X r
    have hn : ∀ P S : Fo, (P.app S).nodes = P.nodes + S.nodes := by
      intro P
      induction P with
      | nil => intro S; simp [Fo.app, Fo.nodes]
      | cons _ _ _ _ _ _ _ _ ih => intro S; simp only [Fo.app, Fo.nodes, ih S]; omega
    simp only [Fo.san, hn, Fo.nodes]
    split
    · simp only [Fo.one, Fo.nodes]; omega
    · split
      · split
        · simp only [Fo.one, Fo.nodes]; omega
        · simp only [Fo.nodes]; omega
      · split
        · omega
        · split
          · simp only [Fo.one, Fo.nodes]; omega
          · simp only [Fo.nodes]; omega
set_option maxHeartbeats 1000000 in
theorem l08Raw_any (k sp : Int) (n t : ByteArray) (la ca ck b o lo hi : Nat) (A K : Option Addr) (kids : Fo) (w : World) (hd : kids.nodes ≤ 60) (hs : kids.words.length ≤ 65536) (hz : kids.size ≤ 1048576 * 64) (hh : hi ≤ w.heap.size) (hK : RowAt lo hi K kids.len b o) (hF : FoAt w lo hi b o kids) :
    Calls Tryz.prog 95 #[.agg #[.int .i64 k, .int .i64 sp, .string n, .string t, .slice A la ca, .slice K kids.len ck]] w fun e w' => e = .returned (.bool (rawW sp n kids)) ∧ Below w.heap.size w w' := by
  have HT := Lib.hid (fun W (h1 : hi ≤ W.heap.size) (h2 : FoAt W lo hi b o kids) => l03Text_any kids W K ck b o lo hi (by omega) hz h1 hK h2)
  have HX : Hid ((⟨kids.words.toArray⟩ : ByteArray).size ≤ 65536) := Lib.hid (by show kids.words.toArray.size ≤ 65536; simpa using hs)
  have HF := Lib.hid hF
  have HK := Lib.hid hK
  have B1 := Lib.hid ((Below.refl w.heap.size w).alloc (Nat.le_refl _) (.cells #[.int .i64 k, .int .i64 sp, .string n, .string t, .slice A la ca, .slice K kids.len ck] 71))
  have L1 := Lib.hid (Lay.new w #[.int .i64 k, .int .i64 sp, .string n, .string t, .slice A la ca, .slice K kids.len ck] 71)
  clear hF hK hs hz hd
  by_cases h0 : sp = 0
  · subst h0
    cases hr : inL rawL n with
    | true =>
      have HR := Lib.hid hr
      have HE : Hid (rawW 0 n kids = hasC ⟨kids.words.toArray⟩ 60) := Lib.hid (by unfold rawW; rw [hr]; rfl)
      clear hr
      generalize (⟨kids.words.toArray⟩ : ByteArray) = T at HT HX HE
      go_enter Tryz.func95, Tryz.ntmps95
      go_wp2_with (first
        | (go_at_call 155; refine (l01Raw_any n _).mono ?_; rintro e w1 ⟨rfl, hB⟩; rw [HR.out]; have c5 : w1.cell? ⟨w.heap.size, 5, none⟩ = some (.slice K kids.len ck) := (hB.cell (p := ⟨w.heap.size, 5, none⟩) (by simp)).trans (L1.out.1 5); have B2 := Lib.hid (B1.out.trans (hB.mono B1.out.size)); clear hB)
        | (go_at_call 157; refine (HT.out _ (Nat.le_trans hh B2.out.size) (FoAt.below HK.out HF.out B2.out hh)).mono ?_; rintro e w2 ⟨rfl, hB⟩; have B3 := Lib.hid (B2.out.trans (hB.mono B2.out.size)); clear hB)
        | (go_at_call 156; refine (l02Has_any T 60 _ HX.out).mono ?_; rintro e w3 ⟨rfl, rfl⟩))
      go_ret
      exact ⟨by rw [HE.out]; rfl, B3.out⟩
    | false =>
      have HR := Lib.hid hr
      have HE : Hid (rawW 0 n kids = false) := Lib.hid (by unfold rawW; rw [hr]; rfl)
      clear hr
      go_enter Tryz.func95, Tryz.ntmps95
      go_wp2_with (go_at_call 155; refine (l01Raw_any n _).mono ?_; rintro e w1 ⟨rfl, hB⟩; rw [HR.out]; have B2 := Lib.hid (B1.out.trans (hB.mono B1.out.size)); clear hB)
      go_ret
      exact ⟨by rw [HE.out]; rfl, B2.out⟩
  · have g0 : (sp == 0) = false := by simpa using h0
    have HE : Hid (rawW sp n kids = false) := Lib.hid (by unfold rawW; rw [g0]; rfl)
    clear h0
    go_enter Tryz.func95, Tryz.ntmps95
    go_wp2
    go_ret
    exact ⟨by rw [HE.out]; rfl, B1.out⟩
end Go.Proofs.YthdkkpbhijlpaaaGreat
namespace Go.Proofs.YthdkkpbhijlpaaaGreat
open Go.ChangeShapes Go.WideShapes Go.ChangeAt Go.RowKit Go.Deep

theorem ownsRow_sameZ {w w' : World} {base : Nat} {e : TypeId} {s : Nat} {v : Value} {n : Nat} {xs : List Value} (h : w.ownsRow base e s v n xs) (hb : ∀ k, v.ownBlock = some k → w'.heap[k]? = w.heap[k]?) : w'.ownsRow base e s v n xs := by
  obtain ⟨h1, h2⟩ := h
  refine ⟨h1, ?_⟩
  rcases h2 with h2 | ⟨g, cap, cur, e1, e2, e3, e4⟩
  · exact Or.inl h2
  · subst e1; exact Or.inr ⟨g, cap, cur, rfl, e2, (hb g rfl).trans e3, e4⟩
theorem ownsRow_lowZ {w : World} {base base' : Nat} {e : TypeId} {s : Nat} {v : Value} {n : Nat} {xs : List Value} (h : w.ownsRow base e s v n xs) (hb : base' ≤ base) : w.ownsRow base' e s v n xs := by
  obtain ⟨h1, h2⟩ := h
  refine ⟨h1, ?_⟩
  rcases h2 with h2 | ⟨g, cap, cur, e1, e2, e3⟩
  · exact Or.inl h2
  · exact Or.inr ⟨g, cap, cur, e1, Nat.le_trans hb e2, e3⟩
theorem lay_sameZ {w w' : World} {g : Nat} {cs : Array Value} (h : Lay w g cs) (hb : w'.heap[g]? = w.heap[g]?) : Lay w' g cs :=
  ⟨fun j => (World.cell?_of_block (w := w) (a := ⟨g, j, none⟩) hb).trans (h.1 j), fun j => (World.frozen?_of_block (w := w) (a := ⟨g, j, none⟩) hb).trans (h.2 j)⟩
theorem lay6z {w : World} {g : Nat} {v0 v1 v2 v3 v4 v5 : Value} (h : Lay w g #[v0, v1, v2, v3, v4, v5]) : w.cell? ⟨g, 0, none⟩ = some v0 ∧ w.cell? ⟨g, 1, none⟩ = some v1 ∧ w.cell? ⟨g, 2, none⟩ = some v2 ∧ w.cell? ⟨g, 3, none⟩ = some v3 ∧ w.cell? ⟨g, 4, none⟩ = some v4 ∧ w.cell? ⟨g, 5, none⟩ = some v5 :=
  ⟨h.1 0, h.1 1, h.1 2, h.1 3, h.1 4, h.1 5⟩
theorem alVals_snoc (l : List (ByteArray × ByteArray)) (a : ByteArray × ByteArray) : alVals (l ++ [a]) = alVals l ++ [.string a.1, .string a.2] := by
  induction l with
  | nil => rfl
  | cons x r ih => simp only [List.cons_append, alVals, ih]
/-- an attribute put behind a row of one's own -/
theorem wpList_push_attr {ops : Array Oper} {rest : List Oper} {o : Oper} {a : Act} {Q : Exit → Act → World → Prop} {w : World} (hgd : o.guard = none) (s x : Operand)
    (ho : o.op = .call { callee := .builtin .append, args := #[s, x], argTypes := #[69, 69] })
    (base g0 : Nat) (v : Value) (L : List (ByteArray × ByteArray)) (hv : a.eval s = v) (hO : w.ownsRow base 121 2 v L.length (alVals L)) (hbase : base ≤ w.heap.size) (hl : L.length ≤ 1048576) (hx : a.eval x = .slice (some ⟨g0, 0, none⟩) 1 1)
    (an av : ByteArray) (hc : ∀ j u, ([.string an, .string av] : List Value)[j]? = some u → w.cell? ((⟨g0, 0, none⟩ : Addr).add j) = some u)
    (h : ∀ v' w', w'.ownsRow base 121 2 v' (L ++ [(an, av)]).length (alVals (L ++ [(an, av)])) → Below base w w' → wpList Tryz.prog ops Q rest (a.put o.dst v') w') : wpList Tryz.prog ops Q (o :: rest) a w := by
  obtain ⟨i0, hi0, hz0, hz1, hz2⟩ := info_of infoAttr
  refine wpList_append_own_at w hgd s x 69 ho base 121 i0 _ 2 32 Tryz.underlying69 hi0 hz0 hz1 hz2 rfl (by omega) v L.length (alVals L) hv hO ⟨g0, 0, none⟩ 1 1 _ hx rfl hc (by intro u hu; simp only [List.mem_cons, List.not_mem_nil, or_false] at hu; rcases hu with rfl | rfl <;> rfl) (by unfold maxLen; omega) (by omega) hbase ?_
  intro v' w' hown hgrow _ _
  refine h v' w' ?_ ((Below.refl base w).grown hgrow hbase fun q hq => (World.ownsRow.lt hO q hq).1)
  rw [alVals_snoc, List.length_append]
  exact hown
theorem keepAl_next {X : Cf} {sp : Int} {n : ByteArray} {al : List (ByteArray × ByteArray)} {j : Nat} (hj : j < al.length) : keepAl X sp n (al.take (j + 1)) = keepAl X sp n (al.take j) ++ (if attA X sp n al[j].1 al[j].2 = true then [(al[j].1, al[j].2)] else []) := by
  unfold keepAl
  rw [List.take_succ_eq_append_getElem hj, List.filter_append]
  congr 1
  by_cases h : attA X sp n al[j].1 al[j].2 = true
  · rw [if_pos h]; simp [h]
  · rw [if_neg h]; simp [h]
theorem keepAl_len {X : Cf} {sp : Int} {n : ByteArray} {al : List (ByteArray × ByteArray)} {j : Nat} (h : al.length ≤ 6) : (keepAl X sp n (al.take j)).length ≤ 6 := by
  have h1 := List.length_filter_le (fun a : ByteArray × ByteArray => attA X sp n a.1 a.2) (al.take j)
  have h2 : (al.take j).length ≤ al.length := by rw [List.length_take]; omega
  unfold keepAl
  omega
set_option maxHeartbeats 4000000 in
set_option maxRecDepth 100000 in
theorem l08Attrs_any (X : Cf) (V : CfV) (k sp : Int) (n t : ByteArray) (al : List (ByteArray × ByteArray)) (ca lk ck b o lo hi : Nat) (A K : Option Addr) (w : World) (h : CfIn w X V) (hA : RowAt lo hi A al.length b o) (hal : AsAt w b o al) (hh : hi ≤ w.heap.size) (h6 : al.length ≤ 6) (hsm : ∀ x ∈ al, x.1.size ≤ 65536 ∧ x.2.size ≤ 65536) :
    Calls Tryz.prog 120 #[.agg #[.bool X.ha, .bool X.hb, .slice V.a1 X.al.length V.c1, .slice V.a2 X.rm.length V.c2, .slice V.a3 X.uw.length V.c3, .slice V.a4 X.at_.length V.c4, .slice V.a5 X.dp.length V.c5, .bool X.cm, .bool X.da], .agg #[.int .i64 k, .int .i64 sp, .string n, .string t, .slice A al.length ca, .slice K lk ck]] w fun e w' => ∃ v, e = .returned v ∧ w'.ownsRow w.heap.size 121 2 v (keepAl X sp n al).length (alVals (keepAl X sp n al)) ∧ Below w.heap.size w w' := by
  have HC := Lib.hid h
  have HA := Lib.hid hA
  have HS := Lib.hid hal.get
  have HSM := Lib.hid hsm
  have BW : Hid (Below w.heap.size w ((w.alloc (.cells #[.bool X.ha, .bool X.hb, .slice V.a1 X.al.length V.c1, .slice V.a2 X.rm.length V.c2, .slice V.a3 X.uw.length V.c3, .slice V.a4 X.at_.length V.c4, .slice V.a5 X.dp.length V.c5, .bool X.cm, .bool X.da] 35)).alloc (.cells #[.int .i64 k, .int .i64 sp, .string n, .string t, .slice A al.length ca, .slice K lk ck] 71))) := Lib.hid (((Below.refl w.heap.size w).alloc (Nat.le_refl _) _).alloc (by simp) _)
  have LC : Hid (Lay ((w.alloc (.cells #[.bool X.ha, .bool X.hb, .slice V.a1 X.al.length V.c1, .slice V.a2 X.rm.length V.c2, .slice V.a3 X.uw.length V.c3, .slice V.a4 X.at_.length V.c4, .slice V.a5 X.dp.length V.c5, .bool X.cm, .bool X.da] 35)).alloc (.cells #[.int .i64 k, .int .i64 sp, .string n, .string t, .slice A al.length ca, .slice K lk ck] 71)) w.heap.size #[.bool X.ha, .bool X.hb, .slice V.a1 X.al.length V.c1, .slice V.a2 X.rm.length V.c2, .slice V.a3 X.uw.length V.c3, .slice V.a4 X.at_.length V.c4, .slice V.a5 X.dp.length V.c5, .bool X.cm, .bool X.da]) := Lib.hid ((Lay.new w #[.bool X.ha, .bool X.hb, .slice V.a1 X.al.length V.c1, .slice V.a2 X.rm.length V.c2, .slice V.a3 X.uw.length V.c3, .slice V.a4 X.at_.length V.c4, .slice V.a5 X.dp.length V.c5, .bool X.cm, .bool X.da] 35).below ((Below.refl _ _).alloc (Nat.le_refl _) _) (by simp))
  have LN : Hid (Lay ((w.alloc (.cells #[.bool X.ha, .bool X.hb, .slice V.a1 X.al.length V.c1, .slice V.a2 X.rm.length V.c2, .slice V.a3 X.uw.length V.c3, .slice V.a4 X.at_.length V.c4, .slice V.a5 X.dp.length V.c5, .bool X.cm, .bool X.da] 35)).alloc (.cells #[.int .i64 k, .int .i64 sp, .string n, .string t, .slice A al.length ca, .slice K lk ck] 71)) (w.heap.size + 1) #[.int .i64 k, .int .i64 sp, .string n, .string t, .slice A al.length ca, .slice K lk ck]) := Lib.hid (by have := Lay.new (w.alloc (.cells #[.bool X.ha, .bool X.hb, .slice V.a1 X.al.length V.c1, .slice V.a2 X.rm.length V.c2, .slice V.a3 X.uw.length V.c3, .slice V.a4 X.at_.length V.c4, .slice V.a5 X.dp.length V.c5, .bool X.cm, .bool X.da] 35)) #[.int .i64 k, .int .i64 sp, .string n, .string t, .slice A al.length ca, .slice K lk ck] 71; rwa [show (w.alloc (.cells #[.bool X.ha, .bool X.hb, .slice V.a1 X.al.length V.c1, .slice V.a2 X.rm.length V.c2, .slice V.a3 X.uw.length V.c3, .slice V.a4 X.at_.length V.c4, .slice V.a5 X.dp.length V.c5, .bool X.cm, .bool X.da] 35)).heap.size = w.heap.size + 1 by simp] at this)
  have hWs : ((w.alloc (.cells #[.bool X.ha, .bool X.hb, .slice V.a1 X.al.length V.c1, .slice V.a2 X.rm.length V.c2, .slice V.a3 X.uw.length V.c3, .slice V.a4 X.at_.length V.c4, .slice V.a5 X.dp.length V.c5, .bool X.cm, .bool X.da] 35)).alloc (.cells #[.int .i64 k, .int .i64 sp, .string n, .string t, .slice A al.length ca, .slice K lk ck] 71)).heap.size = w.heap.size + 1 + 1 := by simp
  have O0 : Hid ((((w.alloc (.cells #[.bool X.ha, .bool X.hb, .slice V.a1 X.al.length V.c1, .slice V.a2 X.rm.length V.c2, .slice V.a3 X.uw.length V.c3, .slice V.a4 X.at_.length V.c4, .slice V.a5 X.dp.length V.c5, .bool X.cm, .bool X.da] 35)).alloc (.cells #[.int .i64 k, .int .i64 sp, .string n, .string t, .slice A al.length ca, .slice K lk ck] 71)).alloc (.cells #[] 121)).ownsRow (w.heap.size + 1 + 1) 121 2 (.slice (some ⟨w.heap.size + 1 + 1, 0, none⟩) 0 0) 0 []) := Lib.hid (by have := World.ownsRow_lit (e := 121) (size := 2) (base := w.heap.size + 1 + 1) ((w.alloc (.cells #[.bool X.ha, .bool X.hb, .slice V.a1 X.al.length V.c1, .slice V.a2 X.rm.length V.c2, .slice V.a3 X.uw.length V.c3, .slice V.a4 X.at_.length V.c4, .slice V.a5 X.dp.length V.c5, .bool X.cm, .bool X.da] 35)).alloc (.cells #[.int .i64 k, .int .i64 sp, .string n, .string t, .slice A al.length ca, .slice K lk ck] 71)) #[] 0 (by simp) (Nat.zero_le _) rfl; rwa [hWs] at this)
  have B0 : Hid (Below (w.heap.size + 1 + 1) ((w.alloc (.cells #[.bool X.ha, .bool X.hb, .slice V.a1 X.al.length V.c1, .slice V.a2 X.rm.length V.c2, .slice V.a3 X.uw.length V.c3, .slice V.a4 X.at_.length V.c4, .slice V.a5 X.dp.length V.c5, .bool X.cm, .bool X.da] 35)).alloc (.cells #[.int .i64 k, .int .i64 sp, .string n, .string t, .slice A al.length ca, .slice K lk ck] 71)) (((w.alloc (.cells #[.bool X.ha, .bool X.hb, .slice V.a1 X.al.length V.c1, .slice V.a2 X.rm.length V.c2, .slice V.a3 X.uw.length V.c3, .slice V.a4 X.at_.length V.c4, .slice V.a5 X.dp.length V.c5, .bool X.cm, .bool X.da] 35)).alloc (.cells #[.int .i64 k, .int .i64 sp, .string n, .string t, .slice A al.length ca, .slice K lk ck] 71)).alloc (.cells #[] 121))) := Lib.hid ((Below.refl _ _).alloc (by simp) _)
  have HWS := Lib.hid hWs
  clear h hA hal hsm hWs
  go_enter Tryz.func120, Tryz.ntmps120
  go_wp2
  go_loopw [5, 6] (fun v i wr => ∃ (j : Nat) (vv : Value), vv = v ∧ i = .int .i64 (j : Int) ∧ j ≤ al.length ∧ Hid (wr.ownsRow (w.heap.size + 1 + 1) 121 2 v (keepAl X sp n (al.take j)).length (alVals (keepAl X sp n (al.take j))) ∧ Below (w.heap.size + 1 + 1) ((w.alloc (.cells #[.bool X.ha, .bool X.hb, .slice V.a1 X.al.length V.c1, .slice V.a2 X.rm.length V.c2, .slice V.a3 X.uw.length V.c3, .slice V.a4 X.at_.length V.c4, .slice V.a5 X.dp.length V.c5, .bool X.cm, .bool X.da] 35)).alloc (.cells #[.int .i64 k, .int .i64 sp, .string n, .string t, .slice A al.length ca, .slice K lk ck] 71)) wr)) (fun _ i _ => al.length - (intOf i).toNat)
  case atStart => exact ⟨0, _, rfl, rfl, Nat.zero_le _, Lib.hid ⟨O0.out, B0.out⟩⟩
  case round =>
    clear O0 B0
    obtain ⟨j, vv, hvv, rfl, hj, HH⟩ := hrel
    subst hvv
    have HB := Lib.hid HH.out.2
    have HO := Lib.hid HH.out.1
    clear HH
    have hk2 : ∀ q, q < w.heap.size + 1 + 1 → wr.heap[q]? = ((w.alloc (.cells #[.bool X.ha, .bool X.hb, .slice V.a1 X.al.length V.c1, .slice V.a2 X.rm.length V.c2, .slice V.a3 X.uw.length V.c3, .slice V.a4 X.at_.length V.c4, .slice V.a5 X.dp.length V.c5, .bool X.cm, .bool X.da] 35)).alloc (.cells #[.int .i64 k, .int .i64 sp, .string n, .string t, .slice A al.length ca, .slice K lk ck] 71)).heap[q]? := fun q hq => HB.out.block q hq
    obtain ⟨p0, p1, p2, p3, p4, p5, p6, p7, p8⟩ := lay9 (lay_sameZ LC.out (hk2 _ (by omega)))
    obtain ⟨n0, n1, n2, n3, n4, n5⟩ := lay6z (lay_sameZ LN.out (hk2 _ (by omega)))
    have BWR := Lib.hid (BW.out.trans (HB.out.mono (by omega)))
    have hwr : w.heap.size + 1 + 1 ≤ wr.heap.size := by have := HB.out.size; have := HWS.out; omega
    clear hk2
    by_cases hlt : j < al.length
    · obtain ⟨rfl, hlo, hhi⟩ := HA.out.2 (by omega)
      obtain ⟨s1, s2, s3, s4⟩ := HS.out j hlt
      have t1 := (BWR.out.cell (p := ⟨b, o + j * 2, none⟩) (by show b < _; omega)).trans s1
      have t2 := (BWR.out.cell (p := ⟨b, o + j * 2 + 1, none⟩) (by show b < _; omega)).trans s2
      have HZ := Lib.hid (HSM.out al[j] (List.getElem_mem hlt))
      have HKN := Lib.hid (keepAl_next (X := X) (sp := sp) (n := n) hlt)
      have HKL := Lib.hid (keepAl_len (X := X) (sp := sp) (n := n) (j := j) h6)
      have HAT := Lib.hid (fun W (hW : Below wr.heap.size wr W) => (l07Attr_any X V sp n al[j].1 al[j].2 W HZ.out.1 HZ.out.2 (HC.out.next (BWR.out.trans (hW.mono BWR.out.size)))).mono fun e w' (h : _ ∧ _) => (⟨h.1, hW.trans (h.2.mono hW.size)⟩ : _ ∧ Below wr.heap.size wr w'))
      clear s1 s2 s3 s4
      generalize al[j] = a at t1 t2 HZ HKN HAT
      obtain ⟨an, av⟩ := a
      simp only at t1 t2 HKN HAT
      cases hq : attA X sp n an av with
      | false =>
        have HQ := Lib.hid hq
        rw [hq] at HKN
        clear hq
        go_wp2_with fail
        go_region_held3 (fun w' => w'.cell? ⟨w.heap.size, 0, none⟩ = some (.bool X.ha) ∧ w'.cell? ⟨w.heap.size, 1, none⟩ = some (.bool X.hb) ∧ w'.cell? ⟨w.heap.size, 2, none⟩ = some (.slice V.a1 X.al.length V.c1) ∧ w'.cell? ⟨w.heap.size, 3, none⟩ = some (.slice V.a2 X.rm.length V.c2) ∧ w'.cell? ⟨w.heap.size, 4, none⟩ = some (.slice V.a3 X.uw.length V.c3) ∧ w'.cell? ⟨w.heap.size, 5, none⟩ = some (.slice V.a4 X.at_.length V.c4) ∧ w'.cell? ⟨w.heap.size, 6, none⟩ = some (.slice V.a5 X.dp.length V.c5) ∧ w'.cell? ⟨w.heap.size, 7, none⟩ = some (.bool X.cm) ∧ w'.cell? ⟨w.heap.size, 8, none⟩ = some (.bool X.da) ∧ w'.cell? ⟨w.heap.size + 1, 1, none⟩ = some (.int .i64 sp) ∧ w'.cell? ⟨w.heap.size + 1, 2, none⟩ = some (.string n) ∧ w'.cell? ⟨w.heap.size + 1, 4, none⟩ = some (.slice (some ⟨b, o, none⟩) al.length ca) ∧ w'.cell? ⟨b, o + j * 2, none⟩ = some (.string an) ∧ w'.cell? ⟨b, o + j * 2 + 1, none⟩ = some (.string av)) (first | exact ⟨p0, p1, p2, p3, p4, p5, p6, p7, p8, n1, n2, n4, t1, t2⟩ | exact Y2 | go_keep) (first | (go_at_call 170; refine (HAT.out _ (by first | exact Below.refl _ _ | exact (Below.refl _ _).drew)).mono ?_; rintro e w2 ⟨rfl, hB⟩; rw [HQ.out]; have B2 := Lib.hid hB; have Y2 : w2.cell? ⟨w.heap.size, 0, none⟩ = some (.bool X.ha) ∧ w2.cell? ⟨w.heap.size, 1, none⟩ = some (.bool X.hb) ∧ w2.cell? ⟨w.heap.size, 2, none⟩ = some (.slice V.a1 X.al.length V.c1) ∧ w2.cell? ⟨w.heap.size, 3, none⟩ = some (.slice V.a2 X.rm.length V.c2) ∧ w2.cell? ⟨w.heap.size, 4, none⟩ = some (.slice V.a3 X.uw.length V.c3) ∧ w2.cell? ⟨w.heap.size, 5, none⟩ = some (.slice V.a4 X.at_.length V.c4) ∧ w2.cell? ⟨w.heap.size, 6, none⟩ = some (.slice V.a5 X.dp.length V.c5) ∧ w2.cell? ⟨w.heap.size, 7, none⟩ = some (.bool X.cm) ∧ w2.cell? ⟨w.heap.size, 8, none⟩ = some (.bool X.da) ∧ w2.cell? ⟨w.heap.size + 1, 1, none⟩ = some (.int .i64 sp) ∧ w2.cell? ⟨w.heap.size + 1, 2, none⟩ = some (.string n) ∧ w2.cell? ⟨w.heap.size + 1, 4, none⟩ = some (.slice (some ⟨b, o, none⟩) al.length ca) ∧ w2.cell? ⟨b, o + j * 2, none⟩ = some (.string an) ∧ w2.cell? ⟨b, o + j * 2 + 1, none⟩ = some (.string av) := ⟨(hB.cell (p := ⟨w.heap.size, 0, none⟩) (by show w.heap.size < wr.heap.size; omega)).trans p0, (hB.cell (p := ⟨w.heap.size, 1, none⟩) (by show w.heap.size < wr.heap.size; omega)).trans p1, (hB.cell (p := ⟨w.heap.size, 2, none⟩) (by show w.heap.size < wr.heap.size; omega)).trans p2, (hB.cell (p := ⟨w.heap.size, 3, none⟩) (by show w.heap.size < wr.heap.size; omega)).trans p3, (hB.cell (p := ⟨w.heap.size, 4, none⟩) (by show w.heap.size < wr.heap.size; omega)).trans p4, (hB.cell (p := ⟨w.heap.size, 5, none⟩) (by show w.heap.size < wr.heap.size; omega)).trans p5, (hB.cell (p := ⟨w.heap.size, 6, none⟩) (by show w.heap.size < wr.heap.size; omega)).trans p6, (hB.cell (p := ⟨w.heap.size, 7, none⟩) (by show w.heap.size < wr.heap.size; omega)).trans p7, (hB.cell (p := ⟨w.heap.size, 8, none⟩) (by show w.heap.size < wr.heap.size; omega)).trans p8, (hB.cell (p := ⟨w.heap.size + 1, 1, none⟩) (by show w.heap.size + 1 < wr.heap.size; omega)).trans n1, (hB.cell (p := ⟨w.heap.size + 1, 2, none⟩) (by show w.heap.size + 1 < wr.heap.size; omega)).trans n2, (hB.cell (p := ⟨w.heap.size + 1, 4, none⟩) (by show w.heap.size + 1 < wr.heap.size; omega)).trans n4, (hB.cell (p := ⟨b, o + j * 2, none⟩) (by show b < wr.heap.size; omega)).trans t1, (hB.cell (p := ⟨b, o + j * 2 + 1, none⟩) (by show b < wr.heap.size; omega)).trans t2⟩; clear hB))
        go_wp2_with fail
        go_roundw
        case rel => exact ⟨j + 1, _, rfl, by go_num, by omega, Lib.hid ⟨by rw [HKN.out]; simpa using (ownsRow_sameZ HO.out fun q hq => B2.out.block q (World.ownsRow.lt HO.out q hq).2), HB.out.trans (B2.out.mono (by have := HB.out.size; have := HWS.out; omega))⟩⟩
        case measure => (simp [intOf] <;> omega)
      | true =>
        have HQ := Lib.hid hq
        rw [hq] at HKN
        clear hq
        go_wp2_with fail
        go_region_held3 (fun w' => w'.cell? ⟨w.heap.size, 0, none⟩ = some (.bool X.ha) ∧ w'.cell? ⟨w.heap.size, 1, none⟩ = some (.bool X.hb) ∧ w'.cell? ⟨w.heap.size, 2, none⟩ = some (.slice V.a1 X.al.length V.c1) ∧ w'.cell? ⟨w.heap.size, 3, none⟩ = some (.slice V.a2 X.rm.length V.c2) ∧ w'.cell? ⟨w.heap.size, 4, none⟩ = some (.slice V.a3 X.uw.length V.c3) ∧ w'.cell? ⟨w.heap.size, 5, none⟩ = some (.slice V.a4 X.at_.length V.c4) ∧ w'.cell? ⟨w.heap.size, 6, none⟩ = some (.slice V.a5 X.dp.length V.c5) ∧ w'.cell? ⟨w.heap.size, 7, none⟩ = some (.bool X.cm) ∧ w'.cell? ⟨w.heap.size, 8, none⟩ = some (.bool X.da) ∧ w'.cell? ⟨w.heap.size + 1, 1, none⟩ = some (.int .i64 sp) ∧ w'.cell? ⟨w.heap.size + 1, 2, none⟩ = some (.string n) ∧ w'.cell? ⟨w.heap.size + 1, 4, none⟩ = some (.slice (some ⟨b, o, none⟩) al.length ca) ∧ w'.cell? ⟨b, o + j * 2, none⟩ = some (.string an) ∧ w'.cell? ⟨b, o + j * 2 + 1, none⟩ = some (.string av)) (first | exact ⟨p0, p1, p2, p3, p4, p5, p6, p7, p8, n1, n2, n4, t1, t2⟩ | exact Y2 | go_keep) (first | (go_at_call 170; refine (HAT.out _ (by first | exact Below.refl _ _ | exact (Below.refl _ _).drew)).mono ?_; rintro e w2 ⟨rfl, hB⟩; rw [HQ.out]; have B2 := Lib.hid hB; have Y2 : w2.cell? ⟨w.heap.size, 0, none⟩ = some (.bool X.ha) ∧ w2.cell? ⟨w.heap.size, 1, none⟩ = some (.bool X.hb) ∧ w2.cell? ⟨w.heap.size, 2, none⟩ = some (.slice V.a1 X.al.length V.c1) ∧ w2.cell? ⟨w.heap.size, 3, none⟩ = some (.slice V.a2 X.rm.length V.c2) ∧ w2.cell? ⟨w.heap.size, 4, none⟩ = some (.slice V.a3 X.uw.length V.c3) ∧ w2.cell? ⟨w.heap.size, 5, none⟩ = some (.slice V.a4 X.at_.length V.c4) ∧ w2.cell? ⟨w.heap.size, 6, none⟩ = some (.slice V.a5 X.dp.length V.c5) ∧ w2.cell? ⟨w.heap.size, 7, none⟩ = some (.bool X.cm) ∧ w2.cell? ⟨w.heap.size, 8, none⟩ = some (.bool X.da) ∧ w2.cell? ⟨w.heap.size + 1, 1, none⟩ = some (.int .i64 sp) ∧ w2.cell? ⟨w.heap.size + 1, 2, none⟩ = some (.string n) ∧ w2.cell? ⟨w.heap.size + 1, 4, none⟩ = some (.slice (some ⟨b, o, none⟩) al.length ca) ∧ w2.cell? ⟨b, o + j * 2, none⟩ = some (.string an) ∧ w2.cell? ⟨b, o + j * 2 + 1, none⟩ = some (.string av) := ⟨(hB.cell (p := ⟨w.heap.size, 0, none⟩) (by show w.heap.size < wr.heap.size; omega)).trans p0, (hB.cell (p := ⟨w.heap.size, 1, none⟩) (by show w.heap.size < wr.heap.size; omega)).trans p1, (hB.cell (p := ⟨w.heap.size, 2, none⟩) (by show w.heap.size < wr.heap.size; omega)).trans p2, (hB.cell (p := ⟨w.heap.size, 3, none⟩) (by show w.heap.size < wr.heap.size; omega)).trans p3, (hB.cell (p := ⟨w.heap.size, 4, none⟩) (by show w.heap.size < wr.heap.size; omega)).trans p4, (hB.cell (p := ⟨w.heap.size, 5, none⟩) (by show w.heap.size < wr.heap.size; omega)).trans p5, (hB.cell (p := ⟨w.heap.size, 6, none⟩) (by show w.heap.size < wr.heap.size; omega)).trans p6, (hB.cell (p := ⟨w.heap.size, 7, none⟩) (by show w.heap.size < wr.heap.size; omega)).trans p7, (hB.cell (p := ⟨w.heap.size, 8, none⟩) (by show w.heap.size < wr.heap.size; omega)).trans p8, (hB.cell (p := ⟨w.heap.size + 1, 1, none⟩) (by show w.heap.size + 1 < wr.heap.size; omega)).trans n1, (hB.cell (p := ⟨w.heap.size + 1, 2, none⟩) (by show w.heap.size + 1 < wr.heap.size; omega)).trans n2, (hB.cell (p := ⟨w.heap.size + 1, 4, none⟩) (by show w.heap.size + 1 < wr.heap.size; omega)).trans n4, (hB.cell (p := ⟨b, o + j * 2, none⟩) (by show b < wr.heap.size; omega)).trans t1, (hB.cell (p := ⟨b, o + j * 2 + 1, none⟩) (by show b < wr.heap.size; omega)).trans t2⟩; clear hB))
        have hs2 := B2.out.size
        have OL : Hid ((w2.alloc (.cells [Value.string an, Value.string av].toArray 121)).ownsRow (w.heap.size + 1 + 1) 121 2 vv (keepAl X sp n (al.take j)).length (alVals (keepAl X sp n (al.take j)))) := Lib.hid (ownsRow_sameZ (ownsRow_sameZ HO.out fun q hq => B2.out.block q (World.ownsRow.lt HO.out q hq).2) fun q hq => Below.heap_alloc w2 _ q (Nat.lt_of_lt_of_le (World.ownsRow.lt HO.out q hq).2 B2.out.size))
        have CN := Lib.hid (cells_new w2 [.string an, .string av] 121)
        have BL : Hid (Below (w.heap.size + 1 + 1) wr (w2.alloc (.cells [Value.string an, Value.string av].toArray 121))) := Lib.hid ((B2.out.mono hwr).alloc (by omega) _)
        go_wp2_with (at_builtin; refine wpList_push_attr rfl (.tmp 26) (.tmp 32) rfl (w.heap.size + 1 + 1) w2.heap.size _ (keepAl X sp n (al.take j)) rfl OL.out (by simp; omega) (by have := HKL.out; omega) rfl an av CN.out ?_; rintro v' w4 hO4 hB4; have O4 := Lib.hid hO4; have B4 := Lib.hid hB4; clear hO4 hB4)
        go_roundw
        case rel => exact ⟨j + 1, _, rfl, by go_num, by omega, Lib.hid ⟨by rw [HKN.out]; simpa using O4.out, HB.out.trans (BL.out.trans B4.out)⟩⟩
        case measure => (simp [intOf] <;> omega)
    · obtain rfl : j = al.length := by omega
      have HF : Hid (al.take al.length = al) := Lib.hid (List.take_length)
      go_wp2
      go_ret
      exact ⟨_, rfl, by have := HO.out; rw [HF.out] at this; exact ownsRow_lowZ this (by omega), BWR.out⟩
end Go.Proofs.YthdkkpbhijlpaaaGreat
namespace Go.Proofs.YthdkkpbhijlpaaaGreat
open Go.ChangeShapes Go.WideShapes Go.ChangeAt Go.RowKit Go.Deep

/-- a row of nodes within some blocks -/
structure KR (w : World) (A : Option Addr) (G : Fo) (bs : List Nat) (lo hi : Nat) : Prop where
  row : KRow w A G bs
  nd : bs.Nodup
  at' : ∀ k ∈ bs, lo ≤ k ∧ k < hi
  le : hi ≤ w.heap.size
  len : G.len ≤ maxLen
theorem KR.of {w : World} {B : Nat} {v : Value} {G : Fo} {bl : List Nat} (h : GRow w B v G bl) (hl : G.len ≤ maxLen) : ∃ A c bs, v = .slice A G.len c ∧ KR w A G bs B w.heap.size := by
  obtain ⟨A, c, bs, h1, _, h3, h4, h5⟩ := h.form
  exact ⟨A, c, bs, h1, h3, h4, h5, Nat.le_refl _, hl⟩
/-- as it is read -/
theorem KR.read {w : World} {A : Option Addr} {G : Fo} {bs : List Nat} {lo hi : Nat} (h : KR w A G bs lo hi) : ∃ b, RowAt lo hi A G.len b 0 ∧ FoAt w lo hi b 0 G := by
  rcases h.row with ⟨h0, hb⟩ | ⟨c, b', e1, e2, e3⟩
  · refine ⟨0, ⟨h.len, fun hp => by omega⟩, ?_⟩
    cases G with
    | nil => trivial
    | cons _ _ _ _ _ _ _ => simp [Fo.len] at h0
  · have hc := h.at' c (by rw [e2]; simp)
    exact ⟨c, ⟨h.len, fun _ => ⟨e1, hc.1, hc.2⟩⟩, e3.at fun k hk => h.at' k (by rw [e2]; simp [hk])⟩
end Go.Proofs.YthdkkpbhijlpaaaGreat
