import Derived.Test.YthdkkpbhijlpaaaGreatS40
import Derived.Test.YthdkkpbhijlpaaaGreatS05
set_option linter.unusedVariables false
namespace Go.Proofs.YthdkkpbhijlpaaaGreat
open Go.ChangeShapes Go.WideShapes Go.ChangeAt Go.RowKit Go.Deep

/-- the blocks of a configuration's rows: of each list of rules those of each rule's texts, and all; of the lists of texts -/
structure CfB where
  b1 : Nat → List Nat
  b2 : Nat → List Nat
  b3 : Nat → List Nat
  s1 : List Nat
  s2 : List Nat
  s3 : List Nat
  s4 : List Nat
  s5 : List Nat
/-- no two lists of blocks have one in common -/
structure CfB.Apart (K : CfB) (n : Nat) : Prop where
  lt1 : ∀ k ∈ K.s1, k < n
  lt2 : ∀ k ∈ K.s2, k < n
  lt3 : ∀ k ∈ K.s3, k < n
  lt4 : ∀ k ∈ K.s4, k < n
  lt5 : ∀ k ∈ K.s5, k < n
  d12 : ∀ k ∈ K.s1, k ∉ K.s2
  d13 : ∀ k ∈ K.s1, k ∉ K.s3
  d14 : ∀ k ∈ K.s1, k ∉ K.s4
  d15 : ∀ k ∈ K.s1, k ∉ K.s5
  d23 : ∀ k ∈ K.s2, k ∉ K.s3
  d24 : ∀ k ∈ K.s2, k ∉ K.s4
  d25 : ∀ k ∈ K.s2, k ∉ K.s5
  d34 : ∀ k ∈ K.s3, k ∉ K.s4
  d35 : ∀ k ∈ K.s3, k ∉ K.s5
  d45 : ∀ k ∈ K.s4, k ∉ K.s5
/-- its rows may be written -/
structure CfRows (w : World) (X : Cf) (V : CfV) (K : CfB) : Prop where
  al : RuRowW w V.a1 X.al K.b1 K.s1
  rm : RuRowW w V.a2 X.rm K.b2 K.s2
  uw : RuRowW w V.a3 X.uw K.b3 K.s3
  at_ : StrRow w V.a4 X.at_ K.s4
  dp : StrRow w V.a5 X.dp K.s5
def CfB.all (K : CfB) : List Nat := K.s1 ++ K.s2 ++ K.s3 ++ K.s4 ++ K.s5
theorem CfRows.same {w w' : World} {X : Cf} {V : CfV} {K : CfB} (h : CfRows w X V K) (hs : w.heap.size ≤ w'.heap.size) (hb : ∀ k ∈ K.all, w'.heap[k]? = w.heap[k]?) : CfRows w' X V K :=
  ⟨h.al.same hs fun k hk => hb k (by simp [CfB.all, hk]), h.rm.same hs fun k hk => hb k (by simp [CfB.all, hk]), h.uw.same hs fun k hk => hb k (by simp [CfB.all, hk]), h.at_.same fun k hk => hb k (by simp [CfB.all, hk]), h.dp.same fun k hk => hb k (by simp [CfB.all, hk])⟩
/-- how many marks it takes -/
def cfCnt (X : Cf) : Nat := ruCnt X.al + ruCnt X.rm + ruCnt X.uw + X.at_.length + X.dp.length
def markCf (X : Cf) (m : Nat) : Cf :=
  ⟨X.ha, X.hb, mkRuL X.al m, mkRuL X.rm (m + ruCnt X.al), mkRuL X.uw (m + ruCnt X.al + ruCnt X.rm), markL X.at_ (m + ruCnt X.al + ruCnt X.rm + ruCnt X.uw), markL X.dp (m + ruCnt X.al + ruCnt X.rm + ruCnt X.uw + X.at_.length), X.cm, X.da⟩
structure cfFit (X : Cf) : Prop where
  al : ruFit X.al
  rm : ruFit X.rm
  uw : ruFit X.uw
  at_ : nmSafe X.at_
  dp : nmSafe X.dp
theorem CfRows.in_ {w : World} {X : Cf} {V : CfV} {K : CfB} (h : CfRows w X V K) (hf : cfFit X) (h4 : X.at_.length ≤ V.c4) (h5 : X.dp.length ≤ V.c5) : CfIn w X V := ⟨h.al.ru hf.al, h.rm.ru hf.rm, h.uw.ru hf.uw, h.at_.nm hf.at_, h.dp.nm hf.dp, h4, h5⟩
theorem Lay.blk {w w' : World} {g : Nat} {cs : Array Value} (h : Lay w g cs) (hb : w'.heap[g]? = w.heap[g]?) : Lay w' g cs :=
  ⟨fun j => (World.cell?_of_block (w := w) (a := ⟨g, j, none⟩) hb).trans (h.1 j), fun j => (World.frozen?_of_block (w := w) (a := ⟨g, j, none⟩) hb).trans (h.2 j)⟩
set_option maxHeartbeats 4000000 in
theorem markConfig_any (X : Cf) (V : CfV) (K : CfB) (m : Nat) (w : World) (h1 : 1 ≤ m) (h2 : m + cfCnt X ≤ 1073741824) (hl : X.al.length ≤ 1048576 ∧ X.rm.length ≤ 1048576 ∧ X.uw.length ≤ 1048576) (h : CfRows w X V K) (hK : K.Apart w.heap.size) :
    Calls Tryz.prog 17 #[.agg #[.bool X.ha, .bool X.hb, .slice V.a1 X.al.length V.c1, .slice V.a2 X.rm.length V.c2, .slice V.a3 X.uw.length V.c3, .slice V.a4 X.at_.length V.c4, .slice V.a5 X.dp.length V.c5, .bool X.cm, .bool X.da], .int .i64 (m : Int)] w fun e w' => e = .returned (.int .i64 ((m + cfCnt X : Nat) : Int)) ∧ CfRows w' (markCf X m) V K ∧ But (fun k => k ∈ K.all ∨ w.heap.size ≤ k) w w' := by
  have hcn : cfCnt X = ruCnt X.al + ruCnt X.rm + ruCnt X.uw + X.at_.length + X.dp.length := rfl
  have L0 := Lib.hid (Lay.new w #[.bool X.ha, .bool X.hb, .slice V.a1 X.al.length V.c1, .slice V.a2 X.rm.length V.c2, .slice V.a3 X.uw.length V.c3, .slice V.a4 X.at_.length V.c4, .slice V.a5 X.dp.length V.c5, .bool X.cm, .bool X.da] 35)
  have R0 := Lib.hid (h.same (w' := w.alloc (.cells #[.bool X.ha, .bool X.hb, .slice V.a1 X.al.length V.c1, .slice V.a2 X.rm.length V.c2, .slice V.a3 X.uw.length V.c3, .slice V.a4 X.at_.length V.c4, .slice V.a5 X.dp.length V.c5, .bool X.cm, .bool X.da] 35)) (by simp) (fun k hk => Below.heap_alloc w _ k (by
    simp only [CfB.all, List.mem_append] at hk
    rcases hk with (((hk | hk) | hk) | hk) | hk
    · exact hK.lt1 k hk
    · exact hK.lt2 k hk
    · exact hK.lt3 k hk
    · exact hK.lt4 k hk
    · exact hK.lt5 k hk)))
  have O0 : Hid (But (fun k => k ∈ K.all ∨ w.heap.size ≤ k) w (w.alloc (.cells #[.bool X.ha, .bool X.hb, .slice V.a1 X.al.length V.c1, .slice V.a2 X.rm.length V.c2, .slice V.a3 X.uw.length V.c3, .slice V.a4 X.at_.length V.c4, .slice V.a5 X.dp.length V.c5, .bool X.cm, .bool X.da] 35))) := Lib.hid ((But.refl _ w).alloc _)
  have HK := Lib.hid hK
  have Z0 : Hid (w.heap.size < (w.alloc (.cells #[.bool X.ha, .bool X.hb, .slice V.a1 X.al.length V.c1, .slice V.a2 X.rm.length V.c2, .slice V.a3 X.uw.length V.c3, .slice V.a4 X.at_.length V.c4, .slice V.a5 X.dp.length V.c5, .bool X.cm, .bool X.da] 35)).heap.size) := Lib.hid (by simp)
  obtain ⟨p0, p1, p2, p3, p4, p5, p6, p7, p8⟩ := lay9 L0.out
  clear h hK
  go_enter Tryz.func17, Tryz.ntmps17
  go_wp2_with fail
  refine (markRuleS_any X.al (m) _ V.a1 V.c1 K.b1 K.s1 (by omega) (by omega) hl.1 R0.out.al).mono ?_
  rintro e w1 ⟨rfl, hR, hO⟩
  have Z1 := Lib.hid (Nat.lt_of_lt_of_le Z0.out hO.size)
  have L1 := Lib.hid (L0.out.blk (hO.block w.heap.size Z0.out (fun e => Nat.lt_irrefl _ (HK.out.lt1 _ e))))
  have O1 := Lib.hid (O0.out.trans (hO.mono (D := fun k => k ∈ K.all) fun k hk => by simp [CfB.all, hk]) fun k hk => Or.inl (Or.inl hk))
  have R1 : Hid (CfRows w1 (⟨X.ha, X.hb, (mkRuL X.al (m)), X.rm, X.uw, X.at_, X.dp, X.cm, X.da⟩ : Cf) V K) := Lib.hid ⟨hR, R0.out.rm.same hO.size (fun k hk => hO.block k (Nat.lt_trans (HK.out.lt2 k hk) Z0.out) (fun e => HK.out.d12 k e hk)), R0.out.uw.same hO.size (fun k hk => hO.block k (Nat.lt_trans (HK.out.lt3 k hk) Z0.out) (fun e => HK.out.d13 k e hk)), R0.out.at_.same (fun k hk => hO.block k (Nat.lt_trans (HK.out.lt4 k hk) Z0.out) (fun e => HK.out.d14 k e hk)), R0.out.dp.same (fun k hk => hO.block k (Nat.lt_trans (HK.out.lt5 k hk) Z0.out) (fun e => HK.out.d15 k e hk))⟩
  clear hR hO p0 p1 p2 p3 p4 p5 p6 p7 p8
  obtain ⟨p0, p1, p2, p3, p4, p5, p6, p7, p8⟩ := lay9 L1.out
  go_wp2_with fail
  try rw [show ((m : Int) + (ruCnt X.al : Int) : Int) = ((m + ruCnt X.al : Nat) : Int) by push_cast; rfl]
  refine (markRuleS_any X.rm (m + ruCnt X.al) _ V.a2 V.c2 K.b2 K.s2 (by omega) (by omega) hl.2.1 R1.out.rm).mono ?_
  rintro e w2 ⟨rfl, hR, hO⟩
  have Z2 := Lib.hid (Nat.lt_of_lt_of_le Z1.out hO.size)
  have L2 := Lib.hid (L1.out.blk (hO.block w.heap.size Z1.out (fun e => Nat.lt_irrefl _ (HK.out.lt2 _ e))))
  have O2 := Lib.hid (O1.out.trans (hO.mono (D := fun k => k ∈ K.all) fun k hk => by simp [CfB.all, hk]) fun k hk => Or.inl (Or.inl hk))
  have R2 : Hid (CfRows w2 (⟨X.ha, X.hb, (mkRuL X.al (m)), (mkRuL X.rm (m + ruCnt X.al)), X.uw, X.at_, X.dp, X.cm, X.da⟩ : Cf) V K) := Lib.hid ⟨R1.out.al.same hO.size (fun k hk => hO.block k (Nat.lt_trans (HK.out.lt1 k hk) Z1.out) (fun e => HK.out.d12 k hk e)), hR, R1.out.uw.same hO.size (fun k hk => hO.block k (Nat.lt_trans (HK.out.lt3 k hk) Z1.out) (fun e => HK.out.d23 k e hk)), R1.out.at_.same (fun k hk => hO.block k (Nat.lt_trans (HK.out.lt4 k hk) Z1.out) (fun e => HK.out.d24 k e hk)), R1.out.dp.same (fun k hk => hO.block k (Nat.lt_trans (HK.out.lt5 k hk) Z1.out) (fun e => HK.out.d25 k e hk))⟩
  clear hR hO p0 p1 p2 p3 p4 p5 p6 p7 p8
  obtain ⟨p0, p1, p2, p3, p4, p5, p6, p7, p8⟩ := lay9 L2.out
  go_wp2_with fail
  try rw [show ((m : Int) + (ruCnt X.al : Int) + (ruCnt X.rm : Int) : Int) = ((m + ruCnt X.al + ruCnt X.rm : Nat) : Int) by push_cast; rfl]
  refine (markRuleS_any X.uw (m + ruCnt X.al + ruCnt X.rm) _ V.a3 V.c3 K.b3 K.s3 (by omega) (by omega) hl.2.2 R2.out.uw).mono ?_
  rintro e w3 ⟨rfl, hR, hO⟩
  have Z3 := Lib.hid (Nat.lt_of_lt_of_le Z2.out hO.size)
  have L3 := Lib.hid (L2.out.blk (hO.block w.heap.size Z2.out (fun e => Nat.lt_irrefl _ (HK.out.lt3 _ e))))
  have O3 := Lib.hid (O2.out.trans (hO.mono (D := fun k => k ∈ K.all) fun k hk => by simp [CfB.all, hk]) fun k hk => Or.inl (Or.inl hk))
  have R3 : Hid (CfRows w3 (⟨X.ha, X.hb, (mkRuL X.al (m)), (mkRuL X.rm (m + ruCnt X.al)), (mkRuL X.uw (m + ruCnt X.al + ruCnt X.rm)), X.at_, X.dp, X.cm, X.da⟩ : Cf) V K) := Lib.hid ⟨R2.out.al.same hO.size (fun k hk => hO.block k (Nat.lt_trans (HK.out.lt1 k hk) Z2.out) (fun e => HK.out.d13 k hk e)), R2.out.rm.same hO.size (fun k hk => hO.block k (Nat.lt_trans (HK.out.lt2 k hk) Z2.out) (fun e => HK.out.d23 k hk e)), hR, R2.out.at_.same (fun k hk => hO.block k (Nat.lt_trans (HK.out.lt4 k hk) Z2.out) (fun e => HK.out.d34 k e hk)), R2.out.dp.same (fun k hk => hO.block k (Nat.lt_trans (HK.out.lt5 k hk) Z2.out) (fun e => HK.out.d35 k e hk))⟩
  clear hR hO p0 p1 p2 p3 p4 p5 p6 p7 p8
  obtain ⟨p0, p1, p2, p3, p4, p5, p6, p7, p8⟩ := lay9 L3.out
  go_wp2_with fail
  try rw [show ((m : Int) + (ruCnt X.al : Int) + (ruCnt X.rm : Int) + (ruCnt X.uw : Int) : Int) = ((m + ruCnt X.al + ruCnt X.rm + ruCnt X.uw : Nat) : Int) by push_cast; rfl]
  refine (markStringS_any X.at_ (m + ruCnt X.al + ruCnt X.rm + ruCnt X.uw) _ V.a4 V.c4 K.s4 (by omega) (by omega) R3.out.at_).mono ?_
  rintro e w4 ⟨rfl, hR, hO⟩
  have Z4 := Lib.hid (Nat.lt_of_lt_of_le Z3.out hO.size)
  have L4 := Lib.hid (L3.out.blk (hO.block w.heap.size Z3.out (fun e => Nat.lt_irrefl _ (HK.out.lt4 _ e))))
  have O4 := Lib.hid (O3.out.trans (hO.mono (D := fun k => k ∈ K.all) fun k hk => by simp [CfB.all, hk]) fun k hk => Or.inl (Or.inl hk))
  have R4 : Hid (CfRows w4 (⟨X.ha, X.hb, (mkRuL X.al (m)), (mkRuL X.rm (m + ruCnt X.al)), (mkRuL X.uw (m + ruCnt X.al + ruCnt X.rm)), (markL X.at_ (m + ruCnt X.al + ruCnt X.rm + ruCnt X.uw)), X.dp, X.cm, X.da⟩ : Cf) V K) := Lib.hid ⟨R3.out.al.same hO.size (fun k hk => hO.block k (Nat.lt_trans (HK.out.lt1 k hk) Z3.out) (fun e => HK.out.d14 k hk e)), R3.out.rm.same hO.size (fun k hk => hO.block k (Nat.lt_trans (HK.out.lt2 k hk) Z3.out) (fun e => HK.out.d24 k hk e)), R3.out.uw.same hO.size (fun k hk => hO.block k (Nat.lt_trans (HK.out.lt3 k hk) Z3.out) (fun e => HK.out.d34 k hk e)), hR, R3.out.dp.same (fun k hk => hO.block k (Nat.lt_trans (HK.out.lt5 k hk) Z3.out) (fun e => HK.out.d45 k e hk))⟩
  clear hR hO p0 p1 p2 p3 p4 p5 p6 p7 p8
  obtain ⟨p0, p1, p2, p3, p4, p5, p6, p7, p8⟩ := lay9 L4.out
  go_wp2_with fail
  try rw [show ((m : Int) + (ruCnt X.al : Int) + (ruCnt X.rm : Int) + (ruCnt X.uw : Int) + (X.at_.length : Int) : Int) = ((m + ruCnt X.al + ruCnt X.rm + ruCnt X.uw + X.at_.length : Nat) : Int) by push_cast; rfl]
  refine (markStringS_any X.dp (m + ruCnt X.al + ruCnt X.rm + ruCnt X.uw + X.at_.length) _ V.a5 V.c5 K.s5 (by omega) (by omega) R4.out.dp).mono ?_
  rintro e w5 ⟨rfl, hR, hO⟩
  have Z5 := Lib.hid (Nat.lt_of_lt_of_le Z4.out hO.size)
  have L5 := Lib.hid (L4.out.blk (hO.block w.heap.size Z4.out (fun e => Nat.lt_irrefl _ (HK.out.lt5 _ e))))
  have O5 := Lib.hid (O4.out.trans (hO.mono (D := fun k => k ∈ K.all) fun k hk => by simp [CfB.all, hk]) fun k hk => Or.inl (Or.inl hk))
  have R5 : Hid (CfRows w5 (⟨X.ha, X.hb, (mkRuL X.al (m)), (mkRuL X.rm (m + ruCnt X.al)), (mkRuL X.uw (m + ruCnt X.al + ruCnt X.rm)), (markL X.at_ (m + ruCnt X.al + ruCnt X.rm + ruCnt X.uw)), (markL X.dp (m + ruCnt X.al + ruCnt X.rm + ruCnt X.uw + X.at_.length)), X.cm, X.da⟩ : Cf) V K) := Lib.hid ⟨R4.out.al.same hO.size (fun k hk => hO.block k (Nat.lt_trans (HK.out.lt1 k hk) Z4.out) (fun e => HK.out.d15 k hk e)), R4.out.rm.same hO.size (fun k hk => hO.block k (Nat.lt_trans (HK.out.lt2 k hk) Z4.out) (fun e => HK.out.d25 k hk e)), R4.out.uw.same hO.size (fun k hk => hO.block k (Nat.lt_trans (HK.out.lt3 k hk) Z4.out) (fun e => HK.out.d35 k hk e)), R4.out.at_.same (fun k hk => hO.block k (Nat.lt_trans (HK.out.lt4 k hk) Z4.out) (fun e => HK.out.d45 k hk e)), hR⟩
  clear hR hO p0 p1 p2 p3 p4 p5 p6 p7 p8
  obtain ⟨p0, p1, p2, p3, p4, p5, p6, p7, p8⟩ := lay9 L5.out
  go_wp2
  go_ret
  exact ⟨ret_int (by rw [hcn]; push_cast; omega), R5.out, O5.out⟩
end Go.Proofs.YthdkkpbhijlpaaaGreat
namespace Go.Proofs.YthdkkpbhijlpaaaGreat
open Go.ChangeShapes Go.WideShapes Go.ChangeAt Go.RowKit Go.Deep

/-- texts of one's own, in block g, made ahead of block hi -/
def SO (w : World) (g hi : Nat) (l : List ByteArray) : Prop := g < hi ∧ hi ≤ w.heap.size ∧ ∀ k (h : k < l.length), CellW w g k (.string l[k])
theorem SO.same {w w' : World} {g hi : Nat} {l : List ByteArray} (h : SO w g hi l) (hs : w.heap.size ≤ w'.heap.size) (hb : w'.heap[g]? = w.heap[g]?) : SO w' g hi l := ⟨h.1, Nat.le_trans h.2.1 hs, fun k hk => (h.2.2 k hk).same hb⟩
theorem SO.next {w w' : World} {g hi : Nat} {l : List ByteArray} (h : SO w g hi l) (hB : Below w.heap.size w w') : SO w' g hi l := h.same hB.size (hB.block g (Nat.lt_of_lt_of_le h.1 h.2.1))
theorem SO.off {w : World} {g hi b i : Nat} {l : List ByteArray} (h : SO w g hi l) (hb : b < g) (v : Value) : SO (w.setCell ⟨b, i, none⟩ v) g hi l := h.same (by simp) (heap_set w b i v (by omega))
theorem SO.row {w : World} {g hi : Nat} {l : List ByteArray} (h : SO w g hi l) : StrRow w (some ⟨g, 0, none⟩) l [g] := Or.inr ⟨g, rfl, rfl, h.2.2⟩
theorem toStringS_W (l : List ByteArray) (w : World) (A : Option Addr) (c : Nat) (hl : l.length ≤ 1048576) (h : NmIn w A l) :
    Calls Tryz.prog 37 #[.slice A l.length c] w fun e w' => e = .returned (.slice (some ⟨w.heap.size, 0, none⟩) l.length l.length) ∧ Below w.heap.size w w' ∧ SO w' w.heap.size w'.heap.size l := by
  have hmk := make_texts l.length hl w
  have HA := Lib.hid h
  clear h
  go_enter Tryz.func37, Tryz.ntmps37
  go_wp2
  go_loopw [4] (fun i wr => ∃ k : Nat, i = .int .i64 (k : Int) ∧ k ≤ l.length ∧ Hid (Below w.heap.size w wr ∧ w.heap.size < wr.heap.size ∧ (∀ j (h : j < l.length), j < k → wr.cell? ⟨w.heap.size, j, none⟩ = some (.string l[j])) ∧ Room wr w.heap.size l.length)) (fun i wr => l.length - (intOf i).toNat)
  case atStart => exact ⟨0, rfl, Nat.zero_le _, Lib.hid ⟨(Below.refl _ _).alloc (Nat.le_refl _) _, by simp, fun j _ h => absurd h (Nat.not_lt_zero _), room_made _ _ _ _⟩⟩
  case round =>
    obtain ⟨k, rfl, hk, HH⟩ := hrel
    by_cases hlt : k < l.length
    · obtain ⟨g, o, rfl, hg, t1, t2⟩ := HA.out.get hlt
      have s1 := (HH.out.1.cell (p := ⟨g, o + k, none⟩) hg).trans t1
      obtain ⟨⟨v0, e0⟩, f0⟩ := HH.out.2.2.2 k (by omega)
      clear t1
      go_wp2
      go_roundw
      case rel =>
        refine ⟨k + 1, by go_num, by omega, Lib.hid ⟨HH.out.1.setCell (p := ⟨_, _, none⟩) (Nat.le_refl _) _, by simpa using HH.out.2.1, fun j hj hj' => ?_, HH.out.2.2.2.set _ _⟩⟩
        by_cases e : j = k
        · subst e; exact World.cell?_setCell_same _ _ _ e0
        · rw [World.cell?_setCell_other (h := by simp <;> omega)]; exact HH.out.2.2.1 j hj (by omega)
      case measure => simp [intOf]; omega
    · obtain rfl : k = l.length := by omega
      go_wp2
      go_ret
      exact ⟨rfl, HH.out.1, HH.out.2.1, Nat.le_refl _, fun k hk => ⟨HH.out.2.2.1 k hk hk, (HH.out.2.2.2 k hk).2⟩⟩
theorem toRule_W (sp : Int) (n : ByteArray) (al : List ByteArray) (w : World) (A : Option Addr) (c : Nat) (hll : al.length ≤ 1048576) (_ : n.size ≤ maxLen) (h : NmIn w A al) :
    Calls Tryz.prog 74 #[.agg #[.int .i64 sp, .string n, .slice A al.length c]] w fun e w' =>
      ∃ g, e = .returned (.agg #[.int .i64 sp, .string n, .slice (some ⟨g, 0, none⟩) al.length al.length]) ∧ Below w.heap.size w w' ∧ w.heap.size ≤ g ∧ SO w' g w'.heap.size al := by
  have HA := Lib.hid h
  clear h
  go_enter Tryz.func74, Tryz.ntmps74
  go_wp2_with (go_at_call 37; go_loud (refine (toStringS_W al _ A c hll ?a1).mono ?a3; (case a1 => exact HA.out.next (by go_grown)); rintro e w' ⟨rfl, hB', hat⟩; simp only [World.size_alloc] at hB' hat ⊢; obtain ⟨L1, L2, L3, B3⟩ := three_lay hB'; have r2 := L1.1 2; have e0 := L3.1 0; have e1 := L3.1 1; have e2 := L3.1 2; have f2 := L3.2 2; have n0 := L2.1; have n1 := L2.2; have KB := Lib.hid B3; have KA := Lib.hid hat; clear L1 L2 L3 B3 hat hB'; simp at r2 e0 e1 e2))
  (try simp only [Exit.inBlock, Exit.then])
  have M2 : Lay w' (w.heap.size + 1) _ := ⟨n0, n1⟩
  have M3 := (((M2.setOther (g' := w.heap.size + 1 + 1) (by omega) 2 (.slice (some ⟨w.heap.size + 1 + 1 + 1, 0, none⟩) al.length al.length)).set 0 (.int .i64 sp)).set 1 (.string n)).set 2 (.slice (some ⟨w.heap.size + 1 + 1 + 1, 0, none⟩) al.length al.length)
  refine ret_rule rfl M3 rfl rfl ⟨_, rfl, ?_, ?_, ?_⟩
  · refine Below.trans (b := w') KB.out ?_
    go_grown
  · omega
  · have p1 : w.heap.size + 1 + 1 + 1 ≠ w.heap.size + 1 := by omega
    have p2 : w.heap.size + 1 + 1 + 1 ≠ w.heap.size + 1 + 1 := by omega
    have hk := KA.out
    refine ⟨by have := hk.1; have := hk.2.1; simp; omega, Nat.le_refl _, fun k hkk => (hk.2.2 k hkk).same ?_⟩
    rw [heap_set _ _ _ _ p1, heap_set _ _ _ _ p1, heap_set _ _ _ _ p1, heap_set _ _ _ _ p2]
/-- rules of one's own, in block g, their texts in blocks behind it, all made ahead of block hi -/
def RO (w : World) (g hi : Nat) (l : List Ru) : Prop := g < hi ∧ hi ≤ w.heap.size ∧ ∃ gb : Nat → Nat, (∀ j (h : j < l.length), RuW w g j l[j] [gb j] ∧ g < gb j ∧ gb j < hi) ∧ ∀ i j, i < l.length → j < l.length → i ≠ j → gb i ≠ gb j
theorem RO.same {w w' : World} {g hi : Nat} {l : List Ru} (h : RO w g hi l) (hs : w.heap.size ≤ w'.heap.size) (hb : ∀ k, g ≤ k → k < hi → w'.heap[k]? = w.heap[k]?) : RO w' g hi l := by
  obtain ⟨h1, h2, gb, h3, h4⟩ := h
  refine ⟨h1, Nat.le_trans h2 hs, gb, fun j hj => ⟨(h3 j hj).1.same (hb g (Nat.le_refl _) h1) fun k hk => ?_, (h3 j hj).2⟩, h4⟩
  have : k = gb j := by simpa using hk
  subst this
  exact hb _ (Nat.le_of_lt (h3 j hj).2.1) (h3 j hj).2.2
theorem RO.next {w w' : World} {g hi : Nat} {l : List Ru} (h : RO w g hi l) (hB : Below w.heap.size w w') : RO w' g hi l := h.same hB.size fun k _ hk => hB.block k (Nat.lt_of_lt_of_le hk h.2.1)
theorem RO.off {w : World} {g hi b i : Nat} {l : List Ru} (h : RO w g hi l) (hb : b < g) (v : Value) : RO (w.setCell ⟨b, i, none⟩ v) g hi l := h.same (by simp) fun k hk _ => heap_set w b i v (by omega)
theorem RO.row {w : World} {g hi : Nat} {l : List Ru} (h : RO w g hi l) : ∃ (bl : Nat → List Nat) (bs : List Nat), RuRowW w (some ⟨g, 0, none⟩) l bl bs ∧ ∀ k ∈ bs, g ≤ k ∧ k < hi := by
  obtain ⟨h1, h2, gb, h3, h4⟩ := h
  have hm : ∀ k, k ∈ g :: (List.range l.length).map gb → g ≤ k ∧ k < hi := fun k hk => by
    rcases List.mem_cons.1 hk with rfl | hk
    · exact ⟨Nat.le_refl _, h1⟩
    · obtain ⟨j, hj, rfl⟩ := List.mem_map.1 hk
      have hj := List.mem_range.1 hj
      exact ⟨Nat.le_of_lt (h3 j hj).2.1, (h3 j hj).2.2⟩
  refine ⟨fun j => [gb j], g :: (List.range l.length).map gb, Or.inr ⟨g, rfl, List.mem_cons_self, fun k hk => Nat.lt_of_lt_of_le (hm k hk).2 h2, fun j hj => (h3 j hj).1, fun j hj k hk => ?_, fun i j hi hj hne k hk hk' => ?_⟩, hm⟩
  · obtain rfl : k = gb j := by simpa using hk
    exact ⟨List.mem_cons_of_mem _ (List.mem_map.2 ⟨j, List.mem_range.2 hj, rfl⟩), Nat.ne_of_gt (h3 j hj).2.1⟩
  · have e1 : k = gb i := by simpa using hk
    have e2 : k = gb j := by simpa using hk'
    exact h4 i j hi hj hne (e1.symm.trans e2)
theorem toRuleS_W (l : List Ru) (w : World) (A : Option Addr) (c : Nat) (hl : l.length + rusSize l ≤ 1048576) (h : RuIn w A l) :
    Calls Tryz.prog 36 #[.slice A l.length c] w fun e w' => e = .returned (.slice (some ⟨w.heap.size, 0, none⟩) l.length l.length) ∧ Below w.heap.size w w' ∧ RO w' w.heap.size w'.heap.size l := by
  have hmk := make_rules l.length (by omega) w
  have HA := Lib.hid h
  clear h
  go_enter Tryz.func36, Tryz.ntmps36
  go_wp2
  go_loopw [4] (fun i wr => ∃ k : Nat, i = .int .i64 (k : Int) ∧ k ≤ l.length ∧ Hid (Below w.heap.size w wr ∧ w.heap.size < wr.heap.size ∧ (∃ gb : Nat → Nat, (∀ j (h : j < l.length), j < k → RuW wr w.heap.size j l[j] [gb j] ∧ w.heap.size < gb j ∧ gb j < wr.heap.size) ∧ ∀ i j, i < k → j < k → i ≠ j → gb i ≠ gb j) ∧ Room wr w.heap.size (l.length * 3))) (fun i wr => l.length - (intOf i).toNat)
  case atStart => exact ⟨0, rfl, Nat.zero_le _, Lib.hid ⟨(Below.refl _ _).alloc (Nat.le_refl _) _, by simp, ⟨fun _ => 0, fun j _ h => absurd h (Nat.not_lt_zero _), fun i j h => absurd h (Nat.not_lt_zero _)⟩, room_made _ _ _ _⟩⟩
  case round =>
    obtain ⟨k, rfl, hk, HH⟩ := hrel
    by_cases hlt : k < l.length
    · obtain ⟨g, o, rfl, hg, t0, t1, hz, B, cc, t2, _, hb⟩ := (HA.out.next HH.out.1).get hlt
      have hs := rusSize_take hlt
      have hle2 := rusSize_le l (k + 1)
      have hll : l[k].2.2.length ≤ 1048576 := by unfold ruSize at hs; omega
      have HB := Lib.hid hb
      have hwl := HH.out.2.1
      clear hb hs hle2
      go_wp2_with (go_at_call 74; go_loud (refine (toRule_W _ _ _ _ B cc hll hz HB.out).mono ?_; rintro e w' ⟨gn, rfl, hB', hgn, hat⟩; obtain ⟨⟨v0, e0⟩, f0⟩ := (HH.out.2.2.2.below hB' hwl) (k * 3) (by omega); obtain ⟨⟨v1, e1⟩, f1⟩ := (HH.out.2.2.2.below hB' hwl) (k * 3 + 1) (by omega); obtain ⟨⟨v2, e2⟩, f2⟩ := (HH.out.2.2.2.below hB' hwl) (k * 3 + 2) (by omega); have HB' := Lib.hid hB'; have HAT := Lib.hid hat; clear hB' hat))
      go_roundw
      case rel =>
        have hB' := HB'.out
        have hg' : w.heap.size < w'.heap.size := Nat.lt_of_lt_of_le hwl hB'.size
        obtain ⟨gb, hgb, hdj⟩ := HH.out.2.2.1
        have hgn' := Nat.lt_of_lt_of_le hwl hgn
        have hso := HAT.out
        have hb0 : ∀ q, q ≠ w.heap.size → (((w'.setCell ⟨w.heap.size, k * 3, none⟩ (.int .i64 l[k].1)).setCell ⟨w.heap.size, k * 3 + 1, none⟩ (.string l[k].2.1)).setCell ⟨w.heap.size, k * 3 + 2, none⟩ (.slice (some ⟨gn, 0, none⟩) l[k].2.2.length l[k].2.2.length)).heap[q]? = w'.heap[q]? := fun q hq => by
          rw [heap_set _ _ _ _ hq, heap_set _ _ _ _ hq, heap_set _ _ _ _ hq]
        refine ⟨k + 1, by go_num, by omega, Lib.hid ⟨(((HH.out.1.trans (hB'.mono HH.out.1.size)).setCell (p := ⟨_, _, none⟩) (Nat.le_refl _) _).setCell (p := ⟨_, _, none⟩) (Nat.le_refl _) _).setCell (p := ⟨_, _, none⟩) (Nat.le_refl _) _, by simpa using hg', ⟨fun j => if j = k then gn else gb j, fun j hj hj' => ?_, fun i j hi hj hne => ?_⟩, (((HH.out.2.2.2.below hB' hwl).set _ _).set _ _).set _ _⟩⟩
        · dsimp only
          by_cases e : j = k
          · subst e
            rw [if_pos rfl]
            have c0 : CellW w' w.heap.size (j * 3) v0 := ⟨e0, f0⟩
            have c1 : CellW w' w.heap.size (j * 3 + 1) v1 := ⟨e1, f1⟩
            have c2 : CellW w' w.heap.size (j * 3 + 2) v2 := ⟨e2, f2⟩
            refine ⟨⟨((c0.put _).set (Or.inr (by omega)) _).set (Or.inr (by omega)) _, ((c1.set (Or.inr (by omega)) _).put _).set (Or.inr (by omega)) _, _, _, Nat.le_refl _, ((c2.set (Or.inr (by omega)) _).set (Or.inr (by omega)) _).put _, hso.row.same fun q hq => ?_⟩, hgn', by simpa using Nat.lt_of_lt_of_le hso.1 hso.2.1⟩
            have hq : q = gn := by simpa using hq
            subst hq
            exact hb0 _ (by omega)
          · rw [if_neg e]
            obtain ⟨r1, r2, r3⟩ := hgb j hj (by omega)
            have r1 := r1.same (w' := w') (hB'.block w.heap.size hwl) fun q hq => hB'.block q (by have hq : q = gb j := (by simpa using hq); omega)
            have hne : ∀ q ∈ [gb j], q ≠ w.heap.size := fun q hq => by have hq : q = gb j := (by simpa using hq); omega
            exact ⟨((r1.set (by omega) (by omega) (by omega) hne _).set (by omega) (by omega) (by omega) hne _).set (by omega) (by omega) (by omega) hne _, r2, by have := hB'.size; simp; omega⟩
        · dsimp only
          by_cases e1 : i = k
          · by_cases e2 : j = k
            · exact absurd (e1.trans e2.symm) hne
            · rw [if_pos e1, if_neg e2]
              have := (hgb j (by omega) (by omega)).2.2
              omega
          · by_cases e2 : j = k
            · rw [if_neg e1, if_pos e2]
              have := (hgb i (by omega) (by omega)).2.2
              omega
            · rw [if_neg e1, if_neg e2]
              exact hdj i j (by omega) (by omega) hne
      case measure => simp [intOf]; omega
    · obtain rfl : k = l.length := by omega
      go_wp2
      go_ret
      obtain ⟨gb, hgb, hdj⟩ := HH.out.2.2.1
      exact ⟨rfl, HH.out.1, HH.out.2.1, Nat.le_refl _, gb, fun j hj => hgb j hj hj, hdj⟩
end Go.Proofs.YthdkkpbhijlpaaaGreat
