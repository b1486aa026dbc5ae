
import Derived.Test.YtbcbmgeoaejlmaaRuW
import Derived.Test.YtbcbmgeoaejlmaaCf3
namespace Go.Proofs.Ytbcbmgeoaejlmaa
open Go.ChangeShapes Go.WideShapes Go.ChangeAt Go.RowKit Go.Deep

/-- the blocks of a configuration's rows: of each list of rules those of each rule's texts, and all; of the lists of texts -/
structure CfB where
  b1 : Nat → List Nat
  b2 : Nat → List Nat
  b3 : Nat → List Nat
  s1 : List Nat
  s2 : List Nat
  s3 : List Nat
  s4 : List Nat
  s5 : List Nat
/-- no two lists of blocks have one in common -/
structure CfB.Apart (K : CfB) (n : Nat) : Prop where
  lt1 : ∀ k ∈ K.s1, k < n
  lt2 : ∀ k ∈ K.s2, k < n
  lt3 : ∀ k ∈ K.s3, k < n
  lt4 : ∀ k ∈ K.s4, k < n
  lt5 : ∀ k ∈ K.s5, k < n
  d12 : ∀ k ∈ K.s1, k ∉ K.s2
  d13 : ∀ k ∈ K.s1, k ∉ K.s3
  d14 : ∀ k ∈ K.s1, k ∉ K.s4
  d15 : ∀ k ∈ K.s1, k ∉ K.s5
  d23 : ∀ k ∈ K.s2, k ∉ K.s3
  d24 : ∀ k ∈ K.s2, k ∉ K.s4
  d25 : ∀ k ∈ K.s2, k ∉ K.s5
  d34 : ∀ k ∈ K.s3, k ∉ K.s4
  d35 : ∀ k ∈ K.s3, k ∉ K.s5
  d45 : ∀ k ∈ K.s4, k ∉ K.s5
/-- its rows may be written -/
structure CfRows (w : World) (X : Cf) (V : CfV) (K : CfB) : Prop where
  al : RuRowW w V.a1 X.al K.b1 K.s1
  rm : RuRowW w V.a2 X.rm K.b2 K.s2
  uw : RuRowW w V.a3 X.uw K.b3 K.s3
  at_ : StrRow w V.a4 X.at_ K.s4
  dp : StrRow w V.a5 X.dp K.s5
def CfB.all (K : CfB) : List Nat := K.s1 ++ K.s2 ++ K.s3 ++ K.s4 ++ K.s5
theorem CfRows.same {w w' : World} {X : Cf} {V : CfV} {K : CfB} (h : CfRows w X V K) (hs : w.heap.size ≤ w'.heap.size) (hb : ∀ k ∈ K.all, w'.heap[k]? = w.heap[k]?) : CfRows w' X V K :=
  ⟨h.al.same hs fun k hk => hb k (by simp [CfB.all, hk]), h.rm.same hs fun k hk => hb k (by simp [CfB.all, hk]), h.uw.same hs fun k hk => hb k (by simp [CfB.all, hk]), h.at_.same fun k hk => hb k (by simp [CfB.all, hk]), h.dp.same fun k hk => hb k (by simp [CfB.all, hk])⟩
/-- how many marks it takes -/
def cfCnt (X : Cf) : Nat := ruCnt X.al + ruCnt X.rm + ruCnt X.uw + X.at_.length + X.dp.length
def markCf (X : Cf) (m : Nat) : Cf :=
  ⟨X.ha, X.hb, mkRuL X.al m, mkRuL X.rm (m + ruCnt X.al), mkRuL X.uw (m + ruCnt X.al + ruCnt X.rm), markL X.at_ (m + ruCnt X.al + ruCnt X.rm + ruCnt X.uw), markL X.dp (m + ruCnt X.al + ruCnt X.rm + ruCnt X.uw + X.at_.length), X.cm, X.da⟩
structure cfFit (X : Cf) : Prop where
  al : ruFit X.al
  rm : ruFit X.rm
  uw : ruFit X.uw
  at_ : nmSafe X.at_
  dp : nmSafe X.dp
theorem CfRows.in_ {w : World} {X : Cf} {V : CfV} {K : CfB} (h : CfRows w X V K) (hf : cfFit X) (h4 : X.at_.length ≤ V.c4) (h5 : X.dp.length ≤ V.c5) : CfIn w X V := ⟨h.al.ru hf.al, h.rm.ru hf.rm, h.uw.ru hf.uw, h.at_.nm hf.at_, h.dp.nm hf.dp, h4, h5⟩

theorem Lay.blk {w w' : World} {g : Nat} {cs : Array Value} (h : Lay w g cs) (hb : w'.heap[g]? = w.heap[g]?) : Lay w' g cs :=
  ⟨fun j => (World.cell?_of_block (w := w) (a := ⟨g, j, none⟩) hb).trans (h.1 j), fun j => (World.frozen?_of_block (w := w) (a := ⟨g, j, none⟩) hb).trans (h.2 j)⟩

set_option maxHeartbeats 4000000 in
theorem markConfig_any (X : Cf) (V : CfV) (K : CfB) (m : Nat) (w : World) (h1 : 1 ≤ m) (h2 : m + cfCnt X ≤ 1073741824) (hl : X.al.length ≤ 1048576 ∧ X.rm.length ≤ 1048576 ∧ X.uw.length ≤ 1048576) (h : CfRows w X V K) (hK : K.Apart w.heap.size) :
    Calls Try.prog 26 #[.agg #[.bool X.ha, .bool X.hb, .slice V.a1 X.al.length V.c1, .slice V.a2 X.rm.length V.c2, .slice V.a3 X.uw.length V.c3, .slice V.a4 X.at_.length V.c4, .slice V.a5 X.dp.length V.c5, .bool X.cm, .bool X.da], .int .i64 (m : Int)] w fun e w' => e = .returned (.int .i64 ((m + cfCnt X : Nat) : Int)) ∧ CfRows w' (markCf X m) V K ∧ But (fun k => k ∈ K.all ∨ w.heap.size ≤ k) w w' := by
  have hcn : cfCnt X = ruCnt X.al + ruCnt X.rm + ruCnt X.uw + X.at_.length + X.dp.length := rfl
  have L0 := Lib.hid (Lay.new w #[.bool X.ha, .bool X.hb, .slice V.a1 X.al.length V.c1, .slice V.a2 X.rm.length V.c2, .slice V.a3 X.uw.length V.c3, .slice V.a4 X.at_.length V.c4, .slice V.a5 X.dp.length V.c5, .bool X.cm, .bool X.da] 34)
  have R0 := Lib.hid (h.same (w' := w.alloc (.cells #[.bool X.ha, .bool X.hb, .slice V.a1 X.al.length V.c1, .slice V.a2 X.rm.length V.c2, .slice V.a3 X.uw.length V.c3, .slice V.a4 X.at_.length V.c4, .slice V.a5 X.dp.length V.c5, .bool X.cm, .bool X.da] 34)) (by simp) (fun k hk => Below.heap_alloc w _ k (by
    simp only [CfB.all, List.mem_append] at hk
    rcases hk with (((hk | hk) | hk) | hk) | hk
    · exact hK.lt1 k hk
    · exact hK.lt2 k hk
    · exact hK.lt3 k hk
    · exact hK.lt4 k hk
    · exact hK.lt5 k hk)))
  have O0 : Hid (But (fun k => k ∈ K.all ∨ w.heap.size ≤ k) w (w.alloc (.cells #[.bool X.ha, .bool X.hb, .slice V.a1 X.al.length V.c1, .slice V.a2 X.rm.length V.c2, .slice V.a3 X.uw.length V.c3, .slice V.a4 X.at_.length V.c4, .slice V.a5 X.dp.length V.c5, .bool X.cm, .bool X.da] 34))) := Lib.hid ((But.refl _ w).alloc _)
  have HK := Lib.hid hK
  have Z0 : Hid (w.heap.size < (w.alloc (.cells #[.bool X.ha, .bool X.hb, .slice V.a1 X.al.length V.c1, .slice V.a2 X.rm.length V.c2, .slice V.a3 X.uw.length V.c3, .slice V.a4 X.at_.length V.c4, .slice V.a5 X.dp.length V.c5, .bool X.cm, .bool X.da] 34)).heap.size) := Lib.hid (by simp)
  obtain ⟨p0, p1, p2, p3, p4, p5, p6, p7, p8⟩ := lay9 L0.out
  clear h hK
  go_enter Try.func26, Try.ntmps26
  go_wp2_with fail
  refine (markRuleS_any X.al (m) _ V.a1 V.c1 K.b1 K.s1 (by omega) (by omega) hl.1 R0.out.al).mono ?_
  rintro e w1 ⟨rfl, hR, hO⟩
  have Z1 := Lib.hid (Nat.lt_of_lt_of_le Z0.out hO.size)
  have L1 := Lib.hid (L0.out.blk (hO.block w.heap.size Z0.out (fun e => Nat.lt_irrefl _ (HK.out.lt1 _ e))))
  have O1 := Lib.hid (O0.out.trans (hO.mono (D := fun k => k ∈ K.all) fun k hk => by simp [CfB.all, hk]) fun k hk => Or.inl (Or.inl hk))
  have R1 : Hid (CfRows w1 (⟨X.ha, X.hb, (mkRuL X.al (m)), X.rm, X.uw, X.at_, X.dp, X.cm, X.da⟩ : Cf) V K) := Lib.hid ⟨hR, R0.out.rm.same hO.size (fun k hk => hO.block k (Nat.lt_trans (HK.out.lt2 k hk) Z0.out) (fun e => HK.out.d12 k e hk)), R0.out.uw.same hO.size (fun k hk => hO.block k (Nat.lt_trans (HK.out.lt3 k hk) Z0.out) (fun e => HK.out.d13 k e hk)), R0.out.at_.same (fun k hk => hO.block k (Nat.lt_trans (HK.out.lt4 k hk) Z0.out) (fun e => HK.out.d14 k e hk)), R0.out.dp.same (fun k hk => hO.block k (Nat.lt_trans (HK.out.lt5 k hk) Z0.out) (fun e => HK.out.d15 k e hk))⟩
  clear hR hO p0 p1 p2 p3 p4 p5 p6 p7 p8
  obtain ⟨p0, p1, p2, p3, p4, p5, p6, p7, p8⟩ := lay9 L1.out
  go_wp2_with fail
  try rw [show ((m : Int) + (ruCnt X.al : Int) : Int) = ((m + ruCnt X.al : Nat) : Int) by push_cast; rfl]
  refine (markRuleS_any X.rm (m + ruCnt X.al) _ V.a2 V.c2 K.b2 K.s2 (by omega) (by omega) hl.2.1 R1.out.rm).mono ?_
  rintro e w2 ⟨rfl, hR, hO⟩
  have Z2 := Lib.hid (Nat.lt_of_lt_of_le Z1.out hO.size)
  have L2 := Lib.hid (L1.out.blk (hO.block w.heap.size Z1.out (fun e => Nat.lt_irrefl _ (HK.out.lt2 _ e))))
  have O2 := Lib.hid (O1.out.trans (hO.mono (D := fun k => k ∈ K.all) fun k hk => by simp [CfB.all, hk]) fun k hk => Or.inl (Or.inl hk))
  have R2 : Hid (CfRows w2 (⟨X.ha, X.hb, (mkRuL X.al (m)), (mkRuL X.rm (m + ruCnt X.al)), X.uw, X.at_, X.dp, X.cm, X.da⟩ : Cf) V K) := Lib.hid ⟨R1.out.al.same hO.size (fun k hk => hO.block k (Nat.lt_trans (HK.out.lt1 k hk) Z1.out) (fun e => HK.out.d12 k hk e)), hR, R1.out.uw.same hO.size (fun k hk => hO.block k (Nat.lt_trans (HK.out.lt3 k hk) Z1.out) (fun e => HK.out.d23 k e hk)), R1.out.at_.same (fun k hk => hO.block k (Nat.lt_trans (HK.out.lt4 k hk) Z1.out) (fun e => HK.out.d24 k e hk)), R1.out.dp.same (fun k hk => hO.block k (Nat.lt_trans (HK.out.lt5 k hk) Z1.out) (fun e => HK.out.d25 k e hk))⟩
  clear hR hO p0 p1 p2 p3 p4 p5 p6 p7 p8
  obtain ⟨p0, p1, p2, p3, p4, p5, p6, p7, p8⟩ := lay9 L2.out
  go_wp2_with fail
  try rw [show ((m : Int) + (ruCnt X.al : Int) + (ruCnt X.rm : Int) : Int) = ((m + ruCnt X.al + ruCnt X.rm : Nat) : Int) by push_cast; rfl]
  refine (markRuleS_any X.uw (m + ruCnt X.al + ruCnt X.rm) _ V.a3 V.c3 K.b3 K.s3 (by omega) (by omega) hl.2.2 R2.out.uw).mono ?_
  rintro e w3 ⟨rfl, hR, hO⟩
  have Z3 := Lib.hid (Nat.lt_of_lt_of_le Z2.out hO.size)
  have L3 := Lib.hid (L2.out.blk (hO.block w.heap.size Z2.out (fun e => Nat.lt_irrefl _ (HK.out.lt3 _ e))))
  have O3 := Lib.hid (O2.out.trans (hO.mono (D := fun k => k ∈ K.all) fun k hk => by simp [CfB.all, hk]) fun k hk => Or.inl (Or.inl hk))
  have R3 : Hid (CfRows w3 (⟨X.ha, X.hb, (mkRuL X.al (m)), (mkRuL X.rm (m + ruCnt X.al)), (mkRuL X.uw (m + ruCnt X.al + ruCnt X.rm)), X.at_, X.dp, X.cm, X.da⟩ : Cf) V K) := Lib.hid ⟨R2.out.al.same hO.size (fun k hk => hO.block k (Nat.lt_trans (HK.out.lt1 k hk) Z2.out) (fun e => HK.out.d13 k hk e)), R2.out.rm.same hO.size (fun k hk => hO.block k (Nat.lt_trans (HK.out.lt2 k hk) Z2.out) (fun e => HK.out.d23 k hk e)), hR, R2.out.at_.same (fun k hk => hO.block k (Nat.lt_trans (HK.out.lt4 k hk) Z2.out) (fun e => HK.out.d34 k e hk)), R2.out.dp.same (fun k hk => hO.block k (Nat.lt_trans (HK.out.lt5 k hk) Z2.out) (fun e => HK.out.d35 k e hk))⟩
  clear hR hO p0 p1 p2 p3 p4 p5 p6 p7 p8
  obtain ⟨p0, p1, p2, p3, p4, p5, p6, p7, p8⟩ := lay9 L3.out
  go_wp2_with fail
  try rw [show ((m : Int) + (ruCnt X.al : Int) + (ruCnt X.rm : Int) + (ruCnt X.uw : Int) : Int) = ((m + ruCnt X.al + ruCnt X.rm + ruCnt X.uw : Nat) : Int) by push_cast; rfl]
  refine (markStringS_any X.at_ (m + ruCnt X.al + ruCnt X.rm + ruCnt X.uw) _ V.a4 V.c4 K.s4 (by omega) (by omega) R3.out.at_).mono ?_
  rintro e w4 ⟨rfl, hR, hO⟩
  have Z4 := Lib.hid (Nat.lt_of_lt_of_le Z3.out hO.size)
  have L4 := Lib.hid (L3.out.blk (hO.block w.heap.size Z3.out (fun e => Nat.lt_irrefl _ (HK.out.lt4 _ e))))
  have O4 := Lib.hid (O3.out.trans (hO.mono (D := fun k => k ∈ K.all) fun k hk => by simp [CfB.all, hk]) fun k hk => Or.inl (Or.inl hk))
  have R4 : Hid (CfRows w4 (⟨X.ha, X.hb, (mkRuL X.al (m)), (mkRuL X.rm (m + ruCnt X.al)), (mkRuL X.uw (m + ruCnt X.al + ruCnt X.rm)), (markL X.at_ (m + ruCnt X.al + ruCnt X.rm + ruCnt X.uw)), X.dp, X.cm, X.da⟩ : Cf) V K) := Lib.hid ⟨R3.out.al.same hO.size (fun k hk => hO.block k (Nat.lt_trans (HK.out.lt1 k hk) Z3.out) (fun e => HK.out.d14 k hk e)), R3.out.rm.same hO.size (fun k hk => hO.block k (Nat.lt_trans (HK.out.lt2 k hk) Z3.out) (fun e => HK.out.d24 k hk e)), R3.out.uw.same hO.size (fun k hk => hO.block k (Nat.lt_trans (HK.out.lt3 k hk) Z3.out) (fun e => HK.out.d34 k hk e)), hR, R3.out.dp.same (fun k hk => hO.block k (Nat.lt_trans (HK.out.lt5 k hk) Z3.out) (fun e => HK.out.d45 k e hk))⟩
  clear hR hO p0 p1 p2 p3 p4 p5 p6 p7 p8
  obtain ⟨p0, p1, p2, p3, p4, p5, p6, p7, p8⟩ := lay9 L4.out
  go_wp2_with fail
  try rw [show ((m : Int) + (ruCnt X.al : Int) + (ruCnt X.rm : Int) + (ruCnt X.uw : Int) + (X.at_.length : Int) : Int) = ((m + ruCnt X.al + ruCnt X.rm + ruCnt X.uw + X.at_.length : Nat) : Int) by push_cast; rfl]
  refine (markStringS_any X.dp (m + ruCnt X.al + ruCnt X.rm + ruCnt X.uw + X.at_.length) _ V.a5 V.c5 K.s5 (by omega) (by omega) R4.out.dp).mono ?_
  rintro e w5 ⟨rfl, hR, hO⟩
  have Z5 := Lib.hid (Nat.lt_of_lt_of_le Z4.out hO.size)
  have L5 := Lib.hid (L4.out.blk (hO.block w.heap.size Z4.out (fun e => Nat.lt_irrefl _ (HK.out.lt5 _ e))))
  have O5 := Lib.hid (O4.out.trans (hO.mono (D := fun k => k ∈ K.all) fun k hk => by simp [CfB.all, hk]) fun k hk => Or.inl (Or.inl hk))
  have R5 : Hid (CfRows w5 (⟨X.ha, X.hb, (mkRuL X.al (m)), (mkRuL X.rm (m + ruCnt X.al)), (mkRuL X.uw (m + ruCnt X.al + ruCnt X.rm)), (markL X.at_ (m + ruCnt X.al + ruCnt X.rm + ruCnt X.uw)), (markL X.dp (m + ruCnt X.al + ruCnt X.rm + ruCnt X.uw + X.at_.length)), X.cm, X.da⟩ : Cf) V K) := Lib.hid ⟨R4.out.al.same hO.size (fun k hk => hO.block k (Nat.lt_trans (HK.out.lt1 k hk) Z4.out) (fun e => HK.out.d15 k hk e)), R4.out.rm.same hO.size (fun k hk => hO.block k (Nat.lt_trans (HK.out.lt2 k hk) Z4.out) (fun e => HK.out.d25 k hk e)), R4.out.uw.same hO.size (fun k hk => hO.block k (Nat.lt_trans (HK.out.lt3 k hk) Z4.out) (fun e => HK.out.d35 k hk e)), R4.out.at_.same (fun k hk => hO.block k (Nat.lt_trans (HK.out.lt4 k hk) Z4.out) (fun e => HK.out.d45 k hk e)), hR⟩
  clear hR hO p0 p1 p2 p3 p4 p5 p6 p7 p8
  obtain ⟨p0, p1, p2, p3, p4, p5, p6, p7, p8⟩ := lay9 L5.out
  go_wp2
  go_ret
  exact ⟨ret_int (by rw [hcn]; push_cast; omega), R5.out, O5.out⟩

set_option maxHeartbeats 4000000 in
theorem heldConfig_any (X : Cf) (V : CfV) (K : CfB) (m : Nat) (w : World) (h1 : 1 ≤ m) (h2 : m + cfCnt X ≤ 1073741824) (hl : X.al.length ≤ 1048576 ∧ X.rm.length ≤ 1048576 ∧ X.uw.length ≤ 1048576) (h : CfRows w (markCf X m) V K) (hK : K.Apart w.heap.size) :
    Calls Try.prog 27 #[.agg #[.bool X.ha, .bool X.hb, .slice V.a1 X.al.length V.c1, .slice V.a2 X.rm.length V.c2, .slice V.a3 X.uw.length V.c3, .slice V.a4 X.at_.length V.c4, .slice V.a5 X.dp.length V.c5, .bool X.cm, .bool X.da], .int .i64 (m : Int)] w fun e w' => e = .returned (.int .i64 ((m + cfCnt X : Nat) : Int)) ∧ Below w.heap.size w w' := by
  have hcn : cfCnt X = ruCnt X.al + ruCnt X.rm + ruCnt X.uw + X.at_.length + X.dp.length := rfl
  have L0 := Lib.hid (Lay.new w #[.bool X.ha, .bool X.hb, .slice V.a1 X.al.length V.c1, .slice V.a2 X.rm.length V.c2, .slice V.a3 X.uw.length V.c3, .slice V.a4 X.at_.length V.c4, .slice V.a5 X.dp.length V.c5, .bool X.cm, .bool X.da] 34)
  have HK := Lib.hid (show ∀ k ∈ K.all, k < w.heap.size from fun k hk => by
    simp only [CfB.all, List.mem_append] at hk
    rcases hk with (((hk | hk) | hk) | hk) | hk
    · exact hK.lt1 k hk
    · exact hK.lt2 k hk
    · exact hK.lt3 k hk
    · exact hK.lt4 k hk
    · exact hK.lt5 k hk)
  have B0 : Hid (Below w.heap.size w (w.alloc (.cells #[.bool X.ha, .bool X.hb, .slice V.a1 X.al.length V.c1, .slice V.a2 X.rm.length V.c2, .slice V.a3 X.uw.length V.c3, .slice V.a4 X.at_.length V.c4, .slice V.a5 X.dp.length V.c5, .bool X.cm, .bool X.da] 34))) := Lib.hid ((Below.refl _ w).alloc (Nat.le_refl _) _)
  have Z0 : Hid (w.heap.size < (w.alloc (.cells #[.bool X.ha, .bool X.hb, .slice V.a1 X.al.length V.c1, .slice V.a2 X.rm.length V.c2, .slice V.a3 X.uw.length V.c3, .slice V.a4 X.at_.length V.c4, .slice V.a5 X.dp.length V.c5, .bool X.cm, .bool X.da] 34)).heap.size) := Lib.hid (by simp)
  have R0 := Lib.hid (h.same B0.out.size (fun k hk => B0.out.block k (HK.out k hk)))
  obtain ⟨p0, p1, p2, p3, p4, p5, p6, p7, p8⟩ := lay9 L0.out
  clear h hK
  go_enter Try.func27, Try.ntmps27
  go_wp2_with fail
  refine (heldRuleS_any X.al (m) _ V.a1 V.c1 K.b1 K.s1 (by omega) (by omega) hl.1 R0.out.al).mono ?_
  rintro e w1 ⟨rfl, hB⟩
  have Z1 := Lib.hid (Nat.lt_of_lt_of_le Z0.out hB.size)
  have L1 := Lib.hid (L0.out.below hB Z0.out)
  have R1 := Lib.hid (R0.out.same hB.size (fun k hk => hB.block k (Nat.lt_trans (HK.out k hk) Z0.out)))
  have B1 := Lib.hid (B0.out.trans (hB.mono (Nat.le_of_lt Z0.out)))
  clear hB p0 p1 p2 p3 p4 p5 p6 p7 p8
  obtain ⟨p0, p1, p2, p3, p4, p5, p6, p7, p8⟩ := lay9 L1.out
  go_wp2_with fail
  try rw [show ((m : Int) + (ruCnt X.al : Int) : Int) = ((m + ruCnt X.al : Nat) : Int) by push_cast; rfl]
  refine (heldRuleS_any X.rm (m + ruCnt X.al) _ V.a2 V.c2 K.b2 K.s2 (by omega) (by omega) hl.2.1 R1.out.rm).mono ?_
  rintro e w2 ⟨rfl, hB⟩
  have Z2 := Lib.hid (Nat.lt_of_lt_of_le Z1.out hB.size)
  have L2 := Lib.hid (L1.out.below hB Z1.out)
  have R2 := Lib.hid (R1.out.same hB.size (fun k hk => hB.block k (Nat.lt_trans (HK.out k hk) Z1.out)))
  have B2 := Lib.hid (B1.out.trans (hB.mono (Nat.le_of_lt Z1.out)))
  clear hB p0 p1 p2 p3 p4 p5 p6 p7 p8
  obtain ⟨p0, p1, p2, p3, p4, p5, p6, p7, p8⟩ := lay9 L2.out
  go_wp2_with fail
  try rw [show ((m : Int) + (ruCnt X.al : Int) + (ruCnt X.rm : Int) : Int) = ((m + ruCnt X.al + ruCnt X.rm : Nat) : Int) by push_cast; rfl]
  refine (heldRuleS_any X.uw (m + ruCnt X.al + ruCnt X.rm) _ V.a3 V.c3 K.b3 K.s3 (by omega) (by omega) hl.2.2 R2.out.uw).mono ?_
  rintro e w3 ⟨rfl, hB⟩
  have Z3 := Lib.hid (Nat.lt_of_lt_of_le Z2.out hB.size)
  have L3 := Lib.hid (L2.out.below hB Z2.out)
  have R3 := Lib.hid (R2.out.same hB.size (fun k hk => hB.block k (Nat.lt_trans (HK.out k hk) Z2.out)))
  have B3 := Lib.hid (B2.out.trans (hB.mono (Nat.le_of_lt Z2.out)))
  clear hB p0 p1 p2 p3 p4 p5 p6 p7 p8
  obtain ⟨p0, p1, p2, p3, p4, p5, p6, p7, p8⟩ := lay9 L3.out
  go_wp2_with fail
  try rw [show ((m : Int) + (ruCnt X.al : Int) + (ruCnt X.rm : Int) + (ruCnt X.uw : Int) : Int) = ((m + ruCnt X.al + ruCnt X.rm + ruCnt X.uw : Nat) : Int) by push_cast; rfl]
  refine (heldStringS_any X.at_ (m + ruCnt X.al + ruCnt X.rm + ruCnt X.uw) _ V.a4 V.c4 K.s4 (by omega) (by omega) R3.out.at_).mono ?_
  rintro e w4 ⟨rfl, hB⟩
  have Z4 := Lib.hid (Nat.lt_of_lt_of_le Z3.out hB.size)
  have L4 := Lib.hid (L3.out.below hB Z3.out)
  have R4 := Lib.hid (R3.out.same hB.size (fun k hk => hB.block k (Nat.lt_trans (HK.out k hk) Z3.out)))
  have B4 := Lib.hid (B3.out.trans (hB.mono (Nat.le_of_lt Z3.out)))
  clear hB p0 p1 p2 p3 p4 p5 p6 p7 p8
  obtain ⟨p0, p1, p2, p3, p4, p5, p6, p7, p8⟩ := lay9 L4.out
  go_wp2_with fail
  try rw [show ((m : Int) + (ruCnt X.al : Int) + (ruCnt X.rm : Int) + (ruCnt X.uw : Int) + (X.at_.length : Int) : Int) = ((m + ruCnt X.al + ruCnt X.rm + ruCnt X.uw + X.at_.length : Nat) : Int) by push_cast; rfl]
  refine (heldStringS_any X.dp (m + ruCnt X.al + ruCnt X.rm + ruCnt X.uw + X.at_.length) _ V.a5 V.c5 K.s5 (by omega) (by omega) R4.out.dp).mono ?_
  rintro e w5 ⟨rfl, hB⟩
  have Z5 := Lib.hid (Nat.lt_of_lt_of_le Z4.out hB.size)
  have L5 := Lib.hid (L4.out.below hB Z4.out)
  have R5 := Lib.hid (R4.out.same hB.size (fun k hk => hB.block k (Nat.lt_trans (HK.out k hk) Z4.out)))
  have B5 := Lib.hid (B4.out.trans (hB.mono (Nat.le_of_lt Z4.out)))
  clear hB p0 p1 p2 p3 p4 p5 p6 p7 p8
  obtain ⟨p0, p1, p2, p3, p4, p5, p6, p7, p8⟩ := lay9 L5.out
  go_wp2
  go_ret
  exact ⟨ret_int (by rw [hcn]; push_cast; omega), B5.out⟩
end Go.Proofs.Ytbcbmgeoaejlmaa
