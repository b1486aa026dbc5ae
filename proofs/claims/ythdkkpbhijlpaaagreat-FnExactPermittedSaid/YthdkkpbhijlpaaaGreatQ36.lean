import Derived.Deep.QuietTactic
import Derived.BigQuiet
import Derived.Laws.StructEq
import Derived.Test.YthdkkpbhijlpaaaGreatQ35
import Derived.Test.YthdkkpbhijlpaaaGreatQ12
import Derived.Test.YthdkkpbhijlpaaaGreatQ27
set_option linter.unusedVariables false
namespace Go.Proofs.YthdkkpbhijlpaaaGreat
open Go.ChangeShapes Go.WideShapes Go.ChangeAt Go.RowKit Go.Deep

set_option maxHeartbeats 2000000 in
theorem sieveBy_any (X : Cf) (V : CfV) (w : World) :
    Calls Tryz.prog 40 #[.agg #[.bool X.ha, .bool X.hb, .slice V.a1 X.al.length V.c1, .slice V.a2 X.rm.length V.c2, .slice V.a3 X.uw.length V.c3, .slice V.a4 X.at_.length V.c4, .slice V.a5 X.dp.length V.c5, .bool X.cm, .bool X.da]] w fun e w' => e = .returned (.func (.func 83) #[] #[.pointer (some ⟨w.heap.size, 0, none⟩), .pointer (some ⟨w.heap.size + 1, 0, none⟩)]) ∧ Below w.heap.size w w' ∧ w.heap.size + 1 < w'.heap.size ∧ Lay w' w.heap.size #[.bool X.ha, .bool X.hb, .slice V.a1 X.al.length V.c1, .slice V.a2 X.rm.length V.c2, .slice V.a3 X.uw.length V.c3, .slice V.a4 X.at_.length V.c4, .slice V.a5 X.dp.length V.c5, .bool X.cm, .bool X.da] ∧ w'.cell? ⟨w.heap.size + 1, 0, none⟩ = some (.func (.func 83) #[] #[.pointer (some ⟨w.heap.size, 0, none⟩), .pointer (some ⟨w.heap.size + 1, 0, none⟩)]) := by
  have LC := Lib.hid (Lay.new w #[.bool X.ha, .bool X.hb, .slice V.a1 X.al.length V.c1, .slice V.a2 X.rm.length V.c2, .slice V.a3 X.uw.length V.c3, .slice V.a4 X.at_.length V.c4, .slice V.a5 X.dp.length V.c5, .bool X.cm, .bool X.da] 35)
  have hs1 : (w.alloc (.cells #[.bool X.ha, .bool X.hb, .slice V.a1 X.al.length V.c1, .slice V.a2 X.rm.length V.c2, .slice V.a3 X.uw.length V.c3, .slice V.a4 X.at_.length V.c4, .slice V.a5 X.dp.length V.c5, .bool X.cm, .bool X.da] 35)).heap.size = w.heap.size + 1 := by simp
  go_enter Tryz.func40, Tryz.ntmps40
  go_wp2
  go_ret
  refine ⟨rfl, by go_grown, by simp, ?_, ?_⟩
  · exact LC.out.below ((Below.refl _ _).alloc (Nat.le_refl _) _) (by simp)
  · rw [← hs1]
    exact World.cell?_alloc_new _ _ _ _
set_option maxHeartbeats 2000000 in
set_option maxRecDepth 100000 in
theorem implSanitize_any (X : Cf) (V : CfV) (F : Fo) (w : World) (A : Option Addr) (c b o lo hi : Nat) (h : CfIn w X V) (hmx : MaxAt w) (hd : F.nodes ≤ 1048576) (hh : hi ≤ w.heap.size) (hA : RowAt lo hi A F.len b o) (hF : FoAt w lo hi b o F) :
    Calls Tryz.prog 13 #[.slice A F.len c, .agg #[.bool X.ha, .bool X.hb, .slice V.a1 X.al.length V.c1, .slice V.a2 X.rm.length V.c2, .slice V.a3 X.uw.length V.c3, .slice V.a4 X.at_.length V.c4, .slice V.a5 X.dp.length V.c5, .bool X.cm, .bool X.da]] w fun e w' => ∃ v bl, e = .returned (.tuple #[v, .int .i64 (sanC X F)]) ∧ GRow w' w.heap.size v (sanO X F) bl ∧ Below w.heap.size w w' := by
  have HA := Lib.hid hA
  have HC := Lib.hid h
  have HMX := Lib.hid hmx
  have B0 : Hid (Below w.heap.size w (w.alloc (.cells #[.bool X.ha, .bool X.hb, .slice V.a1 X.al.length V.c1, .slice V.a2 X.rm.length V.c2, .slice V.a3 X.uw.length V.c3, .slice V.a4 X.at_.length V.c4, .slice V.a5 X.dp.length V.c5, .bool X.cm, .bool X.da] 35))) := Lib.hid ((Below.refl _ _).alloc (Nat.le_refl _) _)
  have HX : Hid (Lay (w.alloc (.cells #[.bool X.ha, .bool X.hb, .slice V.a1 X.al.length V.c1, .slice V.a2 X.rm.length V.c2, .slice V.a3 X.uw.length V.c3, .slice V.a4 X.at_.length V.c4, .slice V.a5 X.dp.length V.c5, .bool X.cm, .bool X.da] 35)) w.heap.size #[.bool X.ha, .bool X.hb, .slice V.a1 X.al.length V.c1, .slice V.a2 X.rm.length V.c2, .slice V.a3 X.uw.length V.c3, .slice V.a4 X.at_.length V.c4, .slice V.a5 X.dp.length V.c5, .bool X.cm, .bool X.da]) := Lib.hid (Lay.new w #[.bool X.ha, .bool X.hb, .slice V.a1 X.al.length V.c1, .slice V.a2 X.rm.length V.c2, .slice V.a3 X.uw.length V.c3, .slice V.a4 X.at_.length V.c4, .slice V.a5 X.dp.length V.c5, .bool X.cm, .bool X.da] 35)
  have HF := Lib.hid hF
  obtain ⟨p0, p1, p2, p3, p4, p5, p6, p7, p8⟩ := lay9 HX.out
  clear h hA hF hmx
  by_cases hk : faultOf F = 0
  · have HK := Lib.hid hk
    have HG := Lib.hid (fine_good hk)
    by_cases hc : checkOf X = 0
    · have HCK := Lib.hid hc
      have HS : Hid (sanC X F = 0) := Lib.hid (by unfold sanC; rw [if_pos hk, hc])
      have HO : Hid (sanO X F = F.san X) := Lib.hid (by unfold sanO; rw [if_pos HS.out])
      have HRL := Lib.hid (cfOK_lists (checkOf_ok hc))
      have eg : ∀ args w, (callFunc 83 args).run Tryz.prog w = .ok (.enter 83 args) w := fun args w => by kernel_rfl
      clear hk hc
      go_enter Tryz.func13, Tryz.ntmps13
      go_wp2_with (first
        | (go_at_call 38; refine (treeFault_any F _ A c b o lo hi hd (Nat.le_trans hh B0.out.size) HA.out (FoAt.below HA.out HF.out B0.out hh)).mono ?_; rintro e w1 ⟨rfl, hB⟩; rw [HK.out]; have B1 := Lib.hid (B0.out.trans (hB.mono B0.out.size)); have X1 := Lib.hid (HX.out.below hB (by simp)); clear p0 p1 p2 p3 p4 p5 p6 p7 p8; obtain ⟨p0, p1, p2, p3, p4, p5, p6, p7, p8⟩ := lay9 X1.out; clear hB)
        | (go_at_call 39; refine (implCheck_any X V _ (HC.out.next B1.out)).mono ?_; rintro e w2 ⟨rfl, hB⟩; rw [HCK.out]; have B2 := Lib.hid (B1.out.trans (hB.mono B1.out.size)); have X2 := Lib.hid (X1.out.below hB (World.block_lt_of_cell? _ ⟨w.heap.size, 0, none⟩ p0)); clear p0 p1 p2 p3 p4 p5 p6 p7 p8; obtain ⟨p0, p1, p2, p3, p4, p5, p6, p7, p8⟩ := lay9 X2.out; clear hB)
        | (go_at_call 40; refine (sieveBy_any X V _).mono ?_; rintro e w3 ⟨rfl, hB, hs3, hl3, hc3⟩; have B3 := Lib.hid (B2.out.trans (hB.mono B2.out.size)); have H3 := Lib.hid (And.intro hs3 (And.intro hl3 hc3)); clear hB hs3 hl3 hc3)
        | (go_at_fn 83; refine (leave_lt X V HRL.out.1 HRL.out.2.1 HRL.out.2.2 (F.nodes + 1) F (Nat.lt_succ_self _) w3 A c b o lo hi _ _ HG.out.1 HG.out.2 ⟨Nat.lt_of_succ_lt H3.out.1, H3.out.1, H3.out.2.1, H3.out.2.2, HC.out.next B3.out, HMX.out.below B3.out⟩ HA.out (Nat.le_trans hh B3.out.size) (FoAt.below HA.out HF.out B3.out hh)).mono ?_; rintro e w4 ⟨v, bl, rfl, hB, hG⟩; have H4 := Lib.hid (And.intro hG (B3.out.trans (hB.mono B3.out.size))); clear hB hG))
      go_ret2
      exact ⟨v, bl, by rw [HS.out]; rfl, by rw [HO.out]; exact H4.out.1.low B3.out.size, H4.out.2⟩
    · have HS : Hid (sanC X F = checkOf X) := Lib.hid (by unfold sanC; rw [if_pos hk])
      have HO : Hid (sanO X F = .nil) := Lib.hid (by unfold sanO; rw [if_neg (by rw [HS.out]; exact hc)])
      have hc' : (checkOf X != 0) = true := by simpa using hc
      have HCC := Lib.hid (fun W (hW : Below w.heap.size w W) => implCheck_any X V W (HC.out.next hW))
      generalize checkOf X = C at HS hc' HCC
      clear hk hc
      go_enter Tryz.func13, Tryz.ntmps13
      go_wp2_with (first
        | (go_at_call 38; refine (treeFault_any F _ A c b o lo hi hd (Nat.le_trans hh B0.out.size) HA.out (FoAt.below HA.out HF.out B0.out hh)).mono ?_; rintro e w1 ⟨rfl, hB⟩; rw [HK.out]; have B1 := Lib.hid (B0.out.trans (hB.mono B0.out.size)); have X1 := Lib.hid (HX.out.below hB (by simp)); clear p0 p1 p2 p3 p4 p5 p6 p7 p8; obtain ⟨p0, p1, p2, p3, p4, p5, p6, p7, p8⟩ := lay9 X1.out; clear hB)
        | (go_at_call 39; refine (HCC.out _ B1.out).mono ?_; rintro e w2 ⟨rfl, hB⟩; have B2 := Lib.hid (B1.out.trans (hB.mono B1.out.size)); clear hB))
      go_ret2
      exact ⟨_, [], by rw [HS.out]; rfl, by rw [HO.out]; exact GRow.nil _ _, B2.out⟩
  · have HS : Hid (sanC X F = faultOf F) := Lib.hid (by unfold sanC; rw [if_neg hk])
    have HO : Hid (sanO X F = .nil) := Lib.hid (by unfold sanO; rw [if_neg (by rw [HS.out]; exact hk)])
    have hk' : (faultOf F != 0) = true := by simpa using hk
    have HTF := Lib.hid (fun W (hW : Below w.heap.size w W) => treeFault_any F W A c b o lo hi hd (Nat.le_trans hh hW.size) HA.out (FoAt.below HA.out HF.out hW hh))
    generalize faultOf F = C at HS hk' HTF
    clear hk
    go_enter Tryz.func13, Tryz.ntmps13
    go_wp2_with (go_at_call 38; refine (HTF.out _ B0.out).mono ?_; rintro e w1 ⟨rfl, hB⟩; have B1 := Lib.hid (B0.out.trans (hB.mono B0.out.size)); clear hB)
    go_ret2
    exact ⟨_, [], by rw [HS.out]; rfl, by rw [HO.out]; exact GRow.nil _ _, B1.out⟩
end Go.Proofs.YthdkkpbhijlpaaaGreat
namespace Go.Proofs.YthdkkpbhijlpaaaGreat
open Go.ChangeShapes Go.WideShapes Go.ChangeAt Go.RowKit Go.Deep

def attrEq (x y : ByteArray × ByteArray) : Bool := (x.1.toList == y.1.toList) && (x.2.toList == y.2.toList)
def alEq : List (ByteArray × ByteArray) → List (ByteArray × ByteArray) → Bool
  | [], [] => true
  | x :: r, y :: s => attrEq x y && alEq r s
  | _, _ => false
def foEq : Fo → Fo → Bool
  | .nil, .nil => true
  | .cons k sp n t al kids r, .cons k' sp' n' t' al' kids' r' => (k == k') && (sp == sp') && (n.toList == n'.toList) && (t.toList == t'.toList) && alEq al al' && foEq kids kids' && foEq r r'
  | _, _ => false
theorem attrEq_iff (x y : ByteArray × ByteArray) : attrEq x y = true ↔ x = y := by
  obtain ⟨a, b⟩ := x
  obtain ⟨c, d⟩ := y
  simp only [attrEq, Bool.and_eq_true, beq_iff_eq, Prod.mk.injEq]
  exact ⟨fun ⟨h1, h2⟩ => ⟨str_ext h1, str_ext h2⟩, fun ⟨h1, h2⟩ => ⟨by rw [h1], by rw [h2]⟩⟩
theorem alEq_iff : ∀ a b : List (ByteArray × ByteArray), alEq a b = true ↔ a = b
  | [], [] => by simp [alEq]
  | x :: r, y :: s => by simp only [alEq, Bool.and_eq_true, attrEq_iff, alEq_iff r s, List.cons.injEq]
  | [], _ :: _ => by simp [alEq]
  | _ :: _, [] => by simp [alEq]
theorem foEq_iff : ∀ F G : Fo, foEq F G = true ↔ F = G
  | .nil, .nil => by simp [foEq]
  | .cons k sp n t al kids r, .cons k' sp' n' t' al' kids' r' => by
    simp only [foEq, Bool.and_eq_true, beq_iff_eq, alEq_iff, foEq_iff kids kids', foEq_iff r r', Fo.cons.injEq]
    constructor
    · rintro ⟨⟨⟨⟨⟨⟨a, b⟩, c⟩, d⟩, e⟩, f⟩, g⟩; exact ⟨a, b, str_ext c, str_ext d, e, f, g⟩
    · rintro ⟨a, b, c, d, e, f, g⟩; exact ⟨⟨⟨⟨⟨⟨a, b⟩, by rw [c]⟩, by rw [d]⟩, e⟩, f⟩, g⟩
  | .nil, .cons _ _ _ _ _ _ _ => by simp [foEq]
  | .cons _ _ _ _ _ _ _, .nil => by simp [foEq]
theorem alEq_len {a b : List (ByteArray × ByteArray)} (h : ¬ a.length = b.length) : alEq a b = false := by
  rw [← Bool.not_eq_true, alEq_iff]; rintro rfl; exact h rfl
theorem foEq_len {F G : Fo} (h : ¬ F.len = G.len) : foEq F G = false := by
  rw [← Bool.not_eq_true, foEq_iff]; rintro rfl; exact h rfl
theorem neq_attr (x y : ByteArray × ByteArray) (w : World) : (binOp .neq 121 (.agg #[.string x.1, .string x.2]) (.agg #[.string y.1, .string y.2])).run Tryz.prog w = .ok (.bool (!attrEq x y)) w := by
  have hS : Tryz.prog.underlying 121 = some (.struct (Tryz.prog.fieldsOf 121)) := by kernel_rfl
  have hp : Tryz.prog.stoodInHeld 121 = false := by kernel_rfl
  obtain ⟨a, b⟩ := x
  obtain ⟨c, d⟩ := y
  have u9 := Tryz.underlying9
  simp only [attrEq]
  rw [run_neq_struct, show (10000 : Nat) = 9999 + 1 from rfl, run_equalIn_agg w 9999 121 _ _ hS hp]
  simp only [Program.fieldsOf, Tryz.underlying121]
  clear hS hp
  go_simp
  by_cases h1 : a.toList = c.toList <;> by_cases h2 : b.toList = d.toList <;> simp [h1, h2]
theorem l03SameAttrs_any (al al' : List (ByteArray × ByteArray)) (w : World) (A A' : Option Addr) (c c' b b' o o' lo hi lo' hi' : Nat) (hA : RowAt lo hi A al.length b o) (hA' : RowAt lo' hi' A' al'.length b' o') (hh : hi ≤ w.heap.size) (hh' : hi' ≤ w.heap.size)
    (hal : AsAt w b o al) (hal' : AsAt w b' o' al') :
    Calls Tryz.prog 100 #[.slice A al.length c, .slice A' al'.length c'] w fun e w' => e = .returned (.bool (alEq al al')) ∧ Below w.heap.size w w' := by
  have hlen := hA.1
  have hlen' := hA'.1
  unfold maxLen at hlen hlen'
  have HA := Lib.hid hA
  have HS := Lib.hid hal
  have HA' := Lib.hid hA'
  have HS' := Lib.hid hal'
  clear hA hal hA' hal'
  by_cases hl : al.length = al'.length
  · have HL := Lib.hid hl
    have hl2 : ((al.length : Int) != (al'.length : Int)) = false := by simp; omega
    clear hl
    go_enter Tryz.func100, Tryz.ntmps100
    go_wp2
    go_loopw [5] (fun i wr => ∃ (k : Nat) (suf suf' : List (ByteArray × ByteArray)), i = .int .i64 (k : Int) ∧ k + suf.length = al.length ∧ Hid (AsAt w b (o + k * 2) suf ∧ AsAt w b' (o' + k * 2) suf' ∧ suf.length = suf'.length ∧ alEq al al' = alEq suf suf' ∧ Below w.heap.size w wr)) (fun i wr => al.length - (intOf i).toNat)
    case atStart => exact ⟨0, al, al', rfl, by omega, Lib.hid ⟨by simpa using HS.out, by simpa using HS'.out, HL.out, rfl, Below.refl _ _⟩⟩
    case round =>
      obtain ⟨k, suf, suf', rfl, hk, HH⟩ := hrel
      cases suf with
      | nil =>
        cases suf' with
        | cons _ _ => have := HH.out.2.2.1; simp at this
        | nil =>
          have hkl : k = al.length := by simpa using hk
          clear hk
          subst hkl
          go_wp2
          go_ret
          exact ⟨by rw [HH.out.2.2.2.1]; rfl, HH.out.2.2.2.2⟩
      | cons x r =>
        cases suf' with
        | nil => have := HH.out.2.2.1; simp at this
        | cons y s =>
          obtain ⟨⟨s1, s2, s3, s4, s5⟩, ⟨s1', s2', s3', s4', s5'⟩, hls, he, hB⟩ := HH.out
          have hkl : k < al.length := by simp at hk; omega
          have hkl' : k < al'.length := by have := HL.out; omega
          obtain ⟨rfl, hlo, hhi⟩ := HA.out.2 (by omega)
          obtain ⟨rfl, hlo', hhi'⟩ := HA'.out.2 (by omega)
          have t1 := (hB.cell (p := ⟨b, o + k * 2, none⟩) (by show b < _; omega)).trans s1
          have t2 := (hB.cell (p := ⟨b, o + k * 2 + 1, none⟩) (by show b < _; omega)).trans s2
          have t1' := (hB.cell (p := ⟨b', o' + k * 2, none⟩) (by show b' < _; omega)).trans s1'
          have t2' := (hB.cell (p := ⟨b', o' + k * 2 + 1, none⟩) (by show b' < _; omega)).trans s2'
          have H5 := Lib.hid (And.intro s5 s5')
          have HB := Lib.hid hB
          have HE := Lib.hid (And.intro hls he)
          simp at hk
          have hnq := neq_attr x y
          clear HH s1 s2 s5 s1' s2' s5' hB hls he
          have hl3 : (k : Int) < (al'.length : Int) := by omega
          cases hq : attrEq x y with
          | true =>
            rw [hq] at hnq
            have HQ := Lib.hid hq
            clear hq
            go_wp2
            go_quiet (fail)
            go_wp2
            go_roundw
            case rel => exact ⟨k + 1, r, s, by go_num, by omega, Lib.hid ⟨by rw [show o + (k + 1) * 2 = o + k * 2 + 2 by omega]; exact H5.out.1, by rw [show o' + (k + 1) * 2 = o' + k * 2 + 2 by omega]; exact H5.out.2, by have := HE.out.1; simpa using this, by rw [HE.out.2, alEq, HQ.out]; rfl, below_drewN HB.out _⟩⟩
            case measure => simp [intOf]; omega
          | false =>
            rw [hq] at hnq
            have HQ := Lib.hid hq
            clear hq
            go_wp2
            go_quiet (fail)
            go_wp2
            go_ret
            exact ⟨by rw [HE.out.2, alEq, HQ.out]; rfl, below_drewN HB.out _⟩
  · have HL := Lib.hid hl
    have hl2 : ((al.length : Int) != (al'.length : Int)) = true := by simp; omega
    clear hl
    go_enter Tryz.func100, Tryz.ntmps100
    go_wp2
    go_ret
    exact ⟨by rw [alEq_len HL.out]; rfl, Below.refl _ _⟩
end Go.Proofs.YthdkkpbhijlpaaaGreat
