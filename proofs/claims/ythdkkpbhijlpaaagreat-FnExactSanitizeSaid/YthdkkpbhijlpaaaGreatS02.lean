import Derived.Deep.OwnRows
import Derived.Handy
import Derived.Laws.IdiomCopy
import Derived.Test.YthdkkpbhijlpaaaGreatRows
import Derived.WalkKit
import Derived.ProofKit
import Derived.OpenShut
import Derived.ShutString
import Derived.BigQuiet
import Derived.Deep.QuietTactic
import Derived.Outline
import Derived.Test.YthdkkpbhijlpaaaGreatS01
set_option linter.unusedVariables false
namespace Go.Proofs.YthdkkpbhijlpaaaGreat
open Go.ChangeShapes Go.WideShapes Go.ChangeAt Go.RowKit Go.Deep

/-- a row of n cells that may be written -/
def Room (w : World) (g n : Nat) : Prop := ∀ j, j < n → (∃ v, w.cell? ⟨g, j, none⟩ = some v) ∧ w.frozen? ⟨g, j, none⟩ = false
theorem Room.below {w w' : World} {g n B : Nat} (h : Room w g n) (hB : Below B w w') (hg : g < B) : Room w' g n := fun j hj => by
  obtain ⟨⟨v, hv⟩, hf⟩ := h j hj
  exact ⟨⟨v, (hB.cell (p := ⟨g, j, none⟩) hg).trans hv⟩, (hB.frozen (p := ⟨g, j, none⟩) hg).trans hf⟩
theorem room_made (w : World) (z : Array Value) (n : Nat) (e : TypeId) : Room (w.alloc (.cells (madeCells z n) e)) w.heap.size n := fun j hj => by
  have h1 : (madeCells z n).size = n := size_madeCells _ _
  refine ⟨⟨(madeCells z n)[j]'(by omega), ?_⟩, ?_⟩
  · rw [World.cell?_alloc_new]; exact Array.getElem?_eq_getElem _
  · simp
theorem Room.set {w : World} {g n : Nat} (h : Room w g n) (i : Nat) (v : Value) : Room (w.setCell ⟨g, i, none⟩ v) g n := fun j hj => by
  obtain ⟨⟨u, hu⟩, hf⟩ := h j hj
  refine ⟨?_, by simpa using hf⟩
  by_cases e : j = i
  · subst e; exact ⟨v, World.cell?_setCell_same _ _ _ hu⟩
  · exact ⟨u, by rw [World.cell?_setCell_other (h := by simp <;> omega)]; exact hu⟩
theorem AsAt.carryr {w w' : World} {b : Nat} : ∀ {al : List (ByteArray × ByteArray)} {o : Nat}, AsAt w b o al → (∀ j, j < 2 * al.length → w'.cell? ⟨b, o + j, none⟩ = w.cell? ⟨b, o + j, none⟩) → AsAt w' b o al
  | [], _, _, _ => trivial
  | x :: r, o, ⟨h1, h2, h3, h4, h5⟩, hs => ⟨(hs 0 (by simp)).trans h1, (hs 1 (by simp <;> omega)).trans h2, h3, h4, AsAt.carryr h5 fun j hj => by
      have := hs (2 + j) (by simp <;> omega)
      rwa [← Nat.add_assoc] at this⟩
theorem make_nodes (n : Nat) (hn : n ≤ 1048576) (w : World) : (Instr.makeSlice 29 (.int .i64 (n : Int)) (.int .i64 (n : Int))).run Tryz.prog w = .ok (.slice (some ⟨w.heap.size, 0, none⟩) n n)
    (w.alloc (.cells (madeCells #[.int .i64 0, .int .i64 0, .string ⟨#[]⟩, .string ⟨#[]⟩, .slice none 0 0, .slice none 0 0] (n * 6)) 71)) := by
  have hinfo : (Tryz.prog.info? 71).map (fun i => (i.zero, i.size, i.bytes)) = some (some (.agg #[.int .i64 0, .int .i64 0, .string ⟨#[]⟩, .string ⟨#[]⟩, .slice none 0 0, .slice none 0 0]), 6, 96) := by kernel_rfl
  obtain ⟨i, hi, hzz⟩ := Option.map_eq_some_iff.1 hinfo
  simp only [Prod.mk.injEq] at hzz
  obtain ⟨hz, hs, hb⟩ := hzz
  have := run_make (P := Tryz.prog) w 29 71 i _ Tryz.underlying29 hi hz .i64 .i64 n n (by omega) (Int.le_refl _) (by rw [hb]; omega) (by omega)
  simp only [Int.toNat_natCast, hs] at this
  exact this
theorem make_attrs (n : Nat) (hn : n ≤ 1048576) (w : World) : (Instr.makeSlice 69 (.int .i64 (n : Int)) (.int .i64 (n : Int))).run Tryz.prog w = .ok (.slice (some ⟨w.heap.size, 0, none⟩) n n) (w.alloc (.cells (madeCells #[.string ⟨#[]⟩, .string ⟨#[]⟩] (n * 2)) 121)) := by
  have hinfo : (Tryz.prog.info? 121).map (fun i => (i.zero, i.size, i.bytes)) = some (some (.agg #[.string ⟨#[]⟩, .string ⟨#[]⟩]), 2, 32) := by kernel_rfl
  obtain ⟨i, hi, hzz⟩ := Option.map_eq_some_iff.1 hinfo
  simp only [Prod.mk.injEq] at hzz
  obtain ⟨hz, hs, hb⟩ := hzz
  have := run_make (P := Tryz.prog) w 69 121 i _ Tryz.underlying69 hi hz .i64 .i64 n n (by omega) (Int.le_refl _) (by rw [hb]; omega) (by omega)
  simp only [Int.toNat_natCast, hs] at this
  exact this
theorem toAttr_any (x : ByteArray × ByteArray) (w : World) (h1 : x.1.size ≤ maxLen) (h2 : x.2.size ≤ maxLen) :
    Calls Tryz.prog 121 #[.agg #[.string x.1, .string x.2]] w fun e w' => e = .returned (.agg #[.string x.1, .string x.2]) ∧ Below w.heap.size w w' := by
  obtain ⟨n, v⟩ := x
  simp only at h1 h2 ⊢
  go_enter Tryz.func121, Tryz.ntmps121
  go_wp2
  (try simp only [Exit.inBlock, Exit.then])
  refine bodyPost_ret (v := .agg #[.string n, .string v]) (by simp [results, Tryz.results121, go_sem]) rfl ⟨rfl, ?_⟩
  go_grown
theorem AsAt.app {w : World} {b : Nat} : ∀ {p q : List (ByteArray × ByteArray)} {o : Nat}, AsAt w b o p → AsAt w b (o + 2 * p.length) q → AsAt w b o (p ++ q)
  | [], _, _, _, h => by simpa using h
  | x :: p, q, o, ⟨h1, h2, h3, h4, h5⟩, h => ⟨h1, h2, h3, h4, AsAt.app h5 (by simp at h; rw [show o + 2 + 2 * p.length = o + 2 * (p.length + 1) by omega]; exact h)⟩
theorem toAttrS_any (al : List (ByteArray × ByteArray)) (w : World) (A : Option Addr) (c b o hi : Nat) (hA : RowAt 0 hi A al.length b o) (hl : al.length ≤ 1048576) (hh : hi ≤ w.heap.size) (hal : AsAt w b o al) :
    Calls Tryz.prog 73 #[.slice A al.length c] w fun e w' => e = .returned (.slice (some ⟨w.heap.size, 0, none⟩) al.length al.length) ∧ Below w.heap.size w w' ∧ w.heap.size < w'.heap.size ∧ AsAt w' w.heap.size 0 al := by
  have HA := Lib.hid hA
  have HS := Lib.hid hal
  have hmk := make_attrs al.length hl
  clear hA hal
  go_enter Tryz.func73, Tryz.ntmps73
  go_wp2
  go_loopw [4] (fun i wr => ∃ (k : Nat) (pre suf : List (ByteArray × ByteArray)), i = .int .i64 (k : Int) ∧ al = pre ++ suf ∧ pre.length = k ∧
    Hid (AsAt w b (o + k * 2) suf ∧ Below w.heap.size w wr ∧ w.heap.size < wr.heap.size ∧ AsAt wr w.heap.size 0 pre ∧ Room wr w.heap.size (al.length * 2))) (fun i wr => al.length - (intOf i).toNat)
  case atStart => exact ⟨0, [], al, rfl, rfl, rfl, Lib.hid ⟨by simpa using HS.out, (Below.refl _ _).alloc (Nat.le_refl _) _, by simp, trivial, room_made _ _ _ _⟩⟩
  case round =>
    obtain ⟨k, pre, suf, rfl, hp, hk, HH⟩ := hrel
    have HP := Lib.hid hp
    cases suf with
    | nil =>
      have hkl : k = al.length := by rw [hp]; simp [hk]
      clear hp hk
      subst hkl
      go_wp2
      go_ret
      exact ⟨rfl, HH.out.2.1, HH.out.2.2.1, by have := HH.out.2.2.2.1; rw [HP.out]; simpa using this⟩
    | cons x r =>
      have hkl : k < al.length := by rw [hp]; simp [hk]
      obtain ⟨⟨s1, s2, s3, s4, s5⟩, hB, hg, hpre, hroom⟩ := HH.out
      obtain ⟨rfl, hlo, hhi⟩ := HA.out.2 (by omega)
      have t1 := (hB.cell (p := ⟨b, o + k * 2, none⟩) (by show b < _; omega)).trans s1
      have t2 := (hB.cell (p := ⟨b, o + k * 2 + 1, none⟩) (by show b < _; omega)).trans s2
      have H5 := Lib.hid s5
      have HB := Lib.hid hB
      have HK := Lib.hid hk
      have HPR := Lib.hid hpre
      have HRO := Lib.hid hroom
      clear HH s1 s2 s5 hB hp hk hpre hroom
      go_wp2_with (go_at_call 121; go_loud (refine (toAttr_any x _ s3 s4).mono ?_; rintro e w' ⟨rfl, hB'⟩; obtain ⟨⟨v0, e0⟩, f0⟩ := (HRO.out.below hB' hg) (k * 2) (by omega); obtain ⟨⟨v1, e1⟩, f1⟩ := (HRO.out.below hB' hg) (k * 2 + 1) (by omega); have HB' := Lib.hid hB'; clear hB'))
      go_roundw
      case rel =>
        have hB' := HB'.out
        have hg' : w.heap.size < w'.heap.size := Nat.lt_of_lt_of_le hg hB'.size
        have hP' := HPR.out.carryr (w' := w') fun j _ => hB'.cell (p := ⟨_, _, none⟩) hg
        refine ⟨k + 1, pre ++ [x], r, by go_num, by rw [HP.out]; simp, by simp [HK.out], Lib.hid ⟨by rw [show o + (k + 1) * 2 = o + k * 2 + 2 by omega]; exact H5.out, ((HB.out.trans (hB'.mono HB.out.size)).setCell (p := ⟨_, _, none⟩) (Nat.le_refl _) _).setCell (p := ⟨_, _, none⟩) (Nat.le_refl _) _, by simpa using hg', ?_, ((HRO.out.below hB' hg).set _ _).set _ _⟩⟩
        refine AsAt.app (hP'.carryr fun j hj => ?_) ⟨?_, ?_, s3, s4, trivial⟩
        · have := HK.out
          rw [World.cell?_setCell_other (h := by simp <;> omega), World.cell?_setCell_other (h := by simp <;> omega)]
        · have := HK.out
          rw [World.cell?_setCell_other (h := by simp <;> omega), show 0 + 2 * pre.length = k * 2 by omega]
          exact World.cell?_setCell_same _ _ _ e0
        · have := HK.out
          rw [show 0 + 2 * pre.length + 1 = k * 2 + 1 by omega]
          exact World.cell?_setCell_same (u := v1) _ _ _ (by rw [World.cell?_setCell_other (h := by simp)]; exact e1)
      case measure => simp [intOf]; omega
/-- no row is longer than 2^20 -/
def Fo.small : Fo → Prop
  | .nil => True
  | .cons _ _ _ _ al kids rest => al.length ≤ 1048576 ∧ kids.len ≤ 1048576 ∧ kids.small ∧ rest.small
theorem Fo.small_of : ∀ (F : Fo), F.size ≤ 1048576 → F.small
  | .nil, _ => trivial
  | .cons _ _ _ _ al kids rest, h => ⟨by simp [Fo.size] at h; omega, by simp [Fo.size] at h; omega, Fo.small_of kids (by simp [Fo.size] at h; omega), Fo.small_of rest (by simp [Fo.size] at h; omega)⟩
def ToOK (F : Fo) : Prop := ∀ (w : World) (A : Option Addr) (c b o hi : Nat), F.small → F.len ≤ 1048576 → RowAt 0 hi A F.len b o → hi ≤ w.heap.size → FoAt w 0 hi b o F →
    Calls Tryz.prog 11 #[.slice A F.len c] w fun e w' => e = .returned (.slice (some ⟨w.heap.size, 0, none⟩) F.len F.len) ∧ Below w.heap.size w w' ∧ w.heap.size < w'.heap.size ∧ FoAt w' (w.heap.size + 1) w'.heap.size w.heap.size 0 F
theorem oth {w : World} {g i b o : Nat} {v : Value} (h : g ≠ b) : (w.setCell ⟨g, i, none⟩ v).cell? ⟨b, o, none⟩ = w.cell? ⟨b, o, none⟩ := oth0 h
/-- a node that is handed back from a variable -/
theorem ret_node {fn : Func} {p : Tmp} {R : Ending → World → Prop} {a : Act} {W : World} {g : Nat} {v0 v1 v2 v3 v4 v5 : Value} (hres : fn.results = #[.cell p 71])
    (hL : Lay W g #[v0, v1, v2, v3, v4, v5]) (hp : a.tmps.getD p undef = .pointer (some ⟨g, 0, none⟩)) (hd : a.defers = []) (hR : R (.returned (.agg #[v0, v1, v2, v3, v4, v5])) W) : bodyPost Tryz.prog fn R .ret a W := by
  refine bodyPost_ret (v := .agg #[v0, v1, v2, v3, v4, v5]) ?_ hd hR
  have hp' : a.tmps[p]?.getD undef = .pointer (some ⟨g, 0, none⟩) := by simpa using hp
  have h0 := hL.1
  simp [results, hres, hp', go_sem, h0]
theorem three_lay {w w' : World} {c1 c2 c3 : Array Value} {t1 t2 t3 : TypeId} (h : Below (w.heap.size + 1 + 1 + 1) (((w.alloc (.cells c1 t1)).alloc (.cells c2 t2)).alloc (.cells c3 t3)) w') :
    Lay w' w.heap.size c1 ∧ Lay w' (w.heap.size + 1) c2 ∧ Lay w' (w.heap.size + 1 + 1) c3 ∧ Below w.heap.size w w' := by
  have s1 : (w.alloc (.cells c1 t1)).heap.size = w.heap.size + 1 := by simp
  have s2 : ((w.alloc (.cells c1 t1)).alloc (.cells c2 t2)).heap.size = w.heap.size + 1 + 1 := by simp
  have l1 := Lay.new w c1 t1
  have l2 := Lay.new (w.alloc (.cells c1 t1)) c2 t2
  have l3 := Lay.new ((w.alloc (.cells c1 t1)).alloc (.cells c2 t2)) c3 t3
  rw [s1] at l2
  rw [s2] at l3
  exact ⟨((l1.alloc (by omega) _).alloc (by omega) _).below h (by omega), (l2.alloc (by omega) _).below h (by omega), l3.below h (by omega), Below.trans (by go_grown) (h.mono (by omega))⟩
theorem toNode_any (k sp : Int) (n t : ByteArray) (al : List (ByteArray × ByteArray)) (kids : Fo) (ih : ToOK kids) (w : World) (A K : Option Addr) (c kc b o kb ko hi : Nat) (hs : kids.small) (hkl : kids.len ≤ 1048576) (hll : al.length ≤ 1048576)
    (_ : n.size ≤ maxLen) (_ : t.size ≤ maxLen) (hA : RowAt 0 hi A al.length b o) (hal : AsAt w b o al) (hK : RowAt 0 hi K kids.len kb ko) (hk : FoAt w 0 hi kb ko kids) (hh : hi ≤ w.heap.size) :
    Calls Tryz.prog 35 #[.agg #[.int .i64 k, .int .i64 sp, .string n, .string t, .slice A al.length c, .slice K kids.len kc]] w fun e w' =>
      ∃ g g', e = .returned (.agg #[.int .i64 k, .int .i64 sp, .string n, .string t, .slice (some ⟨g, 0, none⟩) al.length al.length, .slice (some ⟨g', 0, none⟩) kids.len kids.len]) ∧ Below w.heap.size w w' ∧
        w.heap.size ≤ g ∧ g < w'.heap.size ∧ AsAt w' g 0 al ∧ w.heap.size ≤ g' ∧ g' < w'.heap.size ∧ FoAt w' w.heap.size w'.heap.size g' 0 kids := by
  have HA := Lib.hid hA
  have HN := Lib.hid hal
  have HF := Lib.hid hk
  have HI := Lib.hid ih
  have HK := Lib.hid hK
  clear hal ih hk hA hK
  go_enter Tryz.func35, Tryz.ntmps35
  go_wp2_with (first
    | (go_at_call 73; go_loud (refine (toAttrS_any al _ A c b o hi HA.out hll ?a1 ?a2).mono ?a3; (case a1 => (simp; omega)); (case a2 => exact al_below HA.out HN.out (by go_grown) hh); rintro e w' ⟨rfl, hB', hlt, hat⟩; simp only [World.size_alloc] at hB' hlt hat ⊢; obtain ⟨L1, L2, L3, B3⟩ := three_lay hB'; have r5 := L1.1 5; have e4 := L3.1 4; have f4 := L3.2 4; have K1 := Lib.hid L1; have K2 := Lib.hid L2; have K3 := Lib.hid L3; have KB := Lib.hid B3; have KA := Lib.hid hat; have KL := Lib.hid hlt; have KB' := Lib.hid hB'; clear L1 L2 L3 B3 hat hB' hlt; simp at r5 e4))
    | (go_at_call 11; go_loud (refine (HI.out _ K kc kb ko hi hs hkl HK.out ?b1 ?b2).mono ?b3; (case b1 => (have := KB.out.size; simp; omega)); (case b2 => exact FoAt.below HK.out HF.out (KB.out.setCell (p := ⟨_, _, none⟩) (by show w.heap.size ≤ w.heap.size + 1 + 1; omega) _) hh); rintro e w'' ⟨rfl, hC, hlt2, hfo⟩; simp only [World.size_setCell] at hC hlt2 hfo ⊢; have M3 := (K3.out.set 4 (.slice (some ⟨w.heap.size + 1 + 1 + 1, 0, none⟩) al.length al.length)).below hC (by have := KL.out; omega); have M2 := (K2.out.setOther (g' := w.heap.size + 1 + 1) (by omega) 4 (.slice (some ⟨w.heap.size + 1 + 1 + 1, 0, none⟩) al.length al.length)).below hC (by have := KL.out; omega); simp at M3; have m0 := M3.1; have m1 := M3.2; have n0 := M2.1; have n1 := M2.2; have KC := Lib.hid hC; have KF := Lib.hid hfo; have KL2 := Lib.hid hlt2; clear M3 M2 hC hfo hlt2))
    )
  (try simp only [Exit.inBlock, Exit.then])
  have M2 : Lay w'' (w.heap.size + 1) _ := ⟨n0, n1⟩
  have M3 := ((((((M2.setOther (g' := w.heap.size + 1 + 1) (by omega) 5 (.slice (some ⟨w'.heap.size, 0, none⟩) kids.len kids.len)).set 0 (.int .i64 k)).set 1 (.int .i64 sp)).set 2 (.string n)).set 3 (.string t)).set 4 (.slice (some ⟨w.heap.size + 1 + 1 + 1, 0, none⟩) al.length al.length)).set 5 (.slice (some ⟨w'.heap.size, 0, none⟩) kids.len kids.len)
  have hC := KC.out
  have hKL := KL.out
  have hKL2 := KL2.out
  have hst : ∀ (b o : Nat), w.heap.size + 1 + 1 < b → b < w'.heap.size → w''.cell? ⟨b, o, none⟩ = w'.cell? ⟨b, o, none⟩ := fun b o h1 h2 => (hC.cell (p := ⟨b, o, none⟩) h2).trans (oth (by omega))
  have hno : ∀ (b o : Nat), w.heap.size + 1 + 1 < b → ((((((((w''.setCell ⟨w.heap.size + 1 + 1, 5, none⟩ (.slice (some ⟨w'.heap.size, 0, none⟩) kids.len kids.len)).setCell ⟨w.heap.size + 1, 0, none⟩ (.int .i64 k)).setCell ⟨w.heap.size + 1, 1, none⟩ (.int .i64 sp)).setCell ⟨w.heap.size + 1, 2, none⟩ (.string n)).setCell ⟨w.heap.size + 1, 3, none⟩ (.string t)).setCell ⟨w.heap.size + 1, 4, none⟩ (.slice (some ⟨w.heap.size + 1 + 1 + 1, 0, none⟩) al.length al.length)).setCell ⟨w.heap.size + 1, 5, none⟩ (.slice (some ⟨w'.heap.size, 0, none⟩) kids.len kids.len)).cell? ⟨b, o, none⟩) = w''.cell? ⟨b, o, none⟩ := fun b o h => by
    have p1 : w.heap.size + 1 ≠ b := by omega
    have p2 : w.heap.size + 1 + 1 ≠ b := by omega
    rw [oth p1, oth p1, oth p1, oth p1, oth p1, oth p1, oth p2]
  refine ret_node rfl M3 rfl rfl ⟨_, _, rfl, ?_, ?_, ?_, ?_, ?_, ?_, ?_⟩
  · refine Below.trans (b := w'') (KB.out.trans (Below.trans (b := w'.setCell ⟨w.heap.size + 1 + 1, 4, none⟩ (.slice (some ⟨w.heap.size + 1 + 1 + 1, 0, none⟩) al.length al.length)) ((Below.refl _ _).setCell (p := ⟨_, _, none⟩) (by show w.heap.size ≤ w.heap.size + 1 + 1; omega) _) (hC.mono KB.out.size))) ?_
    go_grown
  · omega
  · simp; omega
  · exact (KA.out.carry fun o => hst _ o (by omega) hKL).carry fun o => hno _ o (by omega)
  · have := KB.out.size; omega
  · simpa using hKL2
  · exact KF.out.carry (by have := KB.out.size; omega) (by simp) (fun b o h _ => hno b o (by omega)) (fun j _ => hno _ _ (by omega))
theorem size_setCells (b : Nat) : ∀ (vs : List Value) (o : Nat) (w : World), (w.setCells b o vs).heap.size = w.heap.size
  | [], _, _ => rfl
  | v :: r, o, w => by rw [World.setCells, size_setCells b r, World.size_setCell]
theorem below_setCells {B b : Nat} (hB : B ≤ b) : ∀ (vs : List Value) (o : Nat) (w : World), Below B w (w.setCells b o vs)
  | [], _, _ => Below.refl _ _
  | v :: r, o, w => ((Below.refl B w).setCell (p := ⟨b, o, none⟩) hB v).trans (below_setCells hB r (o + 1) _)
theorem Room.sets {w : World} {g n : Nat} (h : Room w g n) : ∀ (vs : List Value) (i : Nat), Room (w.setCells g i vs) g n := by
  intro vs
  induction vs generalizing w with
  | nil => intro i; exact h
  | cons v r ih => intro i; exact ih (h.set i v) (i + 1)
theorem FoAt.put {w : World} {g m n hi : Nat} {k sp : Int} {nm t : ByteArray} {al : List (ByteArray × ByteArray)} {kids : Fo} {A K : Option Addr} {c kc b o kb ko : Nat} (hr : Room w g n) (hm : m + 6 ≤ n)
    (h1 : nm.size ≤ maxLen) (h2 : t.size ≤ maxLen) (hA : RowAt (g + 1) hi A al.length b o) (hal : AsAt w b o al) (hK : RowAt (g + 1) hi K kids.len kb ko) (hk : FoAt w (g + 1) hi kb ko kids) (hc : al.length ≤ c) (hkc : kids.len ≤ kc) :
    FoAt (w.setCells g m [.int .i64 k, .int .i64 sp, .string nm, .string t, .slice A al.length c, .slice K kids.len kc]) (g + 1) hi g m (.one k sp nm t al kids) := by
  have hin := World.cell?_setCells_in g [.int .i64 k, .int .i64 sp, .string nm, .string t, .slice A al.length c, .slice K kids.len kc] m w (fun j hj => by
    obtain ⟨⟨v, hv⟩, _⟩ := hr (m + j) (by simp at hj; omega)
    rw [hv]; rfl)
  have hout : ∀ b o, g + 1 ≤ b → (w.setCells g m [.int .i64 k, .int .i64 sp, .string nm, .string t, .slice A al.length c, .slice K kids.len kc]).cell? ⟨b, o, none⟩ = w.cell? ⟨b, o, none⟩ := fun b o hb =>
    World.cell?_setCells_out g _ _ _ _ (fun e _ => by simp at e; omega)
  refine ⟨⟨hin 0 (by simp), hin 1 (by simp), hin 2 (by simp), hin 3 (by simp), h1, h2⟩, ⟨A, c, b, o, hin 4 (by simp), ⟨hc, hA⟩, ?_⟩, ⟨K, kc, kb, ko, hin 5 (by simp), ⟨hkc, hK⟩, ?_⟩, trivial⟩
  · cases al with
    | nil => trivial
    | cons x r => exact hal.carry fun o => hout _ _ (hA.2 (by simp)).2.1
  · exact hk.carry (Nat.le_refl _) (Nat.le_refl _) (fun b o h _ => hout b o h) (fun j hj => hout _ _ (hK.2 (by omega)).2.1)
theorem FoAt.outside {w : World} {g m hi : Nat} {F : Fo} {o : Nat} (h : FoAt w (g + 1) hi g o F) (hm : o + 6 * F.len ≤ m) (vs : List Value) : FoAt (w.setCells g m vs) (g + 1) hi g o F :=
  h.carry (Nat.le_refl _) (Nat.le_refl _) (fun b o hb _ => World.cell?_setCells_out g _ _ _ _ (fun e _ => by simp at e; omega)) (fun j hj => World.cell?_setCells_out g _ _ _ _ (fun _ _ => by simp; omega))
theorem Fo.small_app : ∀ (F : Fo) {G : Fo}, (F.app G).small → G.small
  | .nil, _, h => h
  | .cons _ _ _ _ _ _ r, _, h => Fo.small_app r h.2.2.2
theorem toNodeS_lt : ∀ (N : Nat) (F : Fo), F.nodes < N → ToOK F := by
  intro N
  induction N with
  | zero => intro F hF; omega
  | succ N IH =>
  intro F hF w A c b o hi hsm hl hA hh hFo
  have HA := Lib.hid hA
  have HS := Lib.hid hFo
  have HF := Lib.hid hF
  have HI := Lib.hid IH
  have HSM := Lib.hid hsm
  have hmk := make_nodes F.len hl
  clear hA hFo hF IH hsm
  go_enter Tryz.func11, Tryz.ntmps11
  go_wp2
  go_loopw [4] (fun i wr => ∃ (k : Nat) (pre suf : Fo), i = .int .i64 (k : Int) ∧ F = pre.app suf ∧ pre.len = k ∧
    Hid (FoAt w 0 hi b (o + k * 6) suf ∧ Below w.heap.size w wr ∧ w.heap.size < wr.heap.size ∧ FoAt wr (w.heap.size + 1) wr.heap.size w.heap.size 0 pre ∧ Room wr w.heap.size (F.len * 6) ∧ suf.nodes < N + 1)) (fun i wr => F.len - (intOf i).toNat)
  case atStart => exact ⟨0, .nil, F, rfl, rfl, rfl, Lib.hid ⟨by simpa using HS.out, (Below.refl _ _).alloc (Nat.le_refl _) _, by simp, trivial, room_made _ _ _ _, HF.out⟩⟩
  case round =>
    obtain ⟨k, pre, suf, rfl, hp, hk, HH⟩ := hrel
    have HP := Lib.hid hp
    cases suf with
    | nil =>
      have hkl : k = F.len := by rw [hp, Fo.app_nil, hk]
      clear hp hk
      subst hkl
      go_wp2
      go_ret
      exact ⟨rfl, HH.out.2.1, HH.out.2.2.1, by have := HH.out.2.2.2.1; have hp := HP.out; rw [Fo.app_nil] at hp; rw [hp]; exact this⟩
    | cons xk xs xn xt xa kids r =>
      have hkl : k < F.len := by rw [hp, Fo.len_app, hk]; simp [Fo.len]
      obtain ⟨⟨⟨s0, s1, s2, s3, z2, z3⟩, ⟨A4, c4, b4, o4, s4, r4, a4⟩, ⟨A5, c5, b5, o5, s5, r5, a5⟩, sr⟩, hB, hg, hpre, hroom, hnd⟩ := HH.out
      replace r4 := r4.2
      replace r5 := r5.2
      obtain ⟨rfl, hlo, hhi⟩ := HA.out.2 (by omega)
      have hb : b < w.heap.size := by omega
      have t0 := (hB.cell (p := ⟨b, _, none⟩) hb).trans s0
      have t1 := (hB.cell (p := ⟨b, _, none⟩) hb).trans s1
      have t2 := (hB.cell (p := ⟨b, _, none⟩) hb).trans s2
      have t3 := (hB.cell (p := ⟨b, _, none⟩) hb).trans s3
      have t4 := (hB.cell (p := ⟨b, _, none⟩) hb).trans s4
      have t5 := (hB.cell (p := ⟨b, _, none⟩) hb).trans s5
      have HSM' : Hid (xa.length ≤ 1048576 ∧ kids.len ≤ 1048576 ∧ kids.small ∧ r.small) := by have := HSM.out; rw [hp] at this; exact Fo.small_app pre this
      have HR := Lib.hid sr
      have HB := Lib.hid hB
      have H4 := Lib.hid a4
      have H5 := Lib.hid a5
      have R4 := Lib.hid r4
      have R5 := Lib.hid r5
      have HND := Lib.hid hnd
      have HK := Lib.hid hk
      have HPR := Lib.hid hpre
      have HRO := Lib.hid hroom
      clear HH s0 s1 s2 s3 s4 s5 sr hB hnd a4 a5 r4 r5 hp hk hpre hroom
      go_wp2_with (go_at_call 35; go_loud (refine (toNode_any xk xs xn xt xa kids (HI.out kids (by have := HND.out; simp [Fo.nodes] at this; omega)) _ A4 A5 c4 c5 b4 o4 b5 o5 hi HSM'.out.2.2.1 HSM'.out.2.1 HSM'.out.1 z2 z3 R4.out (al_below R4.out H4.out HB.out hh) R5.out (FoAt.below R5.out H5.out HB.out hh) (Nat.le_trans hh HB.out.size)).mono ?_; rintro e w' ⟨g1, g2, rfl, hB', l1, l1', hat, l2, l2', hfo⟩; obtain ⟨⟨v0, e0⟩, f0⟩ := (HRO.out.below hB' hg) (k * 6) (by omega); obtain ⟨⟨v1, e1⟩, f1⟩ := (HRO.out.below hB' hg) (k * 6 + 1) (by omega); obtain ⟨⟨v2, e2⟩, f2⟩ := (HRO.out.below hB' hg) (k * 6 + 2) (by omega); obtain ⟨⟨v3, e3⟩, f3⟩ := (HRO.out.below hB' hg) (k * 6 + 3) (by omega); obtain ⟨⟨v4, e4⟩, f4⟩ := (HRO.out.below hB' hg) (k * 6 + 4) (by omega); obtain ⟨⟨v5, e5⟩, f5⟩ := (HRO.out.below hB' hg) (k * 6 + 5) (by omega); have HB' := Lib.hid hB'; have HAT := Lib.hid hat; have HFO := Lib.hid hfo; have HLL := Lib.hid (And.intro (And.intro l1 l1') (And.intro l2 l2')); clear hB' hat hfo l1 l1' l2 l2'))
      go_roundw
      case rel =>
        refine ⟨k + 1, pre.app (.one xk xs xn xt xa kids), r, by go_num, by rw [HP.out, Fo.app_assoc]; rfl, by rw [Fo.len_app, HK.out]; rfl, Lib.hid ⟨by rw [show o + (k + 1) * 6 = o + k * 6 + 6 by omega]; exact HR.out, ?_⟩⟩
        have hB' := HB'.out
        obtain ⟨⟨l1, l1'⟩, l2, l2'⟩ := HLL.out
        have hs' := hB'.size
        have hrw := HRO.out.below hB' hg
        have hpl := HK.out
        have hpre := (HPR.out.carry (w' := w') (Nat.le_refl _) hs' (fun b o _ h2 => hB'.cell (p := ⟨b, o, none⟩) h2) (fun j _ => hB'.cell (p := ⟨_, _, none⟩) hg))
        have key : Below w.heap.size w (w'.setCells w.heap.size (k * 6) [.int .i64 xk, .int .i64 xs, .string xn, .string xt, .slice (some ⟨g1, 0, none⟩) xa.length xa.length, .slice (some ⟨g2, 0, none⟩) kids.len kids.len]) ∧
            w.heap.size < (w'.setCells w.heap.size (k * 6) [.int .i64 xk, .int .i64 xs, .string xn, .string xt, .slice (some ⟨g1, 0, none⟩) xa.length xa.length, .slice (some ⟨g2, 0, none⟩) kids.len kids.len]).heap.size ∧
            FoAt (w'.setCells w.heap.size (k * 6) [.int .i64 xk, .int .i64 xs, .string xn, .string xt, .slice (some ⟨g1, 0, none⟩) xa.length xa.length, .slice (some ⟨g2, 0, none⟩) kids.len kids.len]) (w.heap.size + 1) (w'.setCells w.heap.size (k * 6) [.int .i64 xk, .int .i64 xs, .string xn, .string xt, .slice (some ⟨g1, 0, none⟩) xa.length xa.length, .slice (some ⟨g2, 0, none⟩) kids.len kids.len]).heap.size w.heap.size 0 (pre.app (.one xk xs xn xt xa kids)) ∧
            Room (w'.setCells w.heap.size (k * 6) [.int .i64 xk, .int .i64 xs, .string xn, .string xt, .slice (some ⟨g1, 0, none⟩) xa.length xa.length, .slice (some ⟨g2, 0, none⟩) kids.len kids.len]) w.heap.size (F.len * 6) ∧ r.nodes < N + 1 := by
          rw [size_setCells]
          refine ⟨(HB.out.trans (hB'.mono HB.out.size)).trans (below_setCells (Nat.le_refl _) _ _ _), by omega, FoAt.app (hpre.outside (by rw [hpl]; omega) _) ?_, hrw.sets _ _, by have := HND.out; simp [Fo.nodes] at this; omega⟩
          rw [hpl, show 0 + 6 * k = k * 6 by omega]
          exact FoAt.put hrw (by omega) z2 z3 ⟨by have := R4.out.1; exact this, fun _ => ⟨rfl, by omega, l1'⟩⟩ HAT.out ⟨R5.out.1, fun _ => ⟨rfl, by omega, l2'⟩⟩ (HFO.out.mono (by omega) (Nat.le_refl _)) (Nat.le_refl _) (Nat.le_refl _)
        exact key
      case measure => simp [intOf]; omega
theorem toNodeS_any (F : Fo) : ToOK F := toNodeS_lt (F.nodes + 1) F (Nat.lt_succ_self _)
end Go.Proofs.YthdkkpbhijlpaaaGreat
namespace Go.Proofs.YthdkkpbhijlpaaaGreat
open Go.ChangeShapes Go.WideShapes Go.ChangeAt Go.RowKit

def small (c : Int) : Bool := decide (97 ≤ c) && decide (c ≤ 122)
def great (c : Int) : Bool := decide (65 ≤ c) && decide (c ≤ 90)
def digit (c : Int) : Bool := decide (48 ≤ c) && decide (c ≤ 57)
def lowB (c : Int) : Int := if great c then c + 32 else c
def tagB (c : Int) : Bool := small c || digit c || c == 45
theorem ret_bool {a b : Bool} (h : a = b) : Ending.returned (.bool a) = .returned (.bool b) := by rw [h]
theorem ret_int {k : IntKind} {a b : Int} (h : a = b) : Ending.returned (.int k a) = .returned (.int k b) := by rw [h]
theorem isSmall_any (c : Int) (w : World) :
    Calls Tryz.prog 165 #[.int .u8 c] w fun e w' => e = .returned (.bool (small c)) ∧ w = w' := by
  go_enter Tryz.func165, Tryz.ntmps165
  go_wp2
  all_goals (go_ret; exact ⟨ret_bool (by rw [Bool.eq_iff_iff]; simp [small] <;> omega), rfl⟩)
theorem l00Digit_any (c : Int) (w : World) :
    Calls Tryz.prog 190 #[.int .u8 c] w fun e w' => e = .returned (.bool (digit c)) ∧ w = w' := by
  go_enter Tryz.func190, Tryz.ntmps190
  go_wp2
  all_goals (go_ret; exact ⟨ret_bool (by rw [Bool.eq_iff_iff]; simp [digit] <;> omega), rfl⟩)
theorem followsInTag_any (c : Int) (w : World) :
    Calls Tryz.prog 166 #[.int .u8 c] w fun e w' => e = .returned (.bool (tagB c)) ∧ w = w' := by
  go_enter Tryz.func166, Tryz.ntmps166
  go_wp2
  all_goals (go_ret; exact ⟨ret_bool (by rw [Bool.eq_iff_iff]; simp [tagB, small, digit] <;> omega), rfl⟩)
theorem l01In_any (n a b : Int) (w : World) :
    Calls Tryz.prog 186 #[.int .i64 n, .int .i64 a, .int .i64 b] w fun e w' => e = .returned (.bool (decide (a ≤ n) && decide (n ≤ b))) ∧ w = w' := by
  go_enter Tryz.func186, Tryz.ntmps186
  go_wp2
  all_goals (go_ret; exact ⟨ret_bool (by rw [Bool.eq_iff_iff]; simp <;> omega), rfl⟩)
theorem isSpace_any (n : Int) (w : World) :
    Calls Tryz.prog 171 #[.int .i64 n] w fun e w' => e = .returned (.bool (decide (0 ≤ n) && decide (n ≤ 2))) ∧ w = w' := by
  go_enter Tryz.func171, Tryz.ntmps171
  go_wp2
  all_goals (go_ret; exact ⟨ret_bool (by rw [Bool.eq_iff_iff]; simp <;> omega), rfl⟩)
theorem lowerByte_any (c : Int) (h0 : 0 ≤ c) (h1 : c ≤ 255) (w : World) :
    Calls Tryz.prog 211 #[.int .u8 c] w fun e w' => e = .returned (.int .u8 (lowB c)) ∧ w = w' := by
  by_cases hg : 65 ≤ c ∧ c ≤ 90
  · obtain ⟨g0, g1⟩ := hg
    go_enter Tryz.func211, Tryz.ntmps211
    go_wp2
    all_goals (go_ret; exact ⟨ret_int (by simp [lowB, great, g0, g1] <;> omega), rfl⟩)
  · go_enter Tryz.func211, Tryz.ntmps211
    go_wp2
    all_goals (go_ret; exact ⟨ret_int (by rw [lowB, if_neg (by simp [great] <;> omega)]), rfl⟩)
end Go.Proofs.YthdkkpbhijlpaaaGreat
