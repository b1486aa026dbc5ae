import Derived.Maps.AppendAt
import Derived.Deep.QuietTactic
import Derived.BigQuiet
import Derived.Test.YthdkkpbhijlpaaaGreatQ28
import Derived.Test.YthdkkpbhijlpaaaGreatQ18
import Derived.Test.YthdkkpbhijlpaaaGreatQ08
import Derived.Test.YthdkkpbhijlpaaaGreatQ32
import Derived.Test.YthdkkpbhijlpaaaGreatQ27
import Derived.Test.YthdkkpbhijlpaaaGreatQ19
set_option linter.unusedVariables false
namespace Go.Proofs.YthdkkpbhijlpaaaGreat
open Go.ChangeShapes Go.WideShapes Go.ChangeAt Go.RowKit Go.Deep

/-- function g tells nodes as p, where the library's variable is laid -/
def NdFnM (P : Program) (g : Nat) (cap : Array Value) (p : Nd → Fo → Bool) (lo hi : Nat) : Prop :=
  ∀ (x : Nd) (kids : Fo) (b o : Nat) (W : World), NdAt W lo hi b o x → KidsAt W lo hi b o kids → b < hi → hi ≤ W.heap.size → MaxAt W → Calls P g (#[.pointer (some ⟨b, o, none⟩)] ++ cap) W fun e w' => e = .returned (.bool (p x kids)) ∧ Below W.heap.size W w'
def FirstM (fb ib lo hi g : Nat) (cap : Array Value) (s : Option (List NP)) (C : Nat → Prop) (w : World) : Prop := FirstAt fb ib lo hi g cap s C w ∧ MaxAt w ∧ 0 < fb
theorem mx_drew {w : World} (h : MaxAt w) : MaxAt w.drew := h
theorem MaxAt.set {w : World} (h : MaxAt w) {b i : Nat} (hb : 0 ≠ b) (v : Value) : MaxAt (w.setCell ⟨b, i, none⟩ v) := by
  obtain ⟨m, hm⟩ := h
  exact ⟨m, by rw [World.cell?_setCell_far _ _ _ _ (fun e => hb e.symm)]; exact hm⟩
theorem MaxAt.no {w w' : World} (h : MaxAt w) (hB : But No w w') : MaxAt w' := by
  have hp := h.pos
  obtain ⟨m, hm⟩ := h
  exact ⟨m, (hB.cell (p := ⟨0, 0, none⟩) hp (fun h => h.elim)).trans hm⟩
set_option maxHeartbeats 2000000 in
theorem first1M_any (g : Nat) (cap : Array Value) (p : Nd → Fo → Bool) (fb ib lo hi : Nat) (eg : ∀ args w, (callFunc g args).run Tryz.prog w = .ok (.enter g args) w) (hf : NdFnM Tryz.prog g cap p lo hi) (C : Nat → Prop) (w : World) (q : Option Addr) (x : NP) (r : List NP) (hI0 : FirstM fb ib lo hi g cap none C w) (hS : SpotP w C lo hi q (x :: r)) :
    Calls Tryz.prog 99 #[.pointer q, .pointer (some ⟨ib, 0, none⟩), .pointer (some ⟨fb, 0, none⟩)] w (Seen2 (stF p) (FirstM fb ib lo hi g cap) none C (x :: r) w) := by
  obtain ⟨hI, hmx, hlt⟩ := hI0
  have HMX := Lib.hid (And.intro hmx hlt)
  clear hmx hlt
  have hh := hI.hh
  have HS := Lib.hid hS
  obtain ⟨gb, b, o, q', rfl, _, hg, hg2, h5, _, h7, h8, _, hkd, _⟩ := hS
  obtain ⟨c1, c2, c3, c4, c5, q0, c6, c7⟩ := id hI
  have c7 : q0 = none := c7
  subst c7
  have hcell := c5.2.2.2
  have hib := c5.2.1
  have hc := hf x.1 x.2.2 b o
  have HI := Lib.hid hI
  have HN := Lib.hid h8
  have HKD := Lib.hid hkd
  have HH := Lib.hid hh
  have hne : C fb := (c1 fb).2 rfl
  clear hI h8 hkd c5
  cases hq : p x.1 x.2.2 with
  | true =>
    have HQ := Lib.hid hq
    have e1 : stF p none (x :: r) = (some (x :: r), false) := by simp [stF, hq]
    have HE := Lib.hid e1
    clear hq e1
    go_enter Tryz.func99, Tryz.ntmps99
    go_wp2
    refine wp_region_held_drew (S := fun w' => w'.cell? ⟨ib, 0, none⟩ = some (.func (.func g) #[] cap) ∧ w'.cell? ⟨gb, 0, none⟩ = some (.pointer (some ⟨b, o, none⟩))) (by kernel_rfl) ⟨hcell, h5⟩ (fun hHeld => ?_)
    refine wpAnyH_take (i := 0) (v := .func (.func g) #[] cap) rfl (by kernel_rfl) (by kernel_rfl) (by kernel_rfl) (fun _ _ _ h => h) (Or.inl ⟨by rfl, fun w hSw => by (try dsimp only at hSw); go_simp⟩) (by assumption) ?_; (try simp only [Act.put, List.setIfInBounds_toArray, List.set_cons_zero, List.set_cons_succ, List.getElem_toArray, List.getElem_cons_zero])
    refine wpAnyH_take (i := 1) (v := .pointer (some ⟨gb, 0, none⟩)) rfl (by kernel_rfl) (by kernel_rfl) (by kernel_rfl) (fun _ _ _ h => h) (Or.inl ⟨by rfl, fun w hSw => by (try dsimp only at hSw); go_simp⟩) (by assumption) ?_; (try simp only [Act.put, List.setIfInBounds_toArray, List.set_cons_zero, List.set_cons_succ, List.getElem_toArray, List.getElem_cons_zero, List.getElem_cons_succ])
    refine wpAnyH_take (i := 2) (v := .pointer (some ⟨gb, 0, none⟩)) rfl (by kernel_rfl) (by kernel_rfl) (by kernel_rfl) (fun _ _ _ h => h) (Or.inl ⟨by rfl, fun w hSw => by (try dsimp only at hSw); go_simp⟩) (by assumption) ?_; (try simp only [Act.put, List.setIfInBounds_toArray, List.set_cons_zero, List.set_cons_succ, List.getElem_toArray, List.getElem_cons_zero, List.getElem_cons_succ])
    refine wpAnyH_take (i := 3) (v := .pointer (some ⟨gb, 0, none⟩)) rfl (by kernel_rfl) (by kernel_rfl) (by kernel_rfl) (fun _ _ _ h => h) (Or.inl ⟨by rfl, fun w hSw => by (try dsimp only at hSw); go_simp⟩) (by assumption) ?_; (try simp only [Act.put, List.setIfInBounds_toArray, List.set_cons_zero, List.set_cons_succ, List.getElem_toArray, List.getElem_cons_zero, List.getElem_cons_succ])
    refine wpAnyH_take (i := 4) (v := .pointer (some ⟨b, o, none⟩)) rfl (by kernel_rfl) (by kernel_rfl) (by kernel_rfl) (fun _ _ _ h => h) (Or.inl ⟨by rfl, fun w hSw => by (try dsimp only at hSw); go_simp⟩) (by assumption) ?_; (try simp only [Act.put, List.setIfInBounds_toArray, List.set_cons_zero, List.set_cons_succ, List.getElem_toArray, List.getElem_cons_zero, List.getElem_cons_succ])
    refine wpAnyH_ready (rs := [5]) (by kernel_rfl) (by simp) ?_; refine AllReadyH.cons rfl (fun K hK => ?_) AllReadyH.nil; go_simp; ((go_at_fn g; refine (hc w.drew (HN.out.but h7 ((But.refl No w).drew) HH.out (fun _ h => h.elim)) (HKD.out.but h7 ((But.refl No w).drew) HH.out (fun _ h => h.elim)) h7 HH.out (mx_drew HMX.out.1)).mono ?_; rintro e w1 ⟨rfl, hB'⟩; rw [HQ.out]; have hB := (Below.refl w.heap.size w).drew.trans hB'; have f6 := (hB.cell (p := ⟨fb, 0, none⟩) c3).trans c6; have f4 := (hB.frozen (p := ⟨fb, 0, none⟩) c3).trans c4; have f7 := (hB.cell (p := ⟨ib, 0, none⟩) hib).trans hcell; have f8 := (hB.cell (p := ⟨gb, 0, none⟩) hg).trans h5; have HB := Lib.hid hB; clear hB hB')); (try go_wp2_with fail); refine hK.out _ _ ⟨f7, f8⟩ (fun hHeld => ?_); clear hK K; (try simp only [Act.put, List.setIfInBounds_toArray, List.set_cons_zero, List.set_cons_succ, List.getElem_toArray, List.getElem_cons_zero, List.getElem_cons_succ])
    refine wpAnyH_done (by kernel_rfl) ?_ _
    go_wp2
    go_ret
    have b1 : But C w (w1.setCell ⟨fb, 0, none⟩ (.pointer (some ⟨gb, 0, none⟩))) := (But.of_below HB.out).setCell (p := ⟨fb, 0, none⟩) (Or.inl hne) _
    refine ⟨C, by rw [HE.out]; try rfl, ?_, b1, fun _ h => Or.inl h⟩
    rw [HE.out]
    have hC : ∀ k, C k → hi ≤ k := fun k hk => by rw [(c1 k).1 hk]; exact c2
    refine ⟨⟨c1, c2, by have := HB.out.size; simp; omega, by rw [World.frozen?_setCell]; exact f4, HI.out.2.2.2.2.1.but b1 (fun _ h => Or.inl h), _, World.cell?_setCell_same _ _ _ f6, by simp, HS.out.but b1 HH.out hC (fun _ h => Or.inl h)⟩, (HMX.out.1.below HB.out).set (Nat.ne_of_lt HMX.out.2) _, HMX.out.2⟩
  | false =>
    have HQ := Lib.hid hq
    have e1 : stF p none (x :: r) = (none, true) := by simp [stF, hq]
    have HE := Lib.hid e1
    clear hq e1
    go_enter Tryz.func99, Tryz.ntmps99
    go_wp2
    refine wp_region_held_drew (S := fun w' => w'.cell? ⟨ib, 0, none⟩ = some (.func (.func g) #[] cap) ∧ w'.cell? ⟨gb, 0, none⟩ = some (.pointer (some ⟨b, o, none⟩))) (by kernel_rfl) ⟨hcell, h5⟩ (fun hHeld => ?_)
    refine wpAnyH_take (i := 0) (v := .func (.func g) #[] cap) rfl (by kernel_rfl) (by kernel_rfl) (by kernel_rfl) (fun _ _ _ h => h) (Or.inl ⟨by rfl, fun w hSw => by (try dsimp only at hSw); go_simp⟩) (by assumption) ?_; (try simp only [Act.put, List.setIfInBounds_toArray, List.set_cons_zero, List.set_cons_succ, List.getElem_toArray, List.getElem_cons_zero])
    refine wpAnyH_take (i := 1) (v := .pointer (some ⟨gb, 0, none⟩)) rfl (by kernel_rfl) (by kernel_rfl) (by kernel_rfl) (fun _ _ _ h => h) (Or.inl ⟨by rfl, fun w hSw => by (try dsimp only at hSw); go_simp⟩) (by assumption) ?_; (try simp only [Act.put, List.setIfInBounds_toArray, List.set_cons_zero, List.set_cons_succ, List.getElem_toArray, List.getElem_cons_zero, List.getElem_cons_succ])
    refine wpAnyH_take (i := 2) (v := .pointer (some ⟨gb, 0, none⟩)) rfl (by kernel_rfl) (by kernel_rfl) (by kernel_rfl) (fun _ _ _ h => h) (Or.inl ⟨by rfl, fun w hSw => by (try dsimp only at hSw); go_simp⟩) (by assumption) ?_; (try simp only [Act.put, List.setIfInBounds_toArray, List.set_cons_zero, List.set_cons_succ, List.getElem_toArray, List.getElem_cons_zero, List.getElem_cons_succ])
    refine wpAnyH_take (i := 3) (v := .pointer (some ⟨gb, 0, none⟩)) rfl (by kernel_rfl) (by kernel_rfl) (by kernel_rfl) (fun _ _ _ h => h) (Or.inl ⟨by rfl, fun w hSw => by (try dsimp only at hSw); go_simp⟩) (by assumption) ?_; (try simp only [Act.put, List.setIfInBounds_toArray, List.set_cons_zero, List.set_cons_succ, List.getElem_toArray, List.getElem_cons_zero, List.getElem_cons_succ])
    refine wpAnyH_take (i := 4) (v := .pointer (some ⟨b, o, none⟩)) rfl (by kernel_rfl) (by kernel_rfl) (by kernel_rfl) (fun _ _ _ h => h) (Or.inl ⟨by rfl, fun w hSw => by (try dsimp only at hSw); go_simp⟩) (by assumption) ?_; (try simp only [Act.put, List.setIfInBounds_toArray, List.set_cons_zero, List.set_cons_succ, List.getElem_toArray, List.getElem_cons_zero, List.getElem_cons_succ])
    refine wpAnyH_ready (rs := [5]) (by kernel_rfl) (by simp) ?_; refine AllReadyH.cons rfl (fun K hK => ?_) AllReadyH.nil; go_simp; ((go_at_fn g; refine (hc w.drew (HN.out.but h7 ((But.refl No w).drew) HH.out (fun _ h => h.elim)) (HKD.out.but h7 ((But.refl No w).drew) HH.out (fun _ h => h.elim)) h7 HH.out (mx_drew HMX.out.1)).mono ?_; rintro e w1 ⟨rfl, hB'⟩; rw [HQ.out]; have hB := (Below.refl w.heap.size w).drew.trans hB'; have f6 := (hB.cell (p := ⟨fb, 0, none⟩) c3).trans c6; have f4 := (hB.frozen (p := ⟨fb, 0, none⟩) c3).trans c4; have f7 := (hB.cell (p := ⟨ib, 0, none⟩) hib).trans hcell; have f8 := (hB.cell (p := ⟨gb, 0, none⟩) hg).trans h5; have HB := Lib.hid hB; clear hB hB')); (try go_wp2_with fail); refine hK.out _ _ ⟨f7, f8⟩ (fun hHeld => ?_); clear hK K; (try simp only [Act.put, List.setIfInBounds_toArray, List.set_cons_zero, List.set_cons_succ, List.getElem_toArray, List.getElem_cons_zero, List.getElem_cons_succ])
    refine wpAnyH_done (by kernel_rfl) ?_ _
    go_wp2
    go_ret
    refine ⟨C, by rw [HE.out]; try rfl, ?_, But.of_below HB.out, fun _ h => Or.inl h⟩
    rw [HE.out]
    exact ⟨HI.out.keep (But.of_below HB.out) HH.out, HMX.out.1.below HB.out, HMX.out.2⟩
theorem visFirstM (g : Nat) (cap : Array Value) (p : Nd → Fo → Bool) (fb ib lo hi : Nat) (eg : ∀ args w, (callFunc g args).run Tryz.prog w = .ok (.enter g args) w) (hf : NdFnM Tryz.prog g cap p lo hi) : Vis2 Tryz.prog 99 #[.pointer (some ⟨ib, 0, none⟩), .pointer (some ⟨fb, 0, none⟩)] lo hi isNew (stF p) (FirstM fb ib lo hi g cap) where
  own := fun _ _ _ h k hk => by rw [(h.1.1 k).1 hk]; exact ⟨h.1.2.1, h.1.2.2.1⟩
  keep := fun _ _ _ _ h hB => ⟨h.1.keep hB.but h.1.hh, h.2.1.no hB.but, h.2.2⟩
  call := fun s C w q ch hne hl ho hI hS hh => by
    cases ch with
    | nil => exact absurd rfl hne
    | cons x r => cases ho; exact first1M_any g cap p fb ib lo hi eg hf C w q x r hI hS
/-- the first spot that p tells, or none -/
theorem firstSpotM_any (g : Nat) (cap : Array Value) (p : Nd → Fo → Bool) (lo hi : Nat) (eg : ∀ args w, (callFunc g args).run Tryz.prog w = .ok (.enter g args) w) (hf : NdFnM Tryz.prog g cap p lo hi) (F : Fo)
    (w : World) (A : Option Addr) (c b o : Nat) (hm : MaxAt w) (hd : F.nodes ≤ 1048576) (hh : hi ≤ w.heap.size) (hA : RowAt lo hi A F.len b o) (hF : FoAt w lo hi b o F) :
    Calls Tryz.prog 52 #[.slice A F.len c, .func (.func g) #[] cap] w fun e w' => ∃ (q : Option Addr) (D : Nat → Prop), e = .returned (.pointer q) ∧ Below w.heap.size w w' ∧ FirstIs w' D lo hi q (firstF p F [] 0) := by
  have hmf : ∀ (fn : Fn) (first cap : Array Value) (w : World), (Instr.makeFunc fn first cap).run Tryz.prog w = .ok (.func fn first cap) w := fun _ _ _ _ => rfl
  have HA := Lib.hid hA
  have HF := Lib.hid hF
  have HG := Lib.hid hf
  clear hA hF hf
  go_enter Tryz.func52, Tryz.ntmps52
  go_wp2_with fail
  refine (walk2_any 99 #[.pointer (some ⟨w.heap.size, 0, none⟩), .pointer (some ⟨w.heap.size + 1, 0, none⟩)] lo hi isNew (stF p) (FirstM (w.heap.size + 1) w.heap.size lo hi g cap) (visFirstM g cap p (w.heap.size + 1) w.heap.size lo hi eg HG.out) (enters_of Tryz.func99 (by kernel_rfl) rfl) F none (fun k => k = w.heap.size + 1) _ A c b o hd (travP2_first p F [] 0) ?_ ?_ HA.out ?_).mono ?_
  · exact ⟨first_new w lo hi g cap hh _ _, hm.below (((Below.refl w.heap.size w).alloc (Nat.le_refl _) _).alloc (by simp) _), Nat.lt_succ_of_lt hm.pos⟩
  · simp; omega
  · exact HF.out.but HA.out (((But.refl No w).alloc _).alloc _) hh (fun _ h => h.elim)
  · rintro e w2 ⟨D, rfl, i1, b1, d1⟩
    rw [trav2_first] at i1
    obtain ⟨⟨_, _, _, _, _, q, h6, h7⟩, _⟩ := i1
    have B2 := Lib.hid ((((Below.refl w.heap.size w).alloc (Nat.le_refl _) _).alloc (by simp) _).trans (b1.below (B := w.heap.size) (fun k hk => by rw [hk]; exact Nat.le_succ _) (by simp; omega)))
    have H7 := Lib.hid h7
    clear b1 d1 h7
    go_wp2
    go_ret
    exact ⟨q, D, rfl, B2.out, H7.out⟩
end Go.Proofs.YthdkkpbhijlpaaaGreat
namespace Go.Proofs.YthdkkpbhijlpaaaGreat
open Go.ChangeShapes Go.WideShapes Go.ChangeAt Go.RowKit Go.Deep

/-- a node that is harm by itself -/
def harmNd (x : Nd) : Bool := inL bannedL x.n || x.al.any fun a => harmB a.1 a.2
theorem harmful_fn (w : World) : AtFn Tryz.prog 184 #[] #[] (fun a => harmB a.1 a.2) w :=
  fun x W _ h1 h2 => isHarmful_any x.1 x.2 W h1 h2
theorem isHarm_any (x : Nd) (b o lo hi : Nat) (w : World) (h : NdAt w lo hi b o x) (hb : b < hi) (hh : hi ≤ w.heap.size) :
    Calls Tryz.prog 158 #[.pointer (some ⟨b, o, none⟩)] w fun e w' => e = .returned (.bool (harmNd x)) ∧ Below w.heap.size w w' := by
  have hmf : ∀ (fn : Fn) (first cap : Array Value) (w : World), (Instr.makeFunc fn first cap).run Tryz.prog w = .ok (.func fn first cap) w := fun _ _ _ _ => rfl
  obtain ⟨⟨_, _, h2, _, h4, _⟩, A, c, b', o', h6, h7, h8⟩ := h
  have HR := Lib.hid h7
  have HS := Lib.hid h8
  have HN := Lib.hid h4
  clear h7 h8 h4
  cases hq : inL bannedL x.n with
  | true =>
    have HQ := Lib.hid hq
    have HM : Hid (harmNd x = true) := Lib.hid (by rw [harmNd, hq]; rfl)
    clear hq
    go_enter Tryz.func158, Tryz.ntmps158
    go_wp2_with fail
    refine (implIsBanned_any x.n _ HN.out).mono ?_
    rintro e w1 ⟨rfl, hB⟩
    rw [HQ.out]
    have HB := Lib.hid hB
    clear hB
    go_wp2
    go_ret
    exact ⟨by rw [HM.out]; try rfl, HB.out⟩
  | false =>
    have HQ := Lib.hid hq
    have HM : Hid (harmNd x = x.al.any fun a => harmB a.1 a.2) := Lib.hid (by rw [harmNd, hq]; rfl)
    clear hq
    go_enter Tryz.func158, Tryz.ntmps158
    go_wp2_with fail
    refine (implIsBanned_any x.n _ HN.out).mono ?_
    rintro e w1 ⟨rfl, hB⟩
    rw [HQ.out]
    have h6' := (hB.cell (p := ⟨b, o + 4, none⟩) (by show b < _; omega)).trans h6
    have HB := Lib.hid hB
    clear hB h6 h2
    go_wp2_with fail
    refine (atContainsFunc_any 184 #[] #[] (fun a => harmB a.1 a.2) (enters_of Tryz.func184 (by kernel_rfl) rfl) x.al _ A c b' o' lo hi HR.out.2 (Nat.le_trans hh HB.out.size) (HS.out.but HR.out.2 (But.of_below (C := No) HB.out) hh (fun _ h => h.elim)) (harmful_fn _)).mono ?_
    rintro e w2 ⟨rfl, hB⟩
    have HB := Lib.hid (HB.out.trans (hB.mono HB.out.size))
    clear hB
    go_wp2
    go_ret
    exact ⟨by rw [HM.out]; try rfl, HB.out⟩
end Go.Proofs.YthdkkpbhijlpaaaGreat
namespace Go.Proofs.YthdkkpbhijlpaaaGreat
open Go.ChangeShapes Go.WideShapes Go.ChangeAt Go.RowKit Go.Deep

theorem infoInt : (Tryz.prog.info? 3).map (fun i => (i.zero, i.size, i.bytes)) = some (some (.int .i64 0), 1, 8) := by kernel_rfl
/-- a row of numbers, from base on, that may grow -/
def IRow (w : World) (base : Nat) (v : Value) (l : List Int) : Prop := w.ownsRow base 3 1 v l.length (l.map (Value.int .i64))
theorem IRow.nilRow (w : World) (base : Nat) : IRow w base (.slice none 0 0) [] := ⟨rfl, Or.inl ⟨rfl, rfl⟩⟩
end Go.Proofs.YthdkkpbhijlpaaaGreat
namespace Go.Proofs.YthdkkpbhijlpaaaGreat
open Go.ChangeShapes Go.WideShapes Go.ChangeAt Go.RowKit Go.Deep

/-- the places of a chain, from the outermost on -/
def placesOf : List NP → List Int
  | [] => []
  | x :: r => placesOf r ++ [(x.2.1 : Int)]
theorem placesOf_len : ∀ ch : List NP, (placesOf ch).length = ch.length
  | [] => rfl
  | x :: r => by simp [placesOf, placesOf_len r]
theorem SpotP.no {w : World} {C : Nat → Prop} {lo hi : Nat} : ∀ {ch : List NP} {p : Option Addr}, SpotP w C lo hi p ch → SpotP w No lo hi p ch
  | [], _, h => h
  | _ :: _, _, ⟨g, b, o, q, h1, h2, h3, _, h5, h6, h7, h8, h8', hk, h9⟩ => ⟨g, b, o, q, h1, h2, h3, id, h5, h6, h7, h8, h8', hk, SpotP.no h9⟩
theorem SpotP.step {w w' : World} {lo hi : Nat} {ch : List NP} {p : Option Addr} (h : SpotP w No lo hi p ch) (hh : hi ≤ w.heap.size) (hB : Below w.heap.size w w') : SpotP w' No lo hi p ch :=
  h.but (But.of_below hB) hh (fun _ h => h.elim) (fun _ h => Or.inl h)
theorem two_alloc {w : World} {g : Nat} {u v : Value} (h : w.cell? ⟨g, 1, none⟩ = some u ∧ w.cell? ⟨g, 2, none⟩ = some v) (o : Obj) : (w.alloc o).cell? ⟨g, 1, none⟩ = some u ∧ (w.alloc o).cell? ⟨g, 2, none⟩ = some v :=
  ⟨(World.cell?_of_block (w := w) (a := ⟨g, 1, none⟩) (Below.heap_alloc w o g (World.block_lt_of_cell? w _ h.1))).trans h.1, (World.cell?_of_block (w := w) (a := ⟨g, 2, none⟩) (Below.heap_alloc w o g (World.block_lt_of_cell? w _ h.2))).trans h.2⟩
theorem IRow.step {w : World} {base : Nat} {v : Value} {l : List Int} (h : IRow w base v l) (o : Obj) : IRow (w.alloc o) base v l := World.ownsRow.alloc h o
theorem IRow.mono {w : World} {base base' : Nat} {v : Value} {l : List Int} (h : IRow w base v l) (hb : base' ≤ base) : IRow w base' v l := by
  obtain ⟨h1, h2⟩ := h
  refine ⟨h1, ?_⟩
  rcases h2 with h2 | ⟨g, cap, cur, hv, hg, r⟩
  · exact Or.inl h2
  · exact Or.inr ⟨g, cap, cur, hv, Nat.le_trans hb hg, r⟩
theorem run_append_int {w : World} {base : Nat} {v : Value} {l : List Int} (h : IRow w base v l) (hl : l.length ≤ 1048576) (hb : base ≤ w.heap.size) (ty : TypeId) (g : Nat) (x : Int) (c : Nat) (hx : w.cell? ⟨g, 0, none⟩ = some (.int .i64 x)) :
    ∃ v' w', (Builtin.append_ #[130, 130] ty #[v, .slice (some ⟨g, 0, none⟩) 1 c]).run Tryz.prog w = .ok v' w' ∧ IRow w' base v' (l ++ [x]) ∧ Below base w w' := by
  obtain ⟨i0, hi0, hz0, hz1, hz2⟩ := info_parts infoInt
  obtain ⟨v', w', hr, h2, h3, _, _⟩ := run_append_own_at (P := Tryz.prog) w base 130 ty 3 i0 (.int .i64 0) 1 8 Tryz.underlying130 hi0 hz0 hz1 hz2 rfl (by decide) v l.length (l.map (Value.int .i64)) h ⟨g, 0, none⟩ 1 c [.int .i64 x] rfl (by intro j u hu; cases j with | zero => simp at hu; subst hu; simpa [Addr.add] using hx | succ j => simp at hu) (by intro u hu; simp at hu; subst hu; rfl) (by unfold maxLen; omega) (by omega) hb
  exact ⟨v', w', hr, by simpa [IRow] using h2, (Below.refl base w).grown h3 hb (fun q hq => (World.ownsRow.lt h q hq).1)⟩
theorem step_append_int {ops : Array Oper} {o : Oper} {a : Act} {K : Act → World → Prop} {Q : Exit → Act → World → Prop} {E : Prop} {w : World} {base : Nat} {v : Value} {l : List Int} {g : Nat} {x : Int} {c : Nat} (hgd : o.guard = none) (s y : Operand)
    (ho : o.op = .call { callee := .builtin .append, args := #[s, y], argTypes := #[130, 130] }) (hs : a.eval s = v) (hy : a.eval y = .slice (some ⟨g, 0, none⟩) 1 c)
    (h0 : IRow w base v l) (hl : l.length ≤ 1048576) (hb : base ≤ w.heap.size) (hx : w.cell? ⟨g, 0, none⟩ = some (.int .i64 x))
    (h : ∀ v' w', IRow w' base v' (l ++ [x]) → Below base w w' → K (a.put o.dst v') w') :
    if Region.wanted o (yielded ops a.tmps) = true then Oper.wp Tryz.prog o a w K Q else E := by
  have hw : Region.wanted o (yielded ops a.tmps) = true := by simp [Region.wanted, hgd]
  rw [if_pos hw]
  obtain ⟨v', w', hr, h2, h3⟩ := run_append_int h0 hl hb o.type g x c hx
  unfold Oper.wp execOp
  simp only [ho, resolve, invoke, builtin, Sem.run_bind, Sem.run_pure, Result.andThen_ok, List.map_toArray, List.map_cons, List.map_nil, hs, hy, hr]
  exact h v' w' h2 h3
set_option maxHeartbeats 1000000 in
theorem path_any (lo hi : Nat) : ∀ (ch : List NP) (q : Option Addr) (w : World), hi ≤ w.heap.size → ch.length ≤ 1048576 → SpotP w No lo hi q ch →
    Calls Tryz.prog 159 #[.pointer q] w fun e w' => ∃ v, e = .returned v ∧ IRow w' w.heap.size v (placesOf ch) ∧ Below w.heap.size w w'
  | [], q, w, _, _, hS => by
    have hS : q = none := hS
    subst hS
    go_enter Tryz.func159, Tryz.ntmps159
    go_wp2
    go_ret
    exact ⟨_, rfl, IRow.nilRow _ _, by go_grown⟩
  | x :: r, q, w, hh, hl, hS => by
    have ih := path_any lo hi r
    obtain ⟨i0, hi0, hz0, hz1, hz2⟩ := info_parts infoInt
    obtain ⟨gb, b, o, q', rfl, _, hg, hg2, h5, h6, h7, h8, h9, _, h10⟩ := hS
    have HS := Lib.hid h10
    have HL := Lib.hid (show r.length ≤ 1048576 by simp at hl; omega)
    clear h5 h7 h8 h10
    go_enter Tryz.func159, Tryz.ntmps159
    go_wp2_with fail
    refine wp_region_held_drew (S := fun w' => w'.cell? ⟨gb, 1, none⟩ = some (.int .i64 (x.2.1 : Int)) ∧ w'.cell? ⟨gb, 2, none⟩ = some (.pointer q')) (by kernel_rfl) ⟨h9, h6⟩ (fun hHeld => ?_)
    refine wpAnyH_take (i := 0) (v := .pointer (some ⟨gb, 0, none⟩)) rfl (by kernel_rfl) (by kernel_rfl) (by kernel_rfl) (fun _ _ _ h => h) (Or.inl ⟨by rfl, fun w hSw => by (try dsimp only at hSw); go_simp⟩) (by assumption) ?_; (try simp only [Act.put, List.setIfInBounds_toArray, List.set_cons_zero, List.set_cons_succ, List.getElem_toArray, List.getElem_cons_zero])
    refine wpAnyH_take (i := 1) (v := .pointer (some ⟨gb, 0, none⟩)) rfl (by kernel_rfl) (by kernel_rfl) (by kernel_rfl) (fun _ _ _ h => h) (Or.inl ⟨by rfl, fun w hSw => by (try dsimp only at hSw); go_simp⟩) (by assumption) ?_; (try simp only [Act.put, List.setIfInBounds_toArray, List.set_cons_zero, List.set_cons_succ, List.getElem_toArray, List.getElem_cons_zero, List.getElem_cons_succ])
    refine wpAnyH_take (i := 2) (v := .pointer (some ⟨gb, 2, none⟩)) rfl (by kernel_rfl) (by kernel_rfl) (by kernel_rfl) (fun _ _ _ h => h) (Or.inl ⟨by rfl, fun w hSw => by (try dsimp only at hSw); go_simp⟩) (by assumption) ?_; (try simp only [Act.put, List.setIfInBounds_toArray, List.set_cons_zero, List.set_cons_succ, List.getElem_toArray, List.getElem_cons_zero, List.getElem_cons_succ])
    refine wpAnyH_take (i := 3) (v := .pointer q') rfl (by kernel_rfl) (by kernel_rfl) (by kernel_rfl) (fun _ _ _ h => h) (Or.inl ⟨by rfl, fun w hSw => by (try dsimp only at hSw); go_simp⟩) (by assumption) ?_; (try simp only [Act.put, List.setIfInBounds_toArray, List.set_cons_zero, List.set_cons_succ, List.getElem_toArray, List.getElem_cons_zero, List.getElem_cons_succ])
    refine wpAnyH_take (i := 5) (v := .pointer (some ⟨gb, 0, none⟩)) rfl (by kernel_rfl) (by kernel_rfl) (by kernel_rfl) (fun _ _ _ h => h) (Or.inl ⟨by rfl, fun w hSw => by (try dsimp only at hSw); go_simp⟩) (by assumption) ?_; (try simp only [Act.put, List.setIfInBounds_toArray, List.set_cons_zero, List.set_cons_succ, List.getElem_toArray, List.getElem_cons_zero, List.getElem_cons_succ])
    refine wpAnyH_take (i := 6) (v := .pointer (some ⟨gb, 0, none⟩)) rfl (by kernel_rfl) (by kernel_rfl) (by kernel_rfl) (fun _ _ _ h => h) (Or.inl ⟨by rfl, fun w hSw => by (try dsimp only at hSw); go_simp⟩) (by assumption) ?_; (try simp only [Act.put, List.setIfInBounds_toArray, List.set_cons_zero, List.set_cons_succ, List.getElem_toArray, List.getElem_cons_zero, List.getElem_cons_succ])
    refine wpAnyH_take (i := 7) (v := .pointer (some ⟨gb, 1, none⟩)) rfl (by kernel_rfl) (by kernel_rfl) (by kernel_rfl) (fun _ _ _ h => h) (Or.inl ⟨by rfl, fun w hSw => by (try dsimp only at hSw); go_simp⟩) (by assumption) ?_; (try simp only [Act.put, List.setIfInBounds_toArray, List.set_cons_zero, List.set_cons_succ, List.getElem_toArray, List.getElem_cons_zero, List.getElem_cons_succ])
    refine wpAnyH_take (i := 8) (v := .int .i64 (x.2.1 : Int)) rfl (by kernel_rfl) (by kernel_rfl) (by kernel_rfl) (fun _ _ _ h => h) (Or.inl ⟨by rfl, fun w hSw => by (try dsimp only at hSw); go_simp⟩) (by assumption) ?_; (try simp only [Act.put, List.setIfInBounds_toArray, List.set_cons_zero, List.set_cons_succ, List.getElem_toArray, List.getElem_cons_zero, List.getElem_cons_succ])
    refine wpAnyH_ready (rs := [4, 9]) (by kernel_rfl) (by simp) ?_; refine AllReadyH.cons rfl (fun K hK => ?_) (AllReadyH.cons rfl (fun K hK => ?_) AllReadyH.nil)
    · have L0 : (fun w' => w'.cell? ⟨gb, 1, none⟩ = some (.int .i64 (x.2.1 : Int)) ∧ w'.cell? ⟨gb, 2, none⟩ = some (.pointer q')) w.drew := ⟨h9, h6⟩
      go_simp; (go_at_call 159; refine (ih q' w.drew hh HL.out (HS.out.step hh (Below.refl _ _).drew)).mono ?_; rintro e w1 ⟨v, rfl, hN, hB⟩; have hS1 : (fun w' => w'.cell? ⟨gb, 1, none⟩ = some (.int .i64 (x.2.1 : Int)) ∧ w'.cell? ⟨gb, 2, none⟩ = some (.pointer q')) w1 := ⟨(hB.cell (p := ⟨gb, 1, none⟩) (World.block_lt_of_cell? _ _ L0.1)).trans L0.1, (hB.cell (p := ⟨gb, 2, none⟩) (World.block_lt_of_cell? _ _ L0.2)).trans L0.2⟩; have HN := Lib.hid hN; have HB := Lib.hid hB; clear hN hB); (try go_wp2_with fail); refine hK.out _ _ hS1 (fun hHeld => ?_); clear hK K; (try simp only [Act.put, List.setIfInBounds_toArray, List.set_cons_zero, List.set_cons_succ, List.getElem_toArray, List.getElem_cons_zero, List.getElem_cons_succ])
      refine wpAnyH_ready (rs := [9]) (by kernel_rfl) (by simp) ?_; refine AllReadyH.cons rfl (fun K hK => ?_) AllReadyH.nil
      go_simp; refine hK.out _ _ (two_alloc hS1 _) (fun hHeld => ?_); clear hK K; (try simp only [Act.put, List.setIfInBounds_toArray, List.set_cons_zero, List.set_cons_succ, List.getElem_toArray, List.getElem_cons_zero, List.getElem_cons_succ])
      refine wpAnyH_ready (rs := [10]) (by kernel_rfl) (by simp) ?_; refine AllReadyH.cons rfl (fun K hK => ?_) AllReadyH.nil
      refine step_append_int (by rfl) _ _ (by rfl) (by rfl) (by rfl) (IRow.step HN.out (.cells #[.int .i64 (x.2.1 : Int)] 3)) (by rw [placesOf_len]; exact HL.out) (by have := HB.out.size; simp at this ⊢; omega) (new_cell rfl) (fun v2 w2 hN2 hB2 => ?_)
      have HR2 := Lib.hid (And.intro hN2 ((((Below.refl w.heap.size w).drew.trans HB.out).alloc (by have := HB.out.size; simpa using this) (.cells #[.int .i64 (x.2.1 : Int)] 3)).trans hB2))
      have hS2 : (fun w' => w'.cell? ⟨gb, 1, none⟩ = some (.int .i64 (x.2.1 : Int)) ∧ w'.cell? ⟨gb, 2, none⟩ = some (.pointer q')) w2 := (show (fun w' => w'.cell? ⟨gb, 1, none⟩ = some (.int .i64 (x.2.1 : Int)) ∧ w'.cell? ⟨gb, 2, none⟩ = some (.pointer q')) w2 from ⟨(hB2.cell (p := ⟨gb, 1, none⟩) hg).trans (two_alloc hS1 _).1, (hB2.cell (p := ⟨gb, 2, none⟩) hg).trans (two_alloc hS1 _).2⟩)
      clear hN2 hB2
      refine hK.out _ _ hS2 (fun hHeld => ?_); clear hK K; (try simp only [Act.put, List.setIfInBounds_toArray, List.set_cons_zero, List.set_cons_succ, List.getElem_toArray, List.getElem_cons_zero, List.getElem_cons_succ])
      refine wpAnyH_take (i := 11) (v := v2) rfl (by kernel_rfl) (by kernel_rfl) (by kernel_rfl) (fun _ _ _ h => h) (Or.inl ⟨by rfl, fun w hSw => by (try dsimp only at hSw); go_simp⟩) (by assumption) ?_; (try simp only [Act.put, List.setIfInBounds_toArray, List.set_cons_zero, List.set_cons_succ, List.getElem_toArray, List.getElem_cons_zero, List.getElem_cons_succ])
      refine wpAnyH_done (by kernel_rfl) ?_ _
      go_wp2
      go_ret
      exact ⟨v2, rfl, HR2.out.1, HR2.out.2⟩
    · have L0 : (fun w' => w'.cell? ⟨gb, 1, none⟩ = some (.int .i64 (x.2.1 : Int)) ∧ w'.cell? ⟨gb, 2, none⟩ = some (.pointer q')) w.drew := ⟨h9, h6⟩
      go_simp; refine hK.out _ _ (two_alloc L0 _) (fun hHeld => ?_); clear hK K; (try simp only [Act.put, List.setIfInBounds_toArray, List.set_cons_zero, List.set_cons_succ, List.getElem_toArray, List.getElem_cons_zero, List.getElem_cons_succ])
      refine wpAnyH_ready (rs := [4]) (by kernel_rfl) (by simp) ?_; refine AllReadyH.cons rfl (fun K hK => ?_) AllReadyH.nil
      have L1 := two_alloc L0 (.cells #[.int .i64 (x.2.1 : Int)] 3)
      go_simp; (go_at_call 159; refine (ih q' (w.drew.alloc (.cells #[.int .i64 (x.2.1 : Int)] 3)) (by simp; omega) HL.out (HS.out.step hh ((Below.refl w.heap.size w).drew.alloc (Nat.le_refl _) _))).mono ?_; rintro e w1 ⟨v, rfl, hN, hB⟩; have hS1 : (fun w' => w'.cell? ⟨gb, 1, none⟩ = some (.int .i64 (x.2.1 : Int)) ∧ w'.cell? ⟨gb, 2, none⟩ = some (.pointer q')) w1 := ⟨(hB.cell (p := ⟨gb, 1, none⟩) (World.block_lt_of_cell? _ _ L1.1)).trans L1.1, (hB.cell (p := ⟨gb, 2, none⟩) (World.block_lt_of_cell? _ _ L1.2)).trans L1.2⟩; have HN := Lib.hid hN; have HB := Lib.hid hB; clear hN hB); (try go_wp2_with fail); refine hK.out _ _ hS1 (fun hHeld => ?_); clear hK K; (try simp only [Act.put, List.setIfInBounds_toArray, List.set_cons_zero, List.set_cons_succ, List.getElem_toArray, List.getElem_cons_zero, List.getElem_cons_succ])
      refine wpAnyH_ready (rs := [10]) (by kernel_rfl) (by simp) ?_; refine AllReadyH.cons rfl (fun K hK => ?_) AllReadyH.nil
      refine step_append_int (by rfl) _ _ (by rfl) (by rfl) (by rfl) HN.out (by rw [placesOf_len]; exact HL.out) HB.out.size ((HB.out.cell (p := ⟨w.heap.size, 0, none⟩) (by simp)).trans (new_cell (w := w.drew) rfl)) (fun v2 w2 hN2 hB2 => ?_)
      have hsz : w.heap.size ≤ (w.drew.alloc (.cells #[.int .i64 (x.2.1 : Int)] 3)).heap.size := by simp
      have HR2 := Lib.hid (And.intro (IRow.mono hN2 hsz) (((((Below.refl w.heap.size w).drew.alloc (Nat.le_refl _) (.cells #[.int .i64 (x.2.1 : Int)] 3)).trans (HB.out.mono hsz))).trans (hB2.mono hsz)))
      have hS2 : (fun w' => w'.cell? ⟨gb, 1, none⟩ = some (.int .i64 (x.2.1 : Int)) ∧ w'.cell? ⟨gb, 2, none⟩ = some (.pointer q')) w2 := (show (fun w' => w'.cell? ⟨gb, 1, none⟩ = some (.int .i64 (x.2.1 : Int)) ∧ w'.cell? ⟨gb, 2, none⟩ = some (.pointer q')) w2 from ⟨(hB2.cell (p := ⟨gb, 1, none⟩) (by simp; omega)).trans hS1.1, (hB2.cell (p := ⟨gb, 2, none⟩) (by simp; omega)).trans hS1.2⟩)
      clear hN2 hB2
      refine hK.out _ _ hS2 (fun hHeld => ?_); clear hK K; (try simp only [Act.put, List.setIfInBounds_toArray, List.set_cons_zero, List.set_cons_succ, List.getElem_toArray, List.getElem_cons_zero, List.getElem_cons_succ])
      refine wpAnyH_take (i := 11) (v := v2) rfl (by kernel_rfl) (by kernel_rfl) (by kernel_rfl) (fun _ _ _ h => h) (Or.inl ⟨by rfl, fun w hSw => by (try dsimp only at hSw); go_simp⟩) (by assumption) ?_; (try simp only [Act.put, List.setIfInBounds_toArray, List.set_cons_zero, List.set_cons_succ, List.getElem_toArray, List.getElem_cons_zero, List.getElem_cons_succ])
      refine wpAnyH_done (by kernel_rfl) ?_ _
      go_wp2
      go_ret
      exact ⟨v2, rfl, HR2.out.1, HR2.out.2⟩
end Go.Proofs.YthdkkpbhijlpaaaGreat
