
import Derived.Test.YtbcbmgeoaejlmaaHarm2
namespace Go.Proofs.Ytbcbmgeoaejlmaa
open Go.ChangeShapes Go.WideShapes Go.ChangeAt Go.RowKit Go.Deep

theorem FirstAt.hh {fb ib lo hi g : Nat} {cap : Array Value} {s : Option (List NP)} {C : Nat → Prop} {w : World} (h : FirstAt fb ib lo hi g cap s C w) : hi ≤ w.heap.size := Nat.le_trans h.2.1 (Nat.le_of_lt h.2.2.1)

theorem first1_any (g : Nat) (cap : Array Value) (p : Nd → Fo → Bool) (fb ib lo hi : Nat) (eg : ∀ args w, (callFunc g args).run Try.prog w = .ok (.enter g args) w) (hf : NdFn Try.prog g cap p lo hi) (C : Nat → Prop) (w : World) (q : Option Addr) (x : NP) (r : List NP) (hI : FirstAt fb ib lo hi g cap none C w) (hS : SpotP w C lo hi q (x :: r)) :
    Calls Try.prog 150 #[.pointer q, .pointer (some ⟨ib, 0, none⟩), .pointer (some ⟨fb, 0, none⟩)] w (Seen2 (stF p) (FirstAt fb ib lo hi g cap) none C (x :: r) w) := by
  have hh := hI.hh
  have HS := Lib.hid hS
  obtain ⟨gb, b, o, q', rfl, _, hg, hg2, h5, _, h7, h8, _, hkd, _⟩ := hS
  obtain ⟨c1, c2, c3, c4, c5, q0, c6, c7⟩ := id hI
  have c7 : q0 = none := c7
  subst c7
  have hcell := c5.2.2.2
  have hib := c5.2.1
  have hc := hf x.1 x.2.2 b o
  have HI := Lib.hid hI
  have HN := Lib.hid h8
  have HKD := Lib.hid hkd
  have HH := Lib.hid hh
  have hne : C fb := (c1 fb).2 rfl
  clear hI h8 hkd c5
  cases hq : p x.1 x.2.2 with
  | true =>
    have HQ := Lib.hid hq
    have e1 : stF p none (x :: r) = (some (x :: r), false) := by simp [stF, hq]
    have HE := Lib.hid e1
    clear hq e1
    go_enter Try.func150, Try.ntmps150
    go_wp2
    refine wp_region_held_drew (S := fun w' => w'.cell? ⟨ib, 0, none⟩ = some (.func (.func g) #[] cap) ∧ w'.cell? ⟨gb, 0, none⟩ = some (.pointer (some ⟨b, o, none⟩))) (by kernel_rfl) ⟨hcell, h5⟩ (fun hHeld => ?_)
    refine wpAnyH_take (i := 0) (v := .func (.func g) #[] cap) rfl (by kernel_rfl) (by kernel_rfl) (by kernel_rfl) (fun _ _ _ h => h) (Or.inl ⟨by rfl, fun w hSw => by (try dsimp only at hSw); go_simp⟩) (by assumption) ?_; (try simp only [Act.put, List.setIfInBounds_toArray, List.set_cons_zero, List.set_cons_succ, List.getElem_toArray, List.getElem_cons_zero])
    refine wpAnyH_take (i := 1) (v := .pointer (some ⟨gb, 0, none⟩)) rfl (by kernel_rfl) (by kernel_rfl) (by kernel_rfl) (fun _ _ _ h => h) (Or.inl ⟨by rfl, fun w hSw => by (try dsimp only at hSw); go_simp⟩) (by assumption) ?_; (try simp only [Act.put, List.setIfInBounds_toArray, List.set_cons_zero, List.set_cons_succ, List.getElem_toArray, List.getElem_cons_zero, List.getElem_cons_succ])
    refine wpAnyH_take (i := 2) (v := .pointer (some ⟨gb, 0, none⟩)) rfl (by kernel_rfl) (by kernel_rfl) (by kernel_rfl) (fun _ _ _ h => h) (Or.inl ⟨by rfl, fun w hSw => by (try dsimp only at hSw); go_simp⟩) (by assumption) ?_; (try simp only [Act.put, List.setIfInBounds_toArray, List.set_cons_zero, List.set_cons_succ, List.getElem_toArray, List.getElem_cons_zero, List.getElem_cons_succ])
    refine wpAnyH_take (i := 3) (v := .pointer (some ⟨gb, 0, none⟩)) rfl (by kernel_rfl) (by kernel_rfl) (by kernel_rfl) (fun _ _ _ h => h) (Or.inl ⟨by rfl, fun w hSw => by (try dsimp only at hSw); go_simp⟩) (by assumption) ?_; (try simp only [Act.put, List.setIfInBounds_toArray, List.set_cons_zero, List.set_cons_succ, List.getElem_toArray, List.getElem_cons_zero, List.getElem_cons_succ])
    refine wpAnyH_take (i := 4) (v := .pointer (some ⟨b, o, none⟩)) rfl (by kernel_rfl) (by kernel_rfl) (by kernel_rfl) (fun _ _ _ h => h) (Or.inl ⟨by rfl, fun w hSw => by (try dsimp only at hSw); go_simp⟩) (by assumption) ?_; (try simp only [Act.put, List.setIfInBounds_toArray, List.set_cons_zero, List.set_cons_succ, List.getElem_toArray, List.getElem_cons_zero, List.getElem_cons_succ])
    refine wpAnyH_ready (rs := [5]) (by kernel_rfl) (by simp) ?_; refine AllReadyH.cons rfl (fun K hK => ?_) AllReadyH.nil; go_simp; ((go_at_fn g; refine (hc w.drew (HN.out.but h7 ((But.refl No w).drew) HH.out (fun _ h => h.elim)) (HKD.out.but h7 ((But.refl No w).drew) HH.out (fun _ h => h.elim)) h7 HH.out).mono ?_; rintro e w1 ⟨rfl, hB'⟩; rw [HQ.out]; have hB := (Below.refl w.heap.size w).drew.trans hB'; have f6 := (hB.cell (p := ⟨fb, 0, none⟩) c3).trans c6; have f4 := (hB.frozen (p := ⟨fb, 0, none⟩) c3).trans c4; have f7 := (hB.cell (p := ⟨ib, 0, none⟩) hib).trans hcell; have f8 := (hB.cell (p := ⟨gb, 0, none⟩) hg).trans h5; have HB := Lib.hid hB; clear hB hB')); (try go_wp2_with fail); refine hK.out _ _ ⟨f7, f8⟩ (fun hHeld => ?_); clear hK K; (try simp only [Act.put, List.setIfInBounds_toArray, List.set_cons_zero, List.set_cons_succ, List.getElem_toArray, List.getElem_cons_zero, List.getElem_cons_succ])
    refine wpAnyH_done (by kernel_rfl) ?_ _
    go_wp2
    go_ret
    have b1 : But C w (w1.setCell ⟨fb, 0, none⟩ (.pointer (some ⟨gb, 0, none⟩))) := (But.of_below HB.out).setCell (p := ⟨fb, 0, none⟩) (Or.inl hne) _
    refine ⟨C, by rw [HE.out]; try rfl, ?_, b1, fun _ h => Or.inl h⟩
    rw [HE.out]
    have hC : ∀ k, C k → hi ≤ k := fun k hk => by rw [(c1 k).1 hk]; exact c2
    refine ⟨c1, c2, by have := HB.out.size; simp; omega, by rw [World.frozen?_setCell]; exact f4, HI.out.2.2.2.2.1.but b1 (fun _ h => Or.inl h), _, World.cell?_setCell_same _ _ _ f6, by simp, HS.out.but b1 HH.out hC (fun _ h => Or.inl h)⟩
  | false =>
    have HQ := Lib.hid hq
    have e1 : stF p none (x :: r) = (none, true) := by simp [stF, hq]
    have HE := Lib.hid e1
    clear hq e1
    go_enter Try.func150, Try.ntmps150
    go_wp2
    refine wp_region_held_drew (S := fun w' => w'.cell? ⟨ib, 0, none⟩ = some (.func (.func g) #[] cap) ∧ w'.cell? ⟨gb, 0, none⟩ = some (.pointer (some ⟨b, o, none⟩))) (by kernel_rfl) ⟨hcell, h5⟩ (fun hHeld => ?_)
    refine wpAnyH_take (i := 0) (v := .func (.func g) #[] cap) rfl (by kernel_rfl) (by kernel_rfl) (by kernel_rfl) (fun _ _ _ h => h) (Or.inl ⟨by rfl, fun w hSw => by (try dsimp only at hSw); go_simp⟩) (by assumption) ?_; (try simp only [Act.put, List.setIfInBounds_toArray, List.set_cons_zero, List.set_cons_succ, List.getElem_toArray, List.getElem_cons_zero])
    refine wpAnyH_take (i := 1) (v := .pointer (some ⟨gb, 0, none⟩)) rfl (by kernel_rfl) (by kernel_rfl) (by kernel_rfl) (fun _ _ _ h => h) (Or.inl ⟨by rfl, fun w hSw => by (try dsimp only at hSw); go_simp⟩) (by assumption) ?_; (try simp only [Act.put, List.setIfInBounds_toArray, List.set_cons_zero, List.set_cons_succ, List.getElem_toArray, List.getElem_cons_zero, List.getElem_cons_succ])
    refine wpAnyH_take (i := 2) (v := .pointer (some ⟨gb, 0, none⟩)) rfl (by kernel_rfl) (by kernel_rfl) (by kernel_rfl) (fun _ _ _ h => h) (Or.inl ⟨by rfl, fun w hSw => by (try dsimp only at hSw); go_simp⟩) (by assumption) ?_; (try simp only [Act.put, List.setIfInBounds_toArray, List.set_cons_zero, List.set_cons_succ, List.getElem_toArray, List.getElem_cons_zero, List.getElem_cons_succ])
    refine wpAnyH_take (i := 3) (v := .pointer (some ⟨gb, 0, none⟩)) rfl (by kernel_rfl) (by kernel_rfl) (by kernel_rfl) (fun _ _ _ h => h) (Or.inl ⟨by rfl, fun w hSw => by (try dsimp only at hSw); go_simp⟩) (by assumption) ?_; (try simp only [Act.put, List.setIfInBounds_toArray, List.set_cons_zero, List.set_cons_succ, List.getElem_toArray, List.getElem_cons_zero, List.getElem_cons_succ])
    refine wpAnyH_take (i := 4) (v := .pointer (some ⟨b, o, none⟩)) rfl (by kernel_rfl) (by kernel_rfl) (by kernel_rfl) (fun _ _ _ h => h) (Or.inl ⟨by rfl, fun w hSw => by (try dsimp only at hSw); go_simp⟩) (by assumption) ?_; (try simp only [Act.put, List.setIfInBounds_toArray, List.set_cons_zero, List.set_cons_succ, List.getElem_toArray, List.getElem_cons_zero, List.getElem_cons_succ])
    refine wpAnyH_ready (rs := [5]) (by kernel_rfl) (by simp) ?_; refine AllReadyH.cons rfl (fun K hK => ?_) AllReadyH.nil; go_simp; ((go_at_fn g; refine (hc w.drew (HN.out.but h7 ((But.refl No w).drew) HH.out (fun _ h => h.elim)) (HKD.out.but h7 ((But.refl No w).drew) HH.out (fun _ h => h.elim)) h7 HH.out).mono ?_; rintro e w1 ⟨rfl, hB'⟩; rw [HQ.out]; have hB := (Below.refl w.heap.size w).drew.trans hB'; have f6 := (hB.cell (p := ⟨fb, 0, none⟩) c3).trans c6; have f4 := (hB.frozen (p := ⟨fb, 0, none⟩) c3).trans c4; have f7 := (hB.cell (p := ⟨ib, 0, none⟩) hib).trans hcell; have f8 := (hB.cell (p := ⟨gb, 0, none⟩) hg).trans h5; have HB := Lib.hid hB; clear hB hB')); (try go_wp2_with fail); refine hK.out _ _ ⟨f7, f8⟩ (fun hHeld => ?_); clear hK K; (try simp only [Act.put, List.setIfInBounds_toArray, List.set_cons_zero, List.set_cons_succ, List.getElem_toArray, List.getElem_cons_zero, List.getElem_cons_succ])
    refine wpAnyH_done (by kernel_rfl) ?_ _
    go_wp2
    go_ret
    refine ⟨C, by rw [HE.out]; try rfl, ?_, But.of_below HB.out, fun _ h => Or.inl h⟩
    rw [HE.out]
    exact HI.out.keep (But.of_below HB.out) HH.out

theorem visFirst (g : Nat) (cap : Array Value) (p : Nd → Fo → Bool) (fb ib lo hi : Nat) (eg : ∀ args w, (callFunc g args).run Try.prog w = .ok (.enter g args) w) (hf : NdFn Try.prog g cap p lo hi) : Vis2 Try.prog 150 #[.pointer (some ⟨ib, 0, none⟩), .pointer (some ⟨fb, 0, none⟩)] lo hi isNew (stF p) (FirstAt fb ib lo hi g cap) where
  own := fun _ _ _ h k hk => by rw [(h.1 k).1 hk]; exact ⟨h.2.1, h.2.2.1⟩
  keep := fun _ _ _ _ h hB => h.keep hB.but h.hh
  call := fun s C w q ch hne hl ho hI hS hh => by
    cases ch with
    | nil => exact absurd rfl hne
    | cons x r => cases ho; exact first1_any g cap p fb ib lo hi eg hf C w q x r hI hS

theorem first_new (w : World) (lo hi g : Nat) (cap : Array Value) (hh : hi ≤ w.heap.size) (t1 t2 : TypeId) : FirstAt (w.heap.size + 1) w.heap.size lo hi g cap none (fun k => k = w.heap.size + 1) ((w.alloc (.cells #[.func (.func g) #[] cap] t1)).alloc (.cells #[.pointer none] t2)) := by
  refine ⟨fun _ => Iff.rfl, by omega, by simp, by simp, ⟨hh, by simp; omega, fun h => by omega, ?_⟩, none, ?_, rfl⟩
  · have : (w.alloc (.cells #[.func (.func g) #[] cap] t1)).heap.size = w.heap.size + 1 := by simp
    rw [World.cell?_alloc_lt _ _ _ (by show w.heap.size < _; rw [this]; omega)]
    exact new_cell rfl
  · have : (w.alloc (.cells #[.func (.func g) #[] cap] t1)).heap.size = w.heap.size + 1 := by simp
    have h := new_cell (w := w.alloc (.cells #[.func (.func g) #[] cap] t1)) (cs := #[.pointer none]) (t := t2) (j := 0) rfl
    rwa [this] at h
/-- the first spot that p tells, or none -/
theorem firstSpot_any (g : Nat) (cap : Array Value) (p : Nd → Fo → Bool) (lo hi : Nat) (eg : ∀ args w, (callFunc g args).run Try.prog w = .ok (.enter g args) w) (hf : NdFn Try.prog g cap p lo hi) (F : Fo)
    (w : World) (A : Option Addr) (c b o : Nat) (hd : F.nodes ≤ 1048576) (hh : hi ≤ w.heap.size) (hA : RowAt lo hi A F.len b o) (hF : FoAt w lo hi b o F) :
    Calls Try.prog 87 #[.slice A F.len c, .func (.func g) #[] cap] w fun e w' => ∃ (q : Option Addr) (D : Nat → Prop), e = .returned (.pointer q) ∧ Below w.heap.size w w' ∧ FirstIs w' D lo hi q (firstF p F [] 0) := by
  have hmf : ∀ (fn : Fn) (first cap : Array Value) (w : World), (Instr.makeFunc fn first cap).run Try.prog w = .ok (.func fn first cap) w := fun _ _ _ _ => rfl
  have HA := Lib.hid hA
  have HF := Lib.hid hF
  have HG := Lib.hid hf
  clear hA hF hf
  go_enter Try.func87, Try.ntmps87
  go_wp2_with fail
  refine (walk2_any 150 #[.pointer (some ⟨w.heap.size, 0, none⟩), .pointer (some ⟨w.heap.size + 1, 0, none⟩)] lo hi isNew (stF p) (FirstAt (w.heap.size + 1) w.heap.size lo hi g cap) (visFirst g cap p (w.heap.size + 1) w.heap.size lo hi eg HG.out) (enters_of Try.func150 (by kernel_rfl) rfl) F none (fun k => k = w.heap.size + 1) _ A c b o hd (travP2_first p F [] 0) ?_ ?_ HA.out ?_).mono ?_
  · exact first_new w lo hi g cap hh _ _
  · simp; omega
  · exact HF.out.but HA.out (((But.refl No w).alloc _).alloc _) hh (fun _ h => h.elim)
  · rintro e w2 ⟨D, rfl, i1, b1, d1⟩
    rw [trav2_first] at i1
    obtain ⟨_, _, _, _, _, q, h6, h7⟩ := i1
    have B2 := Lib.hid ((((Below.refl w.heap.size w).alloc (Nat.le_refl _) _).alloc (by simp) _).trans (b1.below (B := w.heap.size) (fun k hk => by rw [hk]; exact Nat.le_succ _) (by simp; omega)))
    have H7 := Lib.hid h7
    clear b1 d1 h7
    go_wp2
    go_ret
    exact ⟨q, D, rfl, B2.out, H7.out⟩
end Go.Proofs.Ytbcbmgeoaejlmaa
