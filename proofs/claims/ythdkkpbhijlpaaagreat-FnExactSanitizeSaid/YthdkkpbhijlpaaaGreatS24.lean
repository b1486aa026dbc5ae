import Derived.Deep.RegionHeld3
import Derived.Shelf.Abstract
import Derived.Outline
import Derived.Laws.EntriesVeiled
import Derived.Test.YthdkkpbhijlpaaaGreatS21
set_option linter.unusedVariables false
namespace Go.Proofs.YthdkkpbhijlpaaaGreat
open Go.ChangeShapes Go.WideShapes Go.ChangeAt Go.RowKit Go.Deep
variable {σ : Type}

/-- the boxes that the inner walk has captured: the visitor, and itself -/
def Boxes (w : World) (C : Nat → Prop) (hi pv pw g : Nat) (cap : Array Value) : Prop :=
  (hi ≤ pv ∧ pv < w.heap.size ∧ ¬ C pv ∧ w.cell? ⟨pv, 0, none⟩ = some (.func (.func g) #[] cap)) ∧
  (hi ≤ pw ∧ pw < w.heap.size ∧ ¬ C pw ∧ w.cell? ⟨pw, 0, none⟩ = some (.func (.func 160) #[] #[.pointer (some ⟨pv, 0, none⟩), .pointer (some ⟨pw, 0, none⟩)]))
theorem Boxes.but {C D : Nat → Prop} {w w' : World} {hi pv pw g : Nat} {cap : Array Value} (h : Boxes w C hi pv pw g cap) (hB : But C w w') (hD : ∀ k, D k → C k ∨ w.heap.size ≤ k) : Boxes w' D hi pv pw g cap := by
  obtain ⟨⟨a1, a2, a3, a4⟩, b1, b2, b3, b4⟩ := h
  exact ⟨⟨a1, Nat.lt_of_lt_of_le a2 hB.size, fun d => (hD pv d).elim a3 fun x => by omega, (hB.cell (p := ⟨pv, 0, none⟩) a2 a3).trans a4⟩, b1, Nat.lt_of_lt_of_le b2 hB.size, fun d => (hD pw d).elim b3 fun x => by omega, (hB.cell (p := ⟨pw, 0, none⟩) b2 b3).trans b4⟩
def WalkOK (g : Nat) (cap : Array Value) (lo hi : Nat) (ok : σ → List NP → Prop) (st : σ → List NP → σ × Bool) (Inv : σ → (Nat → Prop) → World → Prop) (F : Fo) : Prop :=
  ∀ (ch : List NP) (s : σ) (C : Nat → Prop) (w : World) (A par : Option Addr) (c b o pv pw : Nat), ch.length + F.nodes ≤ 1048576 → travP2 ok st F ch 0 s → Inv s C w → hi ≤ w.heap.size → RowAt lo hi A F.len b o → FoAt w lo hi b o F → SpotP w C lo hi par ch → Boxes w C hi pv pw g cap →
    Calls Tryz.prog 160 #[.slice A F.len c, .pointer par, .pointer (some ⟨pv, 0, none⟩), .pointer (some ⟨pw, 0, none⟩)] w (Gone2 st Inv s C ch F 0 w)
theorem trav2_cut1 {st : σ → List NP → σ × Bool} {k sp : Int} {n t : ByteArray} {al : List (ByteArray × ByteArray)} {kids rest : Fo} {ch : List NP} {j : Nat} {s : σ} (h : (st s ((⟨k, sp, n, t, al⟩, j, kids) :: ch)).2 = false) :
    trav2 st (.cons k sp n t al kids rest) ch j s = ((st s ((⟨k, sp, n, t, al⟩, j, kids) :: ch)).1, false) := by rw [trav2, if_neg (by rw [h]; simp)]
theorem trav2_cut2 {st : σ → List NP → σ × Bool} {k sp : Int} {n t : ByteArray} {al : List (ByteArray × ByteArray)} {kids rest : Fo} {ch : List NP} {j : Nat} {s : σ} (h : (st s ((⟨k, sp, n, t, al⟩, j, kids) :: ch)).2 = true)
    (h2 : (trav2 st kids ((⟨k, sp, n, t, al⟩, j, kids) :: ch) 0 (st s ((⟨k, sp, n, t, al⟩, j, kids) :: ch)).1).2 = false) :
    trav2 st (.cons k sp n t al kids rest) ch j s = ((trav2 st kids ((⟨k, sp, n, t, al⟩, j, kids) :: ch) 0 (st s ((⟨k, sp, n, t, al⟩, j, kids) :: ch)).1).1, false) := by rw [trav2, if_pos h, if_neg (by rw [h2]; simp)]
theorem trav2_on {st : σ → List NP → σ × Bool} {k sp : Int} {n t : ByteArray} {al : List (ByteArray × ByteArray)} {kids rest : Fo} {ch : List NP} {j : Nat} {s : σ} (h : (st s ((⟨k, sp, n, t, al⟩, j, kids) :: ch)).2 = true)
    (h2 : (trav2 st kids ((⟨k, sp, n, t, al⟩, j, kids) :: ch) 0 (st s ((⟨k, sp, n, t, al⟩, j, kids) :: ch)).1).2 = true) :
    trav2 st (.cons k sp n t al kids rest) ch j s = trav2 st rest ch (j + 1) (trav2 st kids ((⟨k, sp, n, t, al⟩, j, kids) :: ch) 0 (st s ((⟨k, sp, n, t, al⟩, j, kids) :: ch)).1).1 := by rw [trav2, if_pos h, if_pos h2]
/-- all that is known where a node's visit begins -/
structure Here (g : Nat) (cap : Array Value) (lo hi : Nat) (st : σ → List NP → σ × Bool) (Inv : σ → (Nat → Prop) → World → Prop) (x : NP) (kids : Fo) (ch : List NP) (s : σ) (C D : Nat → Prop) (w W : World) (here pv pw b5 o5 : Nat) (A5 : Option Addr) : Prop where
  inv : Inv s D W
  but : But C w W
  own : ∀ k, D k → C k ∨ w.heap.size ≤ k
  spot : SpotP W D lo hi (some ⟨here, 0, none⟩) (x :: ch)
  box : Boxes W D hi pv pw g cap
  row : RowAt lo hi A5 kids.len b5 o5
  fo : FoAt W lo hi b5 o5 kids
  hi : hi ≤ W.heap.size
theorem Here.drew {ok : σ → List NP → Prop} {g : Nat} {cap : Array Value} {lo hi : Nat} {st : σ → List NP → σ × Bool} {Inv : σ → (Nat → Prop) → World → Prop} {x : NP} {kids : Fo} {ch : List NP} {s : σ} {C D : Nat → Prop} {w W : World} {here pv pw b5 o5 : Nat} {A5 : Option Addr}
    (V : Vis2 Tryz.prog g cap lo hi ok st Inv) (h : Here g cap lo hi st Inv x kids ch s C D w W here pv pw b5 o5 A5) : Here g cap lo hi st Inv x kids ch s C D w W.drew here pv pw b5 o5 A5 := by
  have hb : But D W W.drew := (But.refl _ _).drew
  have hc : ∀ k, D k → hi ≤ k := fun k hk => (V.own _ _ _ h.inv k hk).1
  exact ⟨V.keep _ _ _ _ h.inv (Kin.refl _).drew, h.but.drew, h.own, h.spot.but hb h.hi hc (fun _ h => Or.inl h), h.box.but hb fun _ h => Or.inl h, h.row, h.fo.but h.row hb h.hi hc, h.hi⟩
theorem Here.next {ok : σ → List NP → Prop} {g : Nat} {cap : Array Value} {lo hi : Nat} {st : σ → List NP → σ × Bool} {Inv : σ → (Nat → Prop) → World → Prop} {x : NP} {kids : Fo} {ch : List NP} {s s1 : σ} {C D D1 : Nat → Prop} {w W w1 : World} {here pv pw b5 o5 : Nat} {A5 : Option Addr}
    (V : Vis2 Tryz.prog g cap lo hi ok st Inv) (h : Here g cap lo hi st Inv x kids ch s C D w W here pv pw b5 o5 A5) (i1 : Inv s1 D1 w1) (b1 : But D W w1) (d1 : ∀ k, D1 k → D k ∨ W.heap.size ≤ k) :
    Here g cap lo hi st Inv x kids ch s1 C D1 w w1 here pv pw b5 o5 A5 := by
  have hc : ∀ k, D k → hi ≤ k := fun k hk => (V.own _ _ _ h.inv k hk).1
  refine ⟨i1, h.but.trans b1 h.own, fun k hk => (d1 k hk).elim (h.own k) fun z => Or.inr (Nat.le_trans h.but.size z), h.spot.but b1 h.hi hc d1, h.box.but b1 d1, h.row, h.fo.but h.row b1 h.hi hc, Nat.le_trans h.hi b1.size⟩
theorem Here.at {g : Nat} {cap : Array Value} {lo hi : Nat} {st : σ → List NP → σ × Bool} {Inv : σ → (Nat → Prop) → World → Prop} {x : NP} {kids : Fo} {ch : List NP} {s : σ} {C D : Nat → Prop} {w W : World} {here pv pw b5 o5 : Nat} {A5 : Option Addr}
    (h : Here g cap lo hi st Inv x kids ch s C D w W here pv pw b5 o5 A5) : here < W.heap.size ∧ ¬ D here := by
  obtain ⟨g, b, o, q, e, _, h2, h3, _⟩ := h.spot
  injection e with e
  injection e with e
  subst e
  exact ⟨h2, h3⟩
/-- where the walk stands: what is left, and what has been seen of the state -/
def WalkAt (lo hi : Nat) (ok : σ → List NP → Prop) (st : σ → List NP → σ × Bool) (Inv : σ → (Nat → Prop) → World → Prop) (F suf : Fo) (ch : List NP) (s : σ) (C : Nat → Prop) (w wr : World) (b o k N : Nat) : Prop :=
  ∃ (s' : σ) (D : Nat → Prop), trav2 st F ch 0 s = trav2 st suf ch k s' ∧ travP2 ok st suf ch k s' ∧ Inv s' D wr ∧ But C w wr ∧ (∀ k, D k → C k ∨ w.heap.size ≤ k) ∧ FoAt w lo hi b o suf ∧ suf.nodes < N ∧ ch.length + suf.nodes ≤ 1048576
set_option maxHeartbeats 1000000 in
theorem walk1_lt (g : Nat) (cap : Array Value) (lo hi : Nat) (ok : σ → List NP → Prop) (st : σ → List NP → σ × Bool) (Inv : σ → (Nat → Prop) → World → Prop) (V : Vis2 Tryz.prog g cap lo hi ok st Inv) (eg : ∀ args w, (callFunc g args).run Tryz.prog w = .ok (.enter g args) w) :
    ∀ (N : Nat) (F : Fo), F.nodes < N → WalkOK g cap lo hi ok st Inv F := by
  intro N
  induction N with
  | zero => intro F hF; omega
  | succ N IH =>
  intro F hF ch s C w A par c b o pv pw hd htp hI hh hA hFo hSp hBx
  have hlen := hA.1
  unfold maxLen at hlen
  have HA := Lib.hid hA
  have HS := Lib.hid hFo
  have HF := Lib.hid (And.intro hF (And.intro hd htp))
  have HI := Lib.hid IH
  have HInv := Lib.hid hI
  have HSp := Lib.hid hSp
  have HBx := Lib.hid hBx
  have HV := Lib.hid V
  clear hA hFo hF hd htp IH hI hSp hBx V
  go_enter Tryz.func160, Tryz.ntmps160
  go_wp2
  go_loopw [11] (fun i wr => ∃ (k : Nat) (suf : Fo), i = .int .i64 (k : Int) ∧ k + suf.len = F.len ∧ Hid (WalkAt lo hi ok st Inv F suf ch s C w wr b (o + k * 6) k (N + 1))) (fun i wr => F.len - (intOf i).toNat)
  case atStart => exact ⟨0, F, rfl, by omega, Lib.hid ⟨s, C, rfl, HF.out.2.2, HInv.out, But.refl _ _, fun _ h => Or.inl h, by simpa using HS.out, HF.out.1, HF.out.2.1⟩⟩
  case round =>
    obtain ⟨k, suf, rfl, hk, HH⟩ := hrel
    cases suf with
    | nil =>
      have hkl : k = F.len := by simpa [Fo.len] using hk
      clear hk
      subst hkl
      go_wp2
      go_ret
      obtain ⟨s', D, e1, _, e2, e3, e4, _, _⟩ := HH.out
      exact ⟨D, by rw [e1]; rfl, by rw [e1]; exact e2, e3, e4⟩
    | cons xk xs xn xt xa kids r =>
      have hkl : k < F.len := by simp [Fo.len] at hk; omega
      obtain ⟨s', D, T1, TP, T2, T3, T4, ⟨⟨c0, c1, c2, c3, z2, z3⟩, ⟨A4, c4, b4, o4, s4, r4, a4⟩, ⟨A5, c5, b5, o5, s5, r5, a5⟩, sr⟩, T6⟩ := HH.out
      obtain ⟨rfl, hlo, hhi⟩ := HA.out.2 (by omega)
      have hb : b < wr.heap.size := Nat.lt_of_lt_of_le (Nat.lt_of_lt_of_le hhi hh) T3.size
      have hDi : ∀ k, D k → hi ≤ k := fun k hk => (HV.out.own _ _ _ T2 k hk).1
      have hCi : ∀ k, C k → hi ≤ k := fun k hk => (HV.out.own _ _ _ HInv.out k hk).1
      have hhr : hi ≤ wr.heap.size := Nat.le_trans hh T3.size
      have E0 : Here g cap lo hi st Inv (⟨xk, xs, xn, xt, xa⟩, k, kids) kids ch s' C D w (wr.alloc (.cells #[.pointer (some ⟨b, o + k * 6, none⟩), .int .i64 (k : Int), .pointer par] 135)) wr.heap.size pv pw b5 o5 A5 := by
        have q0 : But D wr (wr.alloc (.cells #[.pointer (some ⟨b, o + k * 6, none⟩), .int .i64 (k : Int), .pointer par] 135)) := (But.refl _ _).alloc _
        have q1 := (T3.alloc (.cells #[.pointer (some ⟨b, o + k * 6, none⟩), .int .i64 (k : Int), .pointer par] 135))
        refine ⟨HV.out.keep _ _ _ _ T2 ((Kin.refl _).alloc _ _ (by decide)), q1, T4, ?_, (HBx.out.but T3 T4).but q0 (fun _ h => Or.inl h), r5.2, a5.but r5.2 q1 hh hCi, by simp; omega⟩
        refine ⟨wr.heap.size, b, o + k * 6, par, rfl, hhr, by simp, fun d => ?_, ?_, ?_, hhi, ?_, ?_, ?_, ?_⟩
        · have := (HV.out.own _ _ _ T2 _ d).2; omega
        · exact new_cell rfl
        · exact new_cell rfl
        · exact NdAt.but ⟨⟨c0, c1, c2, c3, z2, z3⟩, A4, c4, b4, o4, s4, r4, a4⟩ hhi q1 hh hCi
        · exact new_cell rfl
        · exact KidsAt.but ⟨A5, c5, b5, o5, s5, r5, a5⟩ hhi q1 hh hCi
        · exact (HSp.out.but T3 hh hCi T4).but q0 hhr hDi (fun _ h => Or.inl h)
      have hc5 := ((T3.alloc (.cells #[.pointer (some ⟨b, o + k * 6, none⟩), .int .i64 (k : Int), .pointer par] 135)).cell (p := ⟨b, o + k * 6 + 5, none⟩) (by show b < _; omega) (fun c => by have := hCi _ c; simp at this; omega)).trans s5
      have hcv := E0.box.1.2.2.2
      have hcw := E0.box.2.2.2.2
      have hch := E0.spot
      have hch0 : (wr.alloc (.cells #[.pointer (some ⟨b, o + k * 6, none⟩), .int .i64 (k : Int), .pointer par] 135)).cell? ⟨wr.heap.size, 0, none⟩ = some (.pointer (some ⟨b, o + k * 6, none⟩)) := new_cell rfl
      have E := Lib.hid E0
      have HTP := Lib.hid TP
      have HT := Lib.hid (And.intro T1 (And.intro T6 (show FoAt w lo hi b (o + k * 6 + 6) r from sr)))
      have HHr := Lib.hid hhr
      clear E0 T1 TP T2 T3 T4 T6 c0 c1 c2 c3 z2 z3 s4 r4 a4 s5 r5 a5 sr hch hhr
      go_wp2
      generalize wr.alloc (.cells #[.pointer (some ⟨b, o + k * 6, none⟩), .int .i64 (k : Int), .pointer par] 135) = W at E hc5 hcv hcw hch0 ⊢
      have hDi' := Lib.hid hDi
      have hCi' := Lib.hid hCi
      clear hDi hCi
      have ED := Lib.hid (E.out.drew HV.out)
      cases hr1 : (st s' ((⟨xk, xs, xn, xt, xa⟩, k, kids) :: ch)).2 with
      | false =>
        have HR1 := Lib.hid hr1
        clear hr1
        refine wp_region_held_drew (S := fun w' => w'.cell? ⟨pv, 0, none⟩ = some (.func (.func g) #[] cap)) (by kernel_rfl) (by simpa using hcv) (fun hHeld => ?_)
        refine wpAnyH_take (i := 0) (v := .func (.func g) #[] cap) rfl (by kernel_rfl) (by kernel_rfl) (by kernel_rfl) (fun _ _ _ h => h) (Or.inl ⟨by rfl, fun w hSw => by (try dsimp only at hSw); go_simp⟩) (by assumption) ?_; (try simp only [Act.put, List.setIfInBounds_toArray, List.set_cons_zero, List.set_cons_succ, List.getElem_toArray, List.getElem_cons_zero])
        refine wpAnyH_take (i := 1) (v := .pointer (some ⟨wr.heap.size, 0, none⟩)) rfl (by kernel_rfl) (by kernel_rfl) (by kernel_rfl) (fun _ _ _ h => h) (Or.inl ⟨by rfl, fun w hSw => by (try dsimp only at hSw); go_simp⟩) (by assumption) ?_; (try simp only [Act.put, List.setIfInBounds_toArray, List.set_cons_zero, List.set_cons_succ, List.getElem_toArray, List.getElem_cons_zero, List.getElem_cons_succ])
        refine wpAnyH_ready (rs := [2]) (by kernel_rfl) (by simp) ?_; refine AllReadyH.cons rfl (fun K hK => ?_) AllReadyH.nil; go_simp; (go_at_fn g; refine (HV.out.call s' D _ _ ((⟨xk, xs, xn, xt, xa⟩, k, kids) :: ch) (by simp) (by have := HT.out.2.1.2; simp [Fo.nodes] at this; simp; omega) HTP.out.1 ED.out.inv ED.out.spot ED.out.hi).mono ?_; rintro e w1 ⟨D1, rfl, i1, b1, d1⟩; rw [HR1.out]; have hcv1 := (b1.cell (p := ⟨pv, 0, none⟩) ED.out.box.1.2.1 ED.out.box.1.2.2.1).trans ED.out.box.1.2.2.2; have K1 := Lib.hid (And.intro i1 (And.intro b1 d1)); clear i1 b1 d1); (try go_wp2_with fail); refine hK.out _ _ hcv1 (fun hHeld => ?_); clear hK K; (try simp only [Act.put, List.setIfInBounds_toArray, List.set_cons_zero, List.set_cons_succ, List.getElem_toArray, List.getElem_cons_zero, List.getElem_cons_succ])
        refine wpAnyH_take (i := 3) (v := .bool true) rfl (by kernel_rfl) (by kernel_rfl) (by kernel_rfl) (fun _ _ _ h => h) (Or.inl ⟨by rfl, fun w hSw => by (try dsimp only at hSw); go_simp⟩) (by assumption) ?_; (try simp only [Act.put, List.setIfInBounds_toArray, List.set_cons_zero, List.set_cons_succ, List.getElem_toArray, List.getElem_cons_zero, List.getElem_cons_succ])
        refine wpAnyH_take (i := 4) (v := .bool true) rfl (by kernel_rfl) (by kernel_rfl) (by kernel_rfl) (fun _ _ _ h => h) (Or.inl ⟨by rfl, fun w hSw => by (try dsimp only at hSw); go_simp⟩) (by assumption) ?_; (try simp only [Act.put, List.setIfInBounds_toArray, List.set_cons_zero, List.set_cons_succ, List.getElem_toArray, List.getElem_cons_zero, List.getElem_cons_succ])
        refine wpAnyH_take (i := 5) (v := undef) rfl (by kernel_rfl) (by kernel_rfl) (by kernel_rfl) (fun _ _ _ h => h) (Or.inr ⟨by rfl, rfl⟩) (by assumption) ?_; (try simp only [Act.put, List.setIfInBounds_toArray, List.set_cons_zero, List.set_cons_succ, List.getElem_toArray, List.getElem_cons_zero, List.getElem_cons_succ])
        refine wpAnyH_take (i := 6) (v := undef) rfl (by kernel_rfl) (by kernel_rfl) (by kernel_rfl) (fun _ _ _ h => h) (Or.inr ⟨by rfl, rfl⟩) (by assumption) ?_; (try simp only [Act.put, List.setIfInBounds_toArray, List.set_cons_zero, List.set_cons_succ, List.getElem_toArray, List.getElem_cons_zero, List.getElem_cons_succ])
        refine wpAnyH_take (i := 7) (v := undef) rfl (by kernel_rfl) (by kernel_rfl) (by kernel_rfl) (fun _ _ _ h => h) (Or.inr ⟨by rfl, rfl⟩) (by assumption) ?_; (try simp only [Act.put, List.setIfInBounds_toArray, List.set_cons_zero, List.set_cons_succ, List.getElem_toArray, List.getElem_cons_zero, List.getElem_cons_succ])
        refine wpAnyH_take (i := 8) (v := undef) rfl (by kernel_rfl) (by kernel_rfl) (by kernel_rfl) (fun _ _ _ h => h) (Or.inr ⟨by rfl, rfl⟩) (by assumption) ?_; (try simp only [Act.put, List.setIfInBounds_toArray, List.set_cons_zero, List.set_cons_succ, List.getElem_toArray, List.getElem_cons_zero, List.getElem_cons_succ])
        refine wpAnyH_take (i := 9) (v := undef) rfl (by kernel_rfl) (by kernel_rfl) (by kernel_rfl) (fun _ _ _ h => h) (Or.inr ⟨by rfl, rfl⟩) (by assumption) ?_; (try simp only [Act.put, List.setIfInBounds_toArray, List.set_cons_zero, List.set_cons_succ, List.getElem_toArray, List.getElem_cons_zero, List.getElem_cons_succ])
        refine wpAnyH_take (i := 10) (v := undef) rfl (by kernel_rfl) (by kernel_rfl) (by kernel_rfl) (fun _ _ _ h => h) (Or.inr ⟨by rfl, rfl⟩) (by assumption) ?_; (try simp only [Act.put, List.setIfInBounds_toArray, List.set_cons_zero, List.set_cons_succ, List.getElem_toArray, List.getElem_cons_zero, List.getElem_cons_succ])
        refine wpAnyH_take (i := 11) (v := undef) rfl (by kernel_rfl) (by kernel_rfl) (by kernel_rfl) (fun _ _ _ h => h) (Or.inr ⟨by rfl, rfl⟩) (by assumption) ?_; (try simp only [Act.put, List.setIfInBounds_toArray, List.set_cons_zero, List.set_cons_succ, List.getElem_toArray, List.getElem_cons_zero, List.getElem_cons_succ])
        refine wpAnyH_take (i := 12) (v := undef) rfl (by kernel_rfl) (by kernel_rfl) (by kernel_rfl) (fun _ _ _ h => h) (Or.inr ⟨by rfl, rfl⟩) (by assumption) ?_; (try simp only [Act.put, List.setIfInBounds_toArray, List.set_cons_zero, List.set_cons_succ, List.getElem_toArray, List.getElem_cons_zero, List.getElem_cons_succ])
        refine wpAnyH_take (i := 13) (v := undef) rfl (by kernel_rfl) (by kernel_rfl) (by kernel_rfl) (fun _ _ _ h => h) (Or.inr ⟨by rfl, rfl⟩) (by assumption) ?_; (try simp only [Act.put, List.setIfInBounds_toArray, List.set_cons_zero, List.set_cons_succ, List.getElem_toArray, List.getElem_cons_zero, List.getElem_cons_succ])
        refine wpAnyH_take (i := 14) (v := undef) rfl (by kernel_rfl) (by kernel_rfl) (by kernel_rfl) (fun _ _ _ h => h) (Or.inr ⟨by rfl, rfl⟩) (by assumption) ?_; (try simp only [Act.put, List.setIfInBounds_toArray, List.set_cons_zero, List.set_cons_succ, List.getElem_toArray, List.getElem_cons_zero, List.getElem_cons_succ])
        refine wpAnyH_take (i := 15) (v := undef) rfl (by kernel_rfl) (by kernel_rfl) (by kernel_rfl) (fun _ _ _ h => h) (Or.inr ⟨by rfl, rfl⟩) (by assumption) ?_; (try simp only [Act.put, List.setIfInBounds_toArray, List.set_cons_zero, List.set_cons_succ, List.getElem_toArray, List.getElem_cons_zero, List.getElem_cons_succ])
        refine wpAnyH_take (i := 16) (v := .bool true) rfl (by kernel_rfl) (by kernel_rfl) (by kernel_rfl) (fun _ _ _ h => h) (Or.inl ⟨by rfl, fun w hSw => by (try dsimp only at hSw); go_simp⟩) (by assumption) ?_; (try simp only [Act.put, List.setIfInBounds_toArray, List.set_cons_zero, List.set_cons_succ, List.getElem_toArray, List.getElem_cons_zero, List.getElem_cons_succ])
        refine wpAnyH_done (by kernel_rfl) ?_ _
        go_wp2
        go_ret
        have e2 := HT.out.1.trans (trav2_cut1 HR1.out)
        have E2 := ED.out.next HV.out K1.out.1 K1.out.2.1 K1.out.2.2
        exact ⟨D1, by rw [e2]; rfl, by rw [e2]; exact K1.out.1, E2.but, E2.own⟩
      | true =>
        have HR1 := Lib.hid hr1
        clear hr1
        cases hr2 : (trav2 st kids ((⟨xk, xs, xn, xt, xa⟩, k, kids) :: ch) 0 (st s' ((⟨xk, xs, xn, xt, xa⟩, k, kids) :: ch)).1).2 with
        | false =>
          have HR2 := Lib.hid hr2
          clear hr2
          refine wp_region_held_drew (S := fun w' => w'.cell? ⟨pv, 0, none⟩ = some (.func (.func g) #[] cap) ∧ w'.cell? ⟨pw, 0, none⟩ = some (.func (.func 160) #[] #[.pointer (some ⟨pv, 0, none⟩), .pointer (some ⟨pw, 0, none⟩)]) ∧ w'.cell? ⟨wr.heap.size, 0, none⟩ = some (.pointer (some ⟨b, o + k * 6, none⟩)) ∧ w'.cell? ⟨b, o + k * 6 + 5, none⟩ = some (.slice A5 kids.len c5)) (by kernel_rfl) ⟨by simpa using hcv, by simpa using hcw, by simpa using hch0, by simpa using hc5⟩ (fun hHeld => ?_)
          refine wpAnyH_take (i := 0) (v := .func (.func g) #[] cap) rfl (by kernel_rfl) (by kernel_rfl) (by kernel_rfl) (fun _ _ _ h => h) (Or.inl ⟨by rfl, fun w hSw => by (try dsimp only at hSw); go_simp⟩) (by assumption) ?_; (try simp only [Act.put, List.setIfInBounds_toArray, List.set_cons_zero, List.set_cons_succ, List.getElem_toArray, List.getElem_cons_zero])
          refine wpAnyH_take (i := 1) (v := .pointer (some ⟨wr.heap.size, 0, none⟩)) rfl (by kernel_rfl) (by kernel_rfl) (by kernel_rfl) (fun _ _ _ h => h) (Or.inl ⟨by rfl, fun w hSw => by (try dsimp only at hSw); go_simp⟩) (by assumption) ?_; (try simp only [Act.put, List.setIfInBounds_toArray, List.set_cons_zero, List.set_cons_succ, List.getElem_toArray, List.getElem_cons_zero, List.getElem_cons_succ])
          refine wpAnyH_ready (rs := [2]) (by kernel_rfl) (by simp) ?_; refine AllReadyH.cons rfl (fun K hK => ?_) AllReadyH.nil; go_simp; (go_at_fn g; refine (HV.out.call s' D _ _ ((⟨xk, xs, xn, xt, xa⟩, k, kids) :: ch) (by simp) (by have := HT.out.2.1.2; simp [Fo.nodes] at this; simp; omega) HTP.out.1 ED.out.inv ED.out.spot ED.out.hi).mono ?_; rintro e w1 ⟨D1, rfl, i1, b1, d1⟩; rw [HR1.out]; have KE := Lib.hid (ED.out.next HV.out i1 b1 d1); have hch1 := (b1.cell (p := ⟨wr.heap.size, 0, none⟩) ED.out.at.1 ED.out.at.2).trans hch0; have hc51 := (b1.cell (p := ⟨b, o + k * 6 + 5, none⟩) (Nat.lt_of_lt_of_le hhi ED.out.hi) (fun d => absurd (hDi'.out _ d) (Nat.not_le.2 hhi))).trans hc5; clear i1 b1 d1); (try go_wp2_with fail); refine hK.out _ _ ⟨KE.out.box.1.2.2.2, KE.out.box.2.2.2.2, hch1, hc51⟩ (fun hHeld => ?_); clear hK K; (try simp only [Act.put, List.setIfInBounds_toArray, List.set_cons_zero, List.set_cons_succ, List.getElem_toArray, List.getElem_cons_zero, List.getElem_cons_succ])
          refine wpAnyH_take (i := 3) (v := .bool false) rfl (by kernel_rfl) (by kernel_rfl) (by kernel_rfl) (fun _ _ _ h => h) (Or.inl ⟨by rfl, fun w hSw => by (try dsimp only at hSw); go_simp⟩) (by assumption) ?_; (try simp only [Act.put, List.setIfInBounds_toArray, List.set_cons_zero, List.set_cons_succ, List.getElem_toArray, List.getElem_cons_zero, List.getElem_cons_succ])
          refine wpAnyH_take (i := 4) (v := .bool false) rfl (by kernel_rfl) (by kernel_rfl) (by kernel_rfl) (fun _ _ _ h => h) (Or.inl ⟨by rfl, fun w hSw => by (try dsimp only at hSw); go_simp⟩) (by assumption) ?_; (try simp only [Act.put, List.setIfInBounds_toArray, List.set_cons_zero, List.set_cons_succ, List.getElem_toArray, List.getElem_cons_zero, List.getElem_cons_succ])
          refine wpAnyH_take (i := 5) (v := .func (.func 160) #[] #[.pointer (some ⟨pv, 0, none⟩), .pointer (some ⟨pw, 0, none⟩)]) rfl (by kernel_rfl) (by kernel_rfl) (by kernel_rfl) (fun _ _ _ h => h) (Or.inl ⟨by rfl, fun w hSw => by (try dsimp only at hSw); go_simp⟩) (by assumption) ?_; (try simp only [Act.put, List.setIfInBounds_toArray, List.set_cons_zero, List.set_cons_succ, List.getElem_toArray, List.getElem_cons_zero, List.getElem_cons_succ])
          refine wpAnyH_take (i := 6) (v := .pointer (some ⟨wr.heap.size, 0, none⟩)) rfl (by kernel_rfl) (by kernel_rfl) (by kernel_rfl) (fun _ _ _ h => h) (Or.inl ⟨by rfl, fun w hSw => by (try dsimp only at hSw); go_simp⟩) (by assumption) ?_; (try simp only [Act.put, List.setIfInBounds_toArray, List.set_cons_zero, List.set_cons_succ, List.getElem_toArray, List.getElem_cons_zero, List.getElem_cons_succ])
          refine wpAnyH_take (i := 7) (v := .pointer (some ⟨wr.heap.size, 0, none⟩)) rfl (by kernel_rfl) (by kernel_rfl) (by kernel_rfl) (fun _ _ _ h => h) (Or.inl ⟨by rfl, fun w hSw => by (try dsimp only at hSw); go_simp⟩) (by assumption) ?_; (try simp only [Act.put, List.setIfInBounds_toArray, List.set_cons_zero, List.set_cons_succ, List.getElem_toArray, List.getElem_cons_zero, List.getElem_cons_succ])
          refine wpAnyH_take (i := 8) (v := .pointer (some ⟨wr.heap.size, 0, none⟩)) rfl (by kernel_rfl) (by kernel_rfl) (by kernel_rfl) (fun _ _ _ h => h) (Or.inl ⟨by rfl, fun w hSw => by (try dsimp only at hSw); go_simp⟩) (by assumption) ?_; (try simp only [Act.put, List.setIfInBounds_toArray, List.set_cons_zero, List.set_cons_succ, List.getElem_toArray, List.getElem_cons_zero, List.getElem_cons_succ])
          refine wpAnyH_take (i := 9) (v := .pointer (some ⟨b, o + k * 6, none⟩)) rfl (by kernel_rfl) (by kernel_rfl) (by kernel_rfl) (fun _ _ _ h => h) (Or.inl ⟨by rfl, fun w hSw => by (try dsimp only at hSw); go_simp⟩) (by assumption) ?_; (try simp only [Act.put, List.setIfInBounds_toArray, List.set_cons_zero, List.set_cons_succ, List.getElem_toArray, List.getElem_cons_zero, List.getElem_cons_succ])
          refine wpAnyH_take (i := 10) (v := .pointer (some ⟨b, o + k * 6, none⟩)) rfl (by kernel_rfl) (by kernel_rfl) (by kernel_rfl) (fun _ _ _ h => h) (Or.inl ⟨by rfl, fun w hSw => by (try dsimp only at hSw); go_simp⟩) (by assumption) ?_; (try simp only [Act.put, List.setIfInBounds_toArray, List.set_cons_zero, List.set_cons_succ, List.getElem_toArray, List.getElem_cons_zero, List.getElem_cons_succ])
          refine wpAnyH_take (i := 11) (v := .pointer (some ⟨b, o + k * 6 + 5, none⟩)) rfl (by kernel_rfl) (by kernel_rfl) (by kernel_rfl) (fun _ _ _ h => h) (Or.inl ⟨by rfl, fun w hSw => by (try dsimp only at hSw); go_simp⟩) (by assumption) ?_; (try simp only [Act.put, List.setIfInBounds_toArray, List.set_cons_zero, List.set_cons_succ, List.getElem_toArray, List.getElem_cons_zero, List.getElem_cons_succ])
          refine wpAnyH_take (i := 12) (v := .slice A5 kids.len c5) rfl (by kernel_rfl) (by kernel_rfl) (by kernel_rfl) (fun _ _ _ h => h) (Or.inl ⟨by rfl, fun w hSw => by (try dsimp only at hSw); go_simp⟩) (by assumption) ?_; (try simp only [Act.put, List.setIfInBounds_toArray, List.set_cons_zero, List.set_cons_succ, List.getElem_toArray, List.getElem_cons_zero, List.getElem_cons_succ])
          refine wpAnyH_take (i := 13) (v := .pointer (some ⟨wr.heap.size, 0, none⟩)) rfl (by kernel_rfl) (by kernel_rfl) (by kernel_rfl) (fun _ _ _ h => h) (Or.inl ⟨by rfl, fun w hSw => by (try dsimp only at hSw); go_simp⟩) (by assumption) ?_; (try simp only [Act.put, List.setIfInBounds_toArray, List.set_cons_zero, List.set_cons_succ, List.getElem_toArray, List.getElem_cons_zero, List.getElem_cons_succ])
          refine wpAnyH_ready (rs := [14]) (by kernel_rfl) (by simp) ?_; refine AllReadyH.cons rfl (fun K hK => ?_) AllReadyH.nil; go_simp; (go_at_call 160; refine (HI.out kids (by have := HT.out.2.1.1; simp [Fo.nodes] at this; omega) ((⟨xk, xs, xn, xt, xa⟩, k, kids) :: ch) _ D1 _ A5 (some ⟨wr.heap.size, 0, none⟩) c5 b5 o5 pv pw (by have := HT.out.2.1.2; simp [Fo.nodes] at this; simp; omega) (HTP.out.2 HR1.out).1 KE.out.inv KE.out.hi KE.out.row KE.out.fo KE.out.spot KE.out.box).mono ?_; rintro e w2 ⟨D2, rfl, i2, b2, d2⟩; rw [HR2.out]; have hcv2 := (b2.cell (p := ⟨pv, 0, none⟩) KE.out.box.1.2.1 KE.out.box.1.2.2.1).trans KE.out.box.1.2.2.2; have hcw2 := (b2.cell (p := ⟨pw, 0, none⟩) KE.out.box.2.2.1 KE.out.box.2.2.2.1).trans KE.out.box.2.2.2.2; have hch2 := (b2.cell (p := ⟨wr.heap.size, 0, none⟩) KE.out.at.1 KE.out.at.2).trans hch1; have hc52 := (b2.cell (p := ⟨b, o + k * 6 + 5, none⟩) (Nat.lt_of_lt_of_le hhi KE.out.hi) (fun d => absurd ((HV.out.own _ _ _ KE.out.inv _ d).1) (Nat.not_le.2 hhi))).trans hc51; have K2 := Lib.hid (And.intro i2 (And.intro b2 d2)); clear i2 b2 d2); (try go_wp2_with fail); refine hK.out _ _ ⟨hcv2, hcw2, hch2, hc52⟩ (fun hHeld => ?_); clear hK K; (try simp only [Act.put, List.setIfInBounds_toArray, List.set_cons_zero, List.set_cons_succ, List.getElem_toArray, List.getElem_cons_zero, List.getElem_cons_succ])
          refine wpAnyH_take (i := 15) (v := .bool true) rfl (by kernel_rfl) (by kernel_rfl) (by kernel_rfl) (fun _ _ _ h => h) (Or.inl ⟨by rfl, fun w hSw => by (try dsimp only at hSw); go_simp⟩) (by assumption) ?_; (try simp only [Act.put, List.setIfInBounds_toArray, List.set_cons_zero, List.set_cons_succ, List.getElem_toArray, List.getElem_cons_zero, List.getElem_cons_succ])
          refine wpAnyH_take (i := 16) (v := .bool true) rfl (by kernel_rfl) (by kernel_rfl) (by kernel_rfl) (fun _ _ _ h => h) (Or.inl ⟨by rfl, fun w hSw => by (try dsimp only at hSw); go_simp⟩) (by assumption) ?_; (try simp only [Act.put, List.setIfInBounds_toArray, List.set_cons_zero, List.set_cons_succ, List.getElem_toArray, List.getElem_cons_zero, List.getElem_cons_succ])
          refine wpAnyH_done (by kernel_rfl) ?_ _
          go_wp2
          go_ret
          have e2 := HT.out.1.trans (trav2_cut2 HR1.out HR2.out)
          have E2 := KE.out.next HV.out K2.out.1 K2.out.2.1 K2.out.2.2
          exact ⟨D2, by rw [e2]; rfl, by rw [e2]; exact K2.out.1, E2.but, E2.own⟩
        | true =>
          have HR2 := Lib.hid hr2
          clear hr2
          refine wp_region_held_drew (S := fun w' => w'.cell? ⟨pv, 0, none⟩ = some (.func (.func g) #[] cap) ∧ w'.cell? ⟨pw, 0, none⟩ = some (.func (.func 160) #[] #[.pointer (some ⟨pv, 0, none⟩), .pointer (some ⟨pw, 0, none⟩)]) ∧ w'.cell? ⟨wr.heap.size, 0, none⟩ = some (.pointer (some ⟨b, o + k * 6, none⟩)) ∧ w'.cell? ⟨b, o + k * 6 + 5, none⟩ = some (.slice A5 kids.len c5)) (by kernel_rfl) ⟨by simpa using hcv, by simpa using hcw, by simpa using hch0, by simpa using hc5⟩ (fun hHeld => ?_)
          refine wpAnyH_take (i := 0) (v := .func (.func g) #[] cap) rfl (by kernel_rfl) (by kernel_rfl) (by kernel_rfl) (fun _ _ _ h => h) (Or.inl ⟨by rfl, fun w hSw => by (try dsimp only at hSw); go_simp⟩) (by assumption) ?_; (try simp only [Act.put, List.setIfInBounds_toArray, List.set_cons_zero, List.set_cons_succ, List.getElem_toArray, List.getElem_cons_zero])
          refine wpAnyH_take (i := 1) (v := .pointer (some ⟨wr.heap.size, 0, none⟩)) rfl (by kernel_rfl) (by kernel_rfl) (by kernel_rfl) (fun _ _ _ h => h) (Or.inl ⟨by rfl, fun w hSw => by (try dsimp only at hSw); go_simp⟩) (by assumption) ?_; (try simp only [Act.put, List.setIfInBounds_toArray, List.set_cons_zero, List.set_cons_succ, List.getElem_toArray, List.getElem_cons_zero, List.getElem_cons_succ])
          refine wpAnyH_ready (rs := [2]) (by kernel_rfl) (by simp) ?_; refine AllReadyH.cons rfl (fun K hK => ?_) AllReadyH.nil; go_simp; (go_at_fn g; refine (HV.out.call s' D _ _ ((⟨xk, xs, xn, xt, xa⟩, k, kids) :: ch) (by simp) (by have := HT.out.2.1.2; simp [Fo.nodes] at this; simp; omega) HTP.out.1 ED.out.inv ED.out.spot ED.out.hi).mono ?_; rintro e w1 ⟨D1, rfl, i1, b1, d1⟩; rw [HR1.out]; have KE := Lib.hid (ED.out.next HV.out i1 b1 d1); have hch1 := (b1.cell (p := ⟨wr.heap.size, 0, none⟩) ED.out.at.1 ED.out.at.2).trans hch0; have hc51 := (b1.cell (p := ⟨b, o + k * 6 + 5, none⟩) (Nat.lt_of_lt_of_le hhi ED.out.hi) (fun d => absurd (hDi'.out _ d) (Nat.not_le.2 hhi))).trans hc5; clear i1 b1 d1); (try go_wp2_with fail); refine hK.out _ _ ⟨KE.out.box.1.2.2.2, KE.out.box.2.2.2.2, hch1, hc51⟩ (fun hHeld => ?_); clear hK K; (try simp only [Act.put, List.setIfInBounds_toArray, List.set_cons_zero, List.set_cons_succ, List.getElem_toArray, List.getElem_cons_zero, List.getElem_cons_succ])
          refine wpAnyH_take (i := 3) (v := .bool false) rfl (by kernel_rfl) (by kernel_rfl) (by kernel_rfl) (fun _ _ _ h => h) (Or.inl ⟨by rfl, fun w hSw => by (try dsimp only at hSw); go_simp⟩) (by assumption) ?_; (try simp only [Act.put, List.setIfInBounds_toArray, List.set_cons_zero, List.set_cons_succ, List.getElem_toArray, List.getElem_cons_zero, List.getElem_cons_succ])
          refine wpAnyH_take (i := 4) (v := .bool false) rfl (by kernel_rfl) (by kernel_rfl) (by kernel_rfl) (fun _ _ _ h => h) (Or.inl ⟨by rfl, fun w hSw => by (try dsimp only at hSw); go_simp⟩) (by assumption) ?_; (try simp only [Act.put, List.setIfInBounds_toArray, List.set_cons_zero, List.set_cons_succ, List.getElem_toArray, List.getElem_cons_zero, List.getElem_cons_succ])
          refine wpAnyH_take (i := 5) (v := .func (.func 160) #[] #[.pointer (some ⟨pv, 0, none⟩), .pointer (some ⟨pw, 0, none⟩)]) rfl (by kernel_rfl) (by kernel_rfl) (by kernel_rfl) (fun _ _ _ h => h) (Or.inl ⟨by rfl, fun w hSw => by (try dsimp only at hSw); go_simp⟩) (by assumption) ?_; (try simp only [Act.put, List.setIfInBounds_toArray, List.set_cons_zero, List.set_cons_succ, List.getElem_toArray, List.getElem_cons_zero, List.getElem_cons_succ])
          refine wpAnyH_take (i := 6) (v := .pointer (some ⟨wr.heap.size, 0, none⟩)) rfl (by kernel_rfl) (by kernel_rfl) (by kernel_rfl) (fun _ _ _ h => h) (Or.inl ⟨by rfl, fun w hSw => by (try dsimp only at hSw); go_simp⟩) (by assumption) ?_; (try simp only [Act.put, List.setIfInBounds_toArray, List.set_cons_zero, List.set_cons_succ, List.getElem_toArray, List.getElem_cons_zero, List.getElem_cons_succ])
          refine wpAnyH_take (i := 7) (v := .pointer (some ⟨wr.heap.size, 0, none⟩)) rfl (by kernel_rfl) (by kernel_rfl) (by kernel_rfl) (fun _ _ _ h => h) (Or.inl ⟨by rfl, fun w hSw => by (try dsimp only at hSw); go_simp⟩) (by assumption) ?_; (try simp only [Act.put, List.setIfInBounds_toArray, List.set_cons_zero, List.set_cons_succ, List.getElem_toArray, List.getElem_cons_zero, List.getElem_cons_succ])
          refine wpAnyH_take (i := 8) (v := .pointer (some ⟨wr.heap.size, 0, none⟩)) rfl (by kernel_rfl) (by kernel_rfl) (by kernel_rfl) (fun _ _ _ h => h) (Or.inl ⟨by rfl, fun w hSw => by (try dsimp only at hSw); go_simp⟩) (by assumption) ?_; (try simp only [Act.put, List.setIfInBounds_toArray, List.set_cons_zero, List.set_cons_succ, List.getElem_toArray, List.getElem_cons_zero, List.getElem_cons_succ])
          refine wpAnyH_take (i := 9) (v := .pointer (some ⟨b, o + k * 6, none⟩)) rfl (by kernel_rfl) (by kernel_rfl) (by kernel_rfl) (fun _ _ _ h => h) (Or.inl ⟨by rfl, fun w hSw => by (try dsimp only at hSw); go_simp⟩) (by assumption) ?_; (try simp only [Act.put, List.setIfInBounds_toArray, List.set_cons_zero, List.set_cons_succ, List.getElem_toArray, List.getElem_cons_zero, List.getElem_cons_succ])
          refine wpAnyH_take (i := 10) (v := .pointer (some ⟨b, o + k * 6, none⟩)) rfl (by kernel_rfl) (by kernel_rfl) (by kernel_rfl) (fun _ _ _ h => h) (Or.inl ⟨by rfl, fun w hSw => by (try dsimp only at hSw); go_simp⟩) (by assumption) ?_; (try simp only [Act.put, List.setIfInBounds_toArray, List.set_cons_zero, List.set_cons_succ, List.getElem_toArray, List.getElem_cons_zero, List.getElem_cons_succ])
          refine wpAnyH_take (i := 11) (v := .pointer (some ⟨b, o + k * 6 + 5, none⟩)) rfl (by kernel_rfl) (by kernel_rfl) (by kernel_rfl) (fun _ _ _ h => h) (Or.inl ⟨by rfl, fun w hSw => by (try dsimp only at hSw); go_simp⟩) (by assumption) ?_; (try simp only [Act.put, List.setIfInBounds_toArray, List.set_cons_zero, List.set_cons_succ, List.getElem_toArray, List.getElem_cons_zero, List.getElem_cons_succ])
          refine wpAnyH_take (i := 12) (v := .slice A5 kids.len c5) rfl (by kernel_rfl) (by kernel_rfl) (by kernel_rfl) (fun _ _ _ h => h) (Or.inl ⟨by rfl, fun w hSw => by (try dsimp only at hSw); go_simp⟩) (by assumption) ?_; (try simp only [Act.put, List.setIfInBounds_toArray, List.set_cons_zero, List.set_cons_succ, List.getElem_toArray, List.getElem_cons_zero, List.getElem_cons_succ])
          refine wpAnyH_take (i := 13) (v := .pointer (some ⟨wr.heap.size, 0, none⟩)) rfl (by kernel_rfl) (by kernel_rfl) (by kernel_rfl) (fun _ _ _ h => h) (Or.inl ⟨by rfl, fun w hSw => by (try dsimp only at hSw); go_simp⟩) (by assumption) ?_; (try simp only [Act.put, List.setIfInBounds_toArray, List.set_cons_zero, List.set_cons_succ, List.getElem_toArray, List.getElem_cons_zero, List.getElem_cons_succ])
          refine wpAnyH_ready (rs := [14]) (by kernel_rfl) (by simp) ?_; refine AllReadyH.cons rfl (fun K hK => ?_) AllReadyH.nil; go_simp; (go_at_call 160; refine (HI.out kids (by have := HT.out.2.1.1; simp [Fo.nodes] at this; omega) ((⟨xk, xs, xn, xt, xa⟩, k, kids) :: ch) _ D1 _ A5 (some ⟨wr.heap.size, 0, none⟩) c5 b5 o5 pv pw (by have := HT.out.2.1.2; simp [Fo.nodes] at this; simp; omega) (HTP.out.2 HR1.out).1 KE.out.inv KE.out.hi KE.out.row KE.out.fo KE.out.spot KE.out.box).mono ?_; rintro e w2 ⟨D2, rfl, i2, b2, d2⟩; rw [HR2.out]; have hcv2 := (b2.cell (p := ⟨pv, 0, none⟩) KE.out.box.1.2.1 KE.out.box.1.2.2.1).trans KE.out.box.1.2.2.2; have hcw2 := (b2.cell (p := ⟨pw, 0, none⟩) KE.out.box.2.2.1 KE.out.box.2.2.2.1).trans KE.out.box.2.2.2.2; have hch2 := (b2.cell (p := ⟨wr.heap.size, 0, none⟩) KE.out.at.1 KE.out.at.2).trans hch1; have hc52 := (b2.cell (p := ⟨b, o + k * 6 + 5, none⟩) (Nat.lt_of_lt_of_le hhi KE.out.hi) (fun d => absurd ((HV.out.own _ _ _ KE.out.inv _ d).1) (Nat.not_le.2 hhi))).trans hc51; have K2 := Lib.hid (And.intro i2 (And.intro b2 d2)); clear i2 b2 d2); (try go_wp2_with fail); refine hK.out _ _ ⟨hcv2, hcw2, hch2, hc52⟩ (fun hHeld => ?_); clear hK K; (try simp only [Act.put, List.setIfInBounds_toArray, List.set_cons_zero, List.set_cons_succ, List.getElem_toArray, List.getElem_cons_zero, List.getElem_cons_succ])
          refine wpAnyH_take (i := 15) (v := .bool false) rfl (by kernel_rfl) (by kernel_rfl) (by kernel_rfl) (fun _ _ _ h => h) (Or.inl ⟨by rfl, fun w hSw => by (try dsimp only at hSw); go_simp⟩) (by assumption) ?_; (try simp only [Act.put, List.setIfInBounds_toArray, List.set_cons_zero, List.set_cons_succ, List.getElem_toArray, List.getElem_cons_zero, List.getElem_cons_succ])
          refine wpAnyH_take (i := 16) (v := .bool false) rfl (by kernel_rfl) (by kernel_rfl) (by kernel_rfl) (fun _ _ _ h => h) (Or.inl ⟨by rfl, fun w hSw => by (try dsimp only at hSw); go_simp⟩) (by assumption) ?_; (try simp only [Act.put, List.setIfInBounds_toArray, List.set_cons_zero, List.set_cons_succ, List.getElem_toArray, List.getElem_cons_zero, List.getElem_cons_succ])
          refine wpAnyH_done (by kernel_rfl) ?_ _
          go_wp2
          go_roundw
          case rel =>
            have e2 := HT.out.1.trans (trav2_on HR1.out HR2.out)
            have E2 := KE.out.next HV.out K2.out.1 K2.out.2.1 K2.out.2.2
            exact ⟨k + 1, r, by go_num, by simp [Fo.len] at hk; omega, Lib.hid ⟨_, D2, e2, (HTP.out.2 HR1.out).2 HR2.out, K2.out.1, E2.but, E2.own, by rw [show o + (k + 1) * 6 = o + k * 6 + 6 by omega]; exact HT.out.2.2, by have := HT.out.2.1.1; simp [Fo.nodes] at this; omega, by have := HT.out.2.1.2; simp [Fo.nodes] at this; omega⟩⟩
          case measure => simp [intOf]; omega
theorem walk1_any (g : Nat) (cap : Array Value) (lo hi : Nat) (ok : σ → List NP → Prop) (st : σ → List NP → σ × Bool) (Inv : σ → (Nat → Prop) → World → Prop) (V : Vis2 Tryz.prog g cap lo hi ok st Inv) (eg : ∀ args w, (callFunc g args).run Tryz.prog w = .ok (.enter g args) w) (F : Fo) : WalkOK g cap lo hi ok st Inv F :=
  walk1_lt g cap lo hi ok st Inv V eg (F.nodes + 1) F (Nat.lt_succ_self _)
end Go.Proofs.YthdkkpbhijlpaaaGreat
