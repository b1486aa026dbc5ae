import Derived.Test.YthdkkpbhijlpaaaGreatS25
set_option linter.unusedVariables false
namespace Go.Proofs.YthdkkpbhijlpaaaGreat
open Go.ChangeShapes Go.WideShapes Go.ChangeAt Go.RowKit Go.Deep

theorem AsAt.take {w : World} {b : Nat} : ∀ {al : List (ByteArray × ByteArray)} {o : Nat} (k : Nat), AsAt w b o al → AsAt w b o (al.take k)
  | [], _, k, _ => by simp [AsAt]
  | _ :: _, _, 0, _ => trivial
  | _ :: _, _, k + 1, ⟨h1, h2, h3, h4, h5⟩ => ⟨h1, h2, h3, h4, AsAt.take k h5⟩
theorem idx_take {al : List (ByteArray × ByteArray)} {k : Nat} {n : ByteArray} (h : idxAl (al.take k) n 0 = -1) (j : Nat) (hj : j < k) (hl : j < al.length) : al[j].1 ≠ n := by
  have hm : j < (al.take k).length := by simp; omega
  have := (idxAl_none _ _ _).1 h (al.take k)[j] (List.getElem_mem hm)
  simpa using this
theorem idx_hit {al : List (ByteArray × ByteArray)} {k : Nat} {n : ByteArray} (h : 0 ≤ idxAl (al.take k) n 0) : ∃ j, ∃ hl : j < al.length, j < k ∧ al[j].1 = n := by
  have h2 : ¬ ∀ x ∈ al.take k, x.1 ≠ n := fun hx => by have := (idxAl_none (al.take k) n 0).2 hx; omega
  simp only [Classical.not_forall, Classical.not_not] at h2
  obtain ⟨x, hx, hn⟩ := h2
  obtain ⟨j, hj, rfl⟩ := List.getElem_of_mem hx
  have hj' : j < min k al.length := by simpa using hj
  exact ⟨j, by omega, by omega, by simpa using hn⟩
theorem attrs_next {al : List (ByteArray × ByteArray)} {k : Nat} (h : AlTo al k) (hk : k < al.length) (ha : attrB al[k] = true) (hn : idxAl (al.take k) al[k].1 0 = -1) : AlTo al (k + 1) := by
  intro i hi hik
  by_cases e : i = k
  · subst e; exact ⟨(attrB_iff _).1 ha, fun j hj => idx_take hn j hj (by omega)⟩
  · exact h i hi (by omega)
theorem slice_upto (b o n c k : Nat) (hk : k ≤ n) (hc : n ≤ c) (w : World) : (Instr.slice 69 (.slice (some ⟨b, o, none⟩) n c) none (some (.int .i64 (k : Int))) none).run Tryz.prog w = .ok (.slice (some ⟨b, o, none⟩) k c) w := by
  have he : Tryz.prog.elem 69 = 121 := by kernel_rfl
  have ht : Tryz.prog.underlying 69 = some (.slice (Tryz.prog.elem 69)) := by rw [he]; exact Tryz.underlying69
  have hs : (sizeOf 121).run Tryz.prog w = .ok 2 w := by kernel_rfl
  rw [run_slice_h w _ _ _ _ ht .i64 (k : Int) (by omega) (by omega), he, hs]
  show Result.ok (sliced (some ⟨b, o, none⟩) 0 (k : Int).toNat c 2) w = _
  unfold sliced
  rw [Int.toNat_natCast]
  by_cases e : c = 0
  · subst e
    obtain rfl : k = 0 := by omega
    rfl
  · rw [if_neg e]; simp [Addr.add]
theorem placeOfAttr_k {al : List (ByteArray × ByteArray)} {w w1 : World} {b o lo hi k c : Nat} (hlo : lo ≤ b) (hhi : b < hi) (hal : AsAt w b o al) (hk : k < al.length) (hlen : al.length ≤ 9223372036854775807) (n : ByteArray) (hB : Below w.heap.size w w1) (hh : hi ≤ w.heap.size) :
    Calls Tryz.prog 193 #[.slice (some ⟨b, o, none⟩) k c, .string n] w1 fun e w' => e = .returned (.int .i64 (idxAl (al.take k) n 0)) ∧ Below w1.heap.size w1 w' := by
  have hl : (al.take k).length = k := by simp; omega
  have hr : RowAt lo hi (some ⟨b, o, none⟩) (al.take k).length b o := ⟨by rw [hl]; unfold maxLen; omega, fun _ => ⟨rfl, hlo, hhi⟩⟩
  have := placeOfAttr_any (al.take k) n w1 (some ⟨b, o, none⟩) c b o lo hi hr (Nat.le_trans hh hB.size) ((hal.take k).but (C := No) (lo := lo) (hi := hi) hr (But.of_below hB) hh (fun _ h => h.elim))
  rwa [hl] at this
set_option maxHeartbeats 1000000 in
theorem attrsOK_any (al : List (ByteArray × ByteArray)) (w : World) (A : Option Addr) (c b o lo hi : Nat) (hA : RowC lo hi A al.length c b o) (hh : hi ≤ w.heap.size) (hal : AsAt w b o al) :
    Calls Tryz.prog 172 #[.slice A al.length c] w fun e w' => e = .returned (.bool (alB al)) ∧ Below w.heap.size w w' := by
  obtain ⟨hcap, hA⟩ := hA
  have hlen := hA.1
  unfold maxLen at hlen
  by_cases h6 : al.length ≤ 6
  · have HA := Lib.hid hA
    have HS := Lib.hid hal.get
    have HAL := Lib.hid hal
    clear hA hal
    go_enter Tryz.func172, Tryz.ntmps172
    go_wp2
    go_loopw [10] (fun i wr => ∃ (k : Nat), i = .int .i64 (k : Int) ∧ k ≤ al.length ∧ Hid (AlTo al k ∧ Below w.heap.size w wr)) (fun i wr => al.length - (intOf i).toNat)
    case atStart => exact ⟨0, rfl, Nat.zero_le _, Lib.hid ⟨fun i _ h => absurd h (Nat.not_lt_zero _), Below.refl _ _⟩⟩
    case round =>
      obtain ⟨k, rfl, hk, HH⟩ := hrel
      by_cases hlt : k < al.length
      · obtain ⟨rfl, hlo, hhi⟩ := HA.out.2 (by omega)
        have hB := HH.out.2
        obtain ⟨s1, s2, s3, s4⟩ := HS.out k hlt
        have t1 := (hB.cell (p := ⟨b, o + k * 2, none⟩) (by show b < _; omega)).trans s1
        have t2 := (hB.cell (p := ⟨b, o + k * 2 + 1, none⟩) (by show b < _; omega)).trans s2
        have HB := Lib.hid hB
        clear hB s1 s2
        generalize hx : al[k] = x at *
        have HX := Lib.hid hx
        clear hx
        obtain ⟨n, v⟩ := x
        simp only at t1 t2 s3 s4
        go_wp2
        have hv0 : (wr.alloc (.cells #[.string n, .string v] 121)).drew.cell? ⟨wr.heap.size, 0, none⟩ = some (.string n) := new_cell rfl
        have hv1 : (wr.alloc (.cells #[.string n, .string v] 121)).drew.cell? ⟨wr.heap.size, 1, none⟩ = some (.string v) := new_cell rfl
        have hsz : wr.heap.size < (wr.alloc (.cells #[.string n, .string v] 121)).drew.heap.size := by show _ < (wr.alloc _).heap.size; simp
        have hbw : Below w.heap.size w (wr.alloc (.cells #[.string n, .string v] 121)).drew := (HB.out.alloc HB.out.size _).drew
        have HBW := Lib.hid hbw
        clear hbw
        cases ha : attrB (n, v) with
        | false =>
          have HA1 := Lib.hid ha
          clear ha
          refine wp_region_held_drew (S := fun w' => w'.cell? ⟨wr.heap.size, 0, none⟩ = some (.string n) ∧ w'.cell? ⟨wr.heap.size, 1, none⟩ = some (.string v)) (by kernel_rfl) ⟨hv0, hv1⟩ (fun hHeld => ?_)
          refine wpAnyH_take (i := 0) (v := .agg #[.string n, .string v]) rfl (by kernel_rfl) (by kernel_rfl) (by kernel_rfl) (fun _ _ _ h => h) (Or.inl ⟨by rfl, fun w hSw => by (try dsimp only at hSw); go_simp⟩) (by assumption) ?_; (try simp only [Act.put, List.setIfInBounds_toArray, List.set_cons_zero, List.set_cons_succ, List.getElem_toArray, List.getElem_cons_zero])
          refine wpAnyH_ready (rs := [1]) (by kernel_rfl) (by simp) ?_; refine AllReadyH.cons rfl (fun K hK => ?_) AllReadyH.nil; go_simp; (go_at_call 192; refine (attrOK_any (n, v) _ s3 s4).mono ?_; rintro e w1 ⟨rfl, hB1⟩; rw [HA1.out]; have f0 := (hB1.cell (p := ⟨wr.heap.size, 0, none⟩) hsz).trans hv0; have f1 := (hB1.cell (p := ⟨wr.heap.size, 1, none⟩) hsz).trans hv1; have K1 := Lib.hid (HBW.out.trans (hB1.mono HBW.out.size)); clear hB1); (try go_wp2_with fail); refine hK.out _ _ ⟨f0, f1⟩ (fun hHeld => ?_); clear hK K; (try simp only [Act.put, List.setIfInBounds_toArray, List.set_cons_zero, List.set_cons_succ, List.getElem_toArray, List.getElem_cons_zero, List.getElem_cons_succ])
          refine wpAnyH_take (i := 2) (v := .bool true) rfl (by kernel_rfl) (by kernel_rfl) (by kernel_rfl) (fun _ _ _ h => h) (Or.inl ⟨by rfl, fun w hSw => by (try dsimp only at hSw); go_simp⟩) (by assumption) ?_; (try simp only [Act.put, List.setIfInBounds_toArray, List.set_cons_zero, List.set_cons_succ, List.getElem_toArray, List.getElem_cons_zero, List.getElem_cons_succ])
          refine wpAnyH_take (i := 3) (v := .bool true) rfl (by kernel_rfl) (by kernel_rfl) (by kernel_rfl) (fun _ _ _ h => h) (Or.inl ⟨by rfl, fun w hSw => by (try dsimp only at hSw); go_simp⟩) (by assumption) ?_; (try simp only [Act.put, List.setIfInBounds_toArray, List.set_cons_zero, List.set_cons_succ, List.getElem_toArray, List.getElem_cons_zero, List.getElem_cons_succ])
          refine wpAnyH_take (i := 4) (v := undef) rfl (by kernel_rfl) (by kernel_rfl) (by kernel_rfl) (fun _ _ _ h => h) (Or.inr ⟨by rfl, rfl⟩) (by assumption) ?_; (try simp only [Act.put, List.setIfInBounds_toArray, List.set_cons_zero, List.set_cons_succ, List.getElem_toArray, List.getElem_cons_zero, List.getElem_cons_succ])
          refine wpAnyH_take (i := 5) (v := undef) rfl (by kernel_rfl) (by kernel_rfl) (by kernel_rfl) (fun _ _ _ h => h) (Or.inr ⟨by rfl, rfl⟩) (by assumption) ?_; (try simp only [Act.put, List.setIfInBounds_toArray, List.set_cons_zero, List.set_cons_succ, List.getElem_toArray, List.getElem_cons_zero, List.getElem_cons_succ])
          refine wpAnyH_take (i := 6) (v := undef) rfl (by kernel_rfl) (by kernel_rfl) (by kernel_rfl) (fun _ _ _ h => h) (Or.inr ⟨by rfl, rfl⟩) (by assumption) ?_; (try simp only [Act.put, List.setIfInBounds_toArray, List.set_cons_zero, List.set_cons_succ, List.getElem_toArray, List.getElem_cons_zero, List.getElem_cons_succ])
          refine wpAnyH_take (i := 7) (v := undef) rfl (by kernel_rfl) (by kernel_rfl) (by kernel_rfl) (fun _ _ _ h => h) (Or.inr ⟨by rfl, rfl⟩) (by assumption) ?_; (try simp only [Act.put, List.setIfInBounds_toArray, List.set_cons_zero, List.set_cons_succ, List.getElem_toArray, List.getElem_cons_zero, List.getElem_cons_succ])
          refine wpAnyH_take (i := 8) (v := undef) rfl (by kernel_rfl) (by kernel_rfl) (by kernel_rfl) (fun _ _ _ h => h) (Or.inr ⟨by rfl, rfl⟩) (by assumption) ?_; (try simp only [Act.put, List.setIfInBounds_toArray, List.set_cons_zero, List.set_cons_succ, List.getElem_toArray, List.getElem_cons_zero, List.getElem_cons_succ])
          refine wpAnyH_take (i := 9) (v := undef) rfl (by kernel_rfl) (by kernel_rfl) (by kernel_rfl) (fun _ _ _ h => h) (Or.inr ⟨by rfl, rfl⟩) (by assumption) ?_; (try simp only [Act.put, List.setIfInBounds_toArray, List.set_cons_zero, List.set_cons_succ, List.getElem_toArray, List.getElem_cons_zero, List.getElem_cons_succ])
          refine wpAnyH_take (i := 10) (v := undef) rfl (by kernel_rfl) (by kernel_rfl) (by kernel_rfl) (fun _ _ _ h => h) (Or.inr ⟨by rfl, rfl⟩) (by assumption) ?_; (try simp only [Act.put, List.setIfInBounds_toArray, List.set_cons_zero, List.set_cons_succ, List.getElem_toArray, List.getElem_cons_zero, List.getElem_cons_succ])
          refine wpAnyH_take (i := 11) (v := .bool true) rfl (by kernel_rfl) (by kernel_rfl) (by kernel_rfl) (fun _ _ _ h => h) (Or.inl ⟨by rfl, fun w hSw => by (try dsimp only at hSw); go_simp⟩) (by assumption) ?_; (try simp only [Act.put, List.setIfInBounds_toArray, List.set_cons_zero, List.set_cons_succ, List.getElem_toArray, List.getElem_cons_zero, List.getElem_cons_succ])
          refine wpAnyH_done (by kernel_rfl) ?_ _
          go_wp2
          go_ret
          exact ⟨ret_bool (alB_false fun h => by have := (attrB_iff _).2 (h.2 k hlt hlt).1; rw [HX.out, HA1.out] at this; simp at this), K1.out⟩
        | true =>
          have HA1 := Lib.hid ha
          clear ha
          have hsl := slice_upto b o al.length c k hk hcap
          have hI : idxAl (al.take k) n 0 = -1 ∨ 0 ≤ idxAl (al.take k) n 0 := idxAl_neg _ _ _
          generalize hi0 : idxAl (al.take k) n 0 = ix at hI
          have HI0 := Lib.hid hi0
          clear hi0
          rcases hI with rfl | hI
          · skip
            refine wp_region_held_drew (S := fun w' => w'.cell? ⟨wr.heap.size, 0, none⟩ = some (.string n) ∧ w'.cell? ⟨wr.heap.size, 1, none⟩ = some (.string v)) (by kernel_rfl) ⟨hv0, hv1⟩ (fun hHeld => ?_)
            refine wpAnyH_take (i := 0) (v := .agg #[.string n, .string v]) rfl (by kernel_rfl) (by kernel_rfl) (by kernel_rfl) (fun _ _ _ h => h) (Or.inl ⟨by rfl, fun w hSw => by (try dsimp only at hSw); go_simp⟩) (by assumption) ?_; (try simp only [Act.put, List.setIfInBounds_toArray, List.set_cons_zero, List.set_cons_succ, List.getElem_toArray, List.getElem_cons_zero])
            refine wpAnyH_ready (rs := [1]) (by kernel_rfl) (by simp) ?_; refine AllReadyH.cons rfl (fun K hK => ?_) AllReadyH.nil; go_simp; (go_at_call 192; refine (attrOK_any (n, v) _ s3 s4).mono ?_; rintro e w1 ⟨rfl, hB1⟩; rw [HA1.out]; have f0 := (hB1.cell (p := ⟨wr.heap.size, 0, none⟩) hsz).trans hv0; have f1 := (hB1.cell (p := ⟨wr.heap.size, 1, none⟩) hsz).trans hv1; have K1 := Lib.hid (HBW.out.trans (hB1.mono HBW.out.size)); have LE := Lib.hid hB1.size; clear hB1); (try go_wp2_with fail); refine hK.out _ _ ⟨f0, f1⟩ (fun hHeld => ?_); clear hK K; (try simp only [Act.put, List.setIfInBounds_toArray, List.set_cons_zero, List.set_cons_succ, List.getElem_toArray, List.getElem_cons_zero, List.getElem_cons_succ])
            refine wpAnyH_take (i := 2) (v := .bool false) rfl (by kernel_rfl) (by kernel_rfl) (by kernel_rfl) (fun _ _ _ h => h) (Or.inl ⟨by rfl, fun w hSw => by (try dsimp only at hSw); go_simp⟩) (by assumption) ?_; (try simp only [Act.put, List.setIfInBounds_toArray, List.set_cons_zero, List.set_cons_succ, List.getElem_toArray, List.getElem_cons_zero, List.getElem_cons_succ])
            refine wpAnyH_take (i := 3) (v := .bool false) rfl (by kernel_rfl) (by kernel_rfl) (by kernel_rfl) (fun _ _ _ h => h) (Or.inl ⟨by rfl, fun w hSw => by (try dsimp only at hSw); go_simp⟩) (by assumption) ?_; (try simp only [Act.put, List.setIfInBounds_toArray, List.set_cons_zero, List.set_cons_succ, List.getElem_toArray, List.getElem_cons_zero, List.getElem_cons_succ])
            refine wpAnyH_take (i := 4) (v := .slice (some ⟨b, o, none⟩) al.length c) rfl (by kernel_rfl) (by kernel_rfl) (by kernel_rfl) (fun _ _ _ h => h) (Or.inl ⟨by rfl, fun w hSw => by (try dsimp only at hSw); go_simp⟩) (by assumption) ?_; (try simp only [Act.put, List.setIfInBounds_toArray, List.set_cons_zero, List.set_cons_succ, List.getElem_toArray, List.getElem_cons_zero, List.getElem_cons_succ])
            refine wpAnyH_take (i := 5) (v := .int .i64 (k : Int)) rfl (by kernel_rfl) (by kernel_rfl) (by kernel_rfl) (fun _ _ _ h => h) (Or.inl ⟨by rfl, fun w hSw => by (try dsimp only at hSw); go_simp⟩) (by assumption) ?_; (try simp only [Act.put, List.setIfInBounds_toArray, List.set_cons_zero, List.set_cons_succ, List.getElem_toArray, List.getElem_cons_zero, List.getElem_cons_succ])
            refine wpAnyH_take (i := 6) (v := .slice (some ⟨b, o, none⟩) k c) rfl (by kernel_rfl) (by kernel_rfl) (by kernel_rfl) (fun _ _ _ h => h) (Or.inl ⟨by rfl, fun w hSw => by (try dsimp only at hSw); go_simp⟩) (by assumption) ?_; (try simp only [Act.put, List.setIfInBounds_toArray, List.set_cons_zero, List.set_cons_succ, List.getElem_toArray, List.getElem_cons_zero, List.getElem_cons_succ])
            refine wpAnyH_take (i := 7) (v := .pointer (some ⟨wr.heap.size, 0, none⟩)) rfl (by kernel_rfl) (by kernel_rfl) (by kernel_rfl) (fun _ _ _ h => h) (Or.inl ⟨by rfl, fun w hSw => by (try dsimp only at hSw); go_simp⟩) (by assumption) ?_; (try simp only [Act.put, List.setIfInBounds_toArray, List.set_cons_zero, List.set_cons_succ, List.getElem_toArray, List.getElem_cons_zero, List.getElem_cons_succ])
            refine wpAnyH_take (i := 8) (v := .string n) rfl (by kernel_rfl) (by kernel_rfl) (by kernel_rfl) (fun _ _ _ h => h) (Or.inl ⟨by rfl, fun w hSw => by (try dsimp only at hSw); go_simp⟩) (by assumption) ?_; (try simp only [Act.put, List.setIfInBounds_toArray, List.set_cons_zero, List.set_cons_succ, List.getElem_toArray, List.getElem_cons_zero, List.getElem_cons_succ])
            refine wpAnyH_ready (rs := [9]) (by kernel_rfl) (by simp) ?_; refine AllReadyH.cons rfl (fun K hK => ?_) AllReadyH.nil; go_simp; (go_at_call 193; refine (placeOfAttr_k (o := o) hlo hhi HAL.out hlt hlen n K1.out hh).mono ?_; rintro e w2 ⟨rfl, hB2⟩; rw [HI0.out]; have g0 := (hB2.cell (p := ⟨wr.heap.size, 0, none⟩) (Nat.lt_of_lt_of_le hsz LE.out)).trans f0; have g1 := (hB2.cell (p := ⟨wr.heap.size, 1, none⟩) (Nat.lt_of_lt_of_le hsz LE.out)).trans f1; have K2 := Lib.hid (K1.out.trans (hB2.mono K1.out.size)); clear hB2); (try go_wp2_with fail); refine hK.out _ _ ⟨g0, g1⟩ (fun hHeld => ?_); clear hK K; (try simp only [Act.put, List.setIfInBounds_toArray, List.set_cons_zero, List.set_cons_succ, List.getElem_toArray, List.getElem_cons_zero, List.getElem_cons_succ])
            refine wpAnyH_take (i := 10) (v := .bool false) rfl (by kernel_rfl) (by kernel_rfl) (by kernel_rfl) (fun _ _ _ h => h) (Or.inl ⟨by rfl, fun w hSw => by (try dsimp only at hSw); go_simp⟩) (by assumption) ?_; (try simp only [Act.put, List.setIfInBounds_toArray, List.set_cons_zero, List.set_cons_succ, List.getElem_toArray, List.getElem_cons_zero, List.getElem_cons_succ])
            refine wpAnyH_take (i := 11) (v := .bool false) rfl (by kernel_rfl) (by kernel_rfl) (by kernel_rfl) (fun _ _ _ h => h) (Or.inl ⟨by rfl, fun w hSw => by (try dsimp only at hSw); go_simp⟩) (by assumption) ?_; (try simp only [Act.put, List.setIfInBounds_toArray, List.set_cons_zero, List.set_cons_succ, List.getElem_toArray, List.getElem_cons_zero, List.getElem_cons_succ])
            refine wpAnyH_done (by kernel_rfl) ?_ _
            go_wp2
            go_roundw
            case rel => exact ⟨k + 1, by go_num, by omega, Lib.hid ⟨attrs_next HH.out.1 hlt (by rw [HX.out]; exact HA1.out) (by rw [HX.out]; exact HI0.out), K2.out⟩⟩
            case measure => simp [intOf]; omega
          · skip
            refine wp_region_held_drew (S := fun w' => w'.cell? ⟨wr.heap.size, 0, none⟩ = some (.string n) ∧ w'.cell? ⟨wr.heap.size, 1, none⟩ = some (.string v)) (by kernel_rfl) ⟨hv0, hv1⟩ (fun hHeld => ?_)
            refine wpAnyH_take (i := 0) (v := .agg #[.string n, .string v]) rfl (by kernel_rfl) (by kernel_rfl) (by kernel_rfl) (fun _ _ _ h => h) (Or.inl ⟨by rfl, fun w hSw => by (try dsimp only at hSw); go_simp⟩) (by assumption) ?_; (try simp only [Act.put, List.setIfInBounds_toArray, List.set_cons_zero, List.set_cons_succ, List.getElem_toArray, List.getElem_cons_zero])
            refine wpAnyH_ready (rs := [1]) (by kernel_rfl) (by simp) ?_; refine AllReadyH.cons rfl (fun K hK => ?_) AllReadyH.nil; go_simp; (go_at_call 192; refine (attrOK_any (n, v) _ s3 s4).mono ?_; rintro e w1 ⟨rfl, hB1⟩; rw [HA1.out]; have f0 := (hB1.cell (p := ⟨wr.heap.size, 0, none⟩) hsz).trans hv0; have f1 := (hB1.cell (p := ⟨wr.heap.size, 1, none⟩) hsz).trans hv1; have K1 := Lib.hid (HBW.out.trans (hB1.mono HBW.out.size)); have LE := Lib.hid hB1.size; clear hB1); (try go_wp2_with fail); refine hK.out _ _ ⟨f0, f1⟩ (fun hHeld => ?_); clear hK K; (try simp only [Act.put, List.setIfInBounds_toArray, List.set_cons_zero, List.set_cons_succ, List.getElem_toArray, List.getElem_cons_zero, List.getElem_cons_succ])
            refine wpAnyH_take (i := 2) (v := .bool false) rfl (by kernel_rfl) (by kernel_rfl) (by kernel_rfl) (fun _ _ _ h => h) (Or.inl ⟨by rfl, fun w hSw => by (try dsimp only at hSw); go_simp⟩) (by assumption) ?_; (try simp only [Act.put, List.setIfInBounds_toArray, List.set_cons_zero, List.set_cons_succ, List.getElem_toArray, List.getElem_cons_zero, List.getElem_cons_succ])
            refine wpAnyH_take (i := 3) (v := .bool false) rfl (by kernel_rfl) (by kernel_rfl) (by kernel_rfl) (fun _ _ _ h => h) (Or.inl ⟨by rfl, fun w hSw => by (try dsimp only at hSw); go_simp⟩) (by assumption) ?_; (try simp only [Act.put, List.setIfInBounds_toArray, List.set_cons_zero, List.set_cons_succ, List.getElem_toArray, List.getElem_cons_zero, List.getElem_cons_succ])
            refine wpAnyH_take (i := 4) (v := .slice (some ⟨b, o, none⟩) al.length c) rfl (by kernel_rfl) (by kernel_rfl) (by kernel_rfl) (fun _ _ _ h => h) (Or.inl ⟨by rfl, fun w hSw => by (try dsimp only at hSw); go_simp⟩) (by assumption) ?_; (try simp only [Act.put, List.setIfInBounds_toArray, List.set_cons_zero, List.set_cons_succ, List.getElem_toArray, List.getElem_cons_zero, List.getElem_cons_succ])
            refine wpAnyH_take (i := 5) (v := .int .i64 (k : Int)) rfl (by kernel_rfl) (by kernel_rfl) (by kernel_rfl) (fun _ _ _ h => h) (Or.inl ⟨by rfl, fun w hSw => by (try dsimp only at hSw); go_simp⟩) (by assumption) ?_; (try simp only [Act.put, List.setIfInBounds_toArray, List.set_cons_zero, List.set_cons_succ, List.getElem_toArray, List.getElem_cons_zero, List.getElem_cons_succ])
            refine wpAnyH_take (i := 6) (v := .slice (some ⟨b, o, none⟩) k c) rfl (by kernel_rfl) (by kernel_rfl) (by kernel_rfl) (fun _ _ _ h => h) (Or.inl ⟨by rfl, fun w hSw => by (try dsimp only at hSw); go_simp⟩) (by assumption) ?_; (try simp only [Act.put, List.setIfInBounds_toArray, List.set_cons_zero, List.set_cons_succ, List.getElem_toArray, List.getElem_cons_zero, List.getElem_cons_succ])
            refine wpAnyH_take (i := 7) (v := .pointer (some ⟨wr.heap.size, 0, none⟩)) rfl (by kernel_rfl) (by kernel_rfl) (by kernel_rfl) (fun _ _ _ h => h) (Or.inl ⟨by rfl, fun w hSw => by (try dsimp only at hSw); go_simp⟩) (by assumption) ?_; (try simp only [Act.put, List.setIfInBounds_toArray, List.set_cons_zero, List.set_cons_succ, List.getElem_toArray, List.getElem_cons_zero, List.getElem_cons_succ])
            refine wpAnyH_take (i := 8) (v := .string n) rfl (by kernel_rfl) (by kernel_rfl) (by kernel_rfl) (fun _ _ _ h => h) (Or.inl ⟨by rfl, fun w hSw => by (try dsimp only at hSw); go_simp⟩) (by assumption) ?_; (try simp only [Act.put, List.setIfInBounds_toArray, List.set_cons_zero, List.set_cons_succ, List.getElem_toArray, List.getElem_cons_zero, List.getElem_cons_succ])
            refine wpAnyH_ready (rs := [9]) (by kernel_rfl) (by simp) ?_; refine AllReadyH.cons rfl (fun K hK => ?_) AllReadyH.nil; go_simp; (go_at_call 193; refine (placeOfAttr_k (o := o) hlo hhi HAL.out hlt hlen n K1.out hh).mono ?_; rintro e w2 ⟨rfl, hB2⟩; rw [HI0.out]; have g0 := (hB2.cell (p := ⟨wr.heap.size, 0, none⟩) (Nat.lt_of_lt_of_le hsz LE.out)).trans f0; have g1 := (hB2.cell (p := ⟨wr.heap.size, 1, none⟩) (Nat.lt_of_lt_of_le hsz LE.out)).trans f1; have K2 := Lib.hid (K1.out.trans (hB2.mono K1.out.size)); clear hB2); (try go_wp2_with fail); refine hK.out _ _ ⟨g0, g1⟩ (fun hHeld => ?_); clear hK K; (try simp only [Act.put, List.setIfInBounds_toArray, List.set_cons_zero, List.set_cons_succ, List.getElem_toArray, List.getElem_cons_zero, List.getElem_cons_succ])
            refine wpAnyH_take (i := 10) (v := .bool true) rfl (by kernel_rfl) (by kernel_rfl) (by kernel_rfl) (fun _ _ _ h => h) (Or.inl ⟨by rfl, fun w hSw => by (try dsimp only at hSw); go_simp⟩) (by assumption) ?_; (try simp only [Act.put, List.setIfInBounds_toArray, List.set_cons_zero, List.set_cons_succ, List.getElem_toArray, List.getElem_cons_zero, List.getElem_cons_succ])
            refine wpAnyH_take (i := 11) (v := .bool true) rfl (by kernel_rfl) (by kernel_rfl) (by kernel_rfl) (fun _ _ _ h => h) (Or.inl ⟨by rfl, fun w hSw => by (try dsimp only at hSw); go_simp⟩) (by assumption) ?_; (try simp only [Act.put, List.setIfInBounds_toArray, List.set_cons_zero, List.set_cons_succ, List.getElem_toArray, List.getElem_cons_zero, List.getElem_cons_succ])
            refine wpAnyH_done (by kernel_rfl) ?_ _
            go_wp2
            go_ret
            exact ⟨ret_bool (alB_false fun h => by obtain ⟨j, hl, hjk, he⟩ := idx_hit (by rw [HI0.out]; exact hI); exact (h.2 k hlt hlt).2 j hjk (by rw [HX.out]; exact he)), K2.out⟩
      · obtain rfl : k = al.length := by omega
        go_wp2
        go_ret
        exact ⟨ret_bool (alB_true ⟨h6, HH.out.1⟩), HH.out.2⟩
  · clear hal hA
    go_enter Tryz.func172, Tryz.ntmps172
    go_wp2
    go_ret
    exact ⟨ret_bool (alB_false fun h => h6 h.1), Below.refl _ _⟩
end Go.Proofs.YthdkkpbhijlpaaaGreat
namespace Go.Proofs.YthdkkpbhijlpaaaGreat
open Go.ChangeShapes Go.WideShapes Go.ChangeAt Go.RowKit Go.Deep

def rawB (x : Nd) : Bool := (x.sp == 0) && inL rawL x.n
def voidB (x : Nd) : Bool := (x.sp == 0) && inL voidL x.n
theorem rawB_iff (x : Nd) : rawB x = true ↔ RawN x := by simp [rawB, RawN]
theorem voidB_iff (x : Nd) : voidB x = true ↔ VoidN x := by simp [voidB, VoidN]
theorem isRaw_any (x : Nd) (b o lo hi : Nat) (w : World) (h : NdAt w lo hi b o x) :
    Calls Tryz.prog 142 #[.pointer (some ⟨b, o, none⟩)] w fun e w' => e = .returned (.bool (rawB x)) ∧ w = w' := by
  obtain ⟨⟨c0, c1, c2, c3, z2, z3⟩, _⟩ := h
  obtain ⟨k, sp, n, t, al⟩ := x
  simp only at c0 c1 c2 c3 z2 z3
  clear c0 c3
  by_cases hs : sp = 0
  · subst hs
    go_enter Tryz.func142, Tryz.ntmps142
    go_wp2_with (go_at_call 182; refine (implIsRaw_any n _).mono ?_; rintro e w' ⟨rfl, rfl⟩)
    go_ret
    exact ⟨rfl, rfl⟩
  · have hs' : (sp == 0) = false := by simpa using hs
    have HS := Lib.hid hs'
    go_enter Tryz.func142, Tryz.ntmps142
    go_wp2
    go_ret
    exact ⟨ret_bool (by simp [rawB, HS.out]), rfl⟩
theorem isVoid_any (x : Nd) (b o lo hi : Nat) (w : World) (h : NdAt w lo hi b o x) :
    Calls Tryz.prog 174 #[.pointer (some ⟨b, o, none⟩)] w fun e w' => e = .returned (.bool (voidB x)) ∧ w = w' := by
  obtain ⟨⟨c0, c1, c2, c3, z2, z3⟩, _⟩ := h
  obtain ⟨k, sp, n, t, al⟩ := x
  simp only at c0 c1 c2 c3 z2 z3
  clear c0 c3
  by_cases hs : sp = 0
  · subst hs
    go_enter Tryz.func174, Tryz.ntmps174
    go_wp2_with (go_at_call 194; refine (implIsVoid_any n _).mono ?_; rintro e w' ⟨rfl, rfl⟩)
    go_ret
    exact ⟨rfl, rfl⟩
  · have hs' : (sp == 0) = false := by simpa using hs
    have HS := Lib.hid hs'
    go_enter Tryz.func174, Tryz.ntmps174
    go_wp2
    go_ret
    exact ⟨ret_bool (by simp [voidB, HS.out]), rfl⟩
open Classical in
noncomputable def wordsB (x : Nd) : Bool := decide (WordsIs x)
theorem wordsB_t {x : Nd} (h : WordsIs x) : true = wordsB x := by simp [wordsB, h]
theorem wordsB_f {x : Nd} (h : ¬ WordsIs x) : false = wordsB x := by simp [wordsB, h]
theorem isWords_any (x : Nd) (b o lo hi : Nat) (w : World) (h : NdAt w lo hi b o x) :
    Calls Tryz.prog 173 #[.pointer (some ⟨b, o, none⟩)] w fun e w' => e = .returned (.bool (wordsB x)) ∧ w = w' := by
  obtain ⟨⟨c0, c1, c2, c3, z2, z3⟩, A, c, b', o', c4, hR, _⟩ := h
  obtain ⟨k, sp, n, t, al⟩ := x
  have hl := hR.2.1
  clear hR
  simp only at c0 c1 c2 c3 z2 z3 c4 hl
  unfold maxLen at z3 hl
  clear c0 z2
  by_cases h1 : t.size ≤ 120
  · by_cases h2 : sp = 0
    · subst h2
      by_cases h3 : n.size = 0
      · have hn := is_nil (s := n) (by omega)
        have H3 := Lib.hid h3
        clear h3
        by_cases h4 : al.length = 0
        · have H4 := Lib.hid h4
          rw [h4] at c4
          clear h4 hl
          go_enter Tryz.func173, Tryz.ntmps173
          go_wp2
          go_ret
          exact ⟨ret_bool (wordsB_t ⟨h1, rfl, H3.out, H4.out⟩), rfl⟩
        · have H4 := Lib.hid h4
          have h4' : ((al.length : Int) == 0) = false := by simp; intro e; simp [e] at h4
          clear h4
          go_enter Tryz.func173, Tryz.ntmps173
          go_wp2
          go_ret
          exact ⟨ret_bool (wordsB_f fun h => H4.out h.2.2.2), rfl⟩
      · have hn := ne_nil (s := n) (by omega)
        have hn2 := ne_empty (s := n) (by omega)
        have H3 := Lib.hid h3
        clear h3
        go_enter Tryz.func173, Tryz.ntmps173
        go_wp2
        go_ret
        exact ⟨ret_bool (wordsB_f fun h => H3.out h.2.2.1), rfl⟩
    · have hs' : (sp == 0) = false := by simpa using h2
      have H2 := Lib.hid h2
      clear h2
      go_enter Tryz.func173, Tryz.ntmps173
      go_wp2
      go_ret
      exact ⟨ret_bool (wordsB_f fun h => H2.out h.2.1), rfl⟩
  · have H1 := Lib.hid h1
    have h1' : decide ((t.size : Int) ≤ 120) = false := by simp; omega
    clear h1
    go_enter Tryz.func173, Tryz.ntmps173
    go_wp2
    go_ret
    exact ⟨ret_bool (wordsB_f fun h => H1.out h.1), rfl⟩
theorem depth_any (C : Nat → Prop) (lo hi : Nat) (ch : List Nd) (q : Option Addr) (w : World) (h : SpotAt w C lo hi q ch) (hl : ch.length ≤ 1048576) :
    Calls Tryz.prog 123 #[.pointer q] w fun e w' => e = .returned (.int .i64 ch.length) ∧ w = w' := by
  have HS := Lib.hid h
  clear h
  go_enter Tryz.func123, Tryz.ntmps123
  go_wp2
  go_loop [0, 3] (fun p i => ∃ (p' : Option Addr) (k : Nat) (suf : List Nd), p = .pointer p' ∧ i = .int .i64 (k : Int) ∧ k + suf.length = ch.length ∧ Hid (SpotAt w C lo hi p' suf)) (fun p i => ch.length - (intOf i).toNat)
  case atStart => exact ⟨q, 0, ch, rfl, rfl, by omega, HS⟩
  case round =>
    obtain ⟨p', k, suf, rfl, rfl, hk, HH⟩ := hrel
    cases suf with
    | nil =>
      have hp : p' = none := HH.out
      subst hp
      have hk' : k = ch.length := by simpa using hk
      subst hk'
      go_wp2
      go_ret
      exact ⟨rfl, rfl⟩
    | cons x r =>
      obtain ⟨g, b, o, q', rfl, h2, h3, h4, h5, h6, h7, h8, h9⟩ := HH.out
      have H9 := Lib.hid h9
      simp at hk
      clear HH h4 h5 h8 h9
      go_wp2
      go_round
      case rel => exact ⟨q', k + 1, r, rfl, by go_num, by omega, H9⟩
      case measure => simp [intOf]; omega
end Go.Proofs.YthdkkpbhijlpaaaGreat
