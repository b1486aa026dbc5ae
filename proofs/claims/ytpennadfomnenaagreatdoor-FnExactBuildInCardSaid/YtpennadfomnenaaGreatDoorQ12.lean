import Derived.Test.YtpennadfomnenaaGreatDoorQ11
set_option linter.unusedVariables false
namespace Go.Proofs.YtpennadfomnenaaGreatDoor
open Go.ChangeShapes Go.WideShapes Go.ChangeAt Go.RowKit Go.Deep

theorem AsAt.take {w : World} {b : Nat} : ∀ {al : List (ByteArray × ByteArray)} {o : Nat} (k : Nat), AsAt w b o al → AsAt w b o (al.take k)
  | [], _, k, _ => by simp [AsAt]
  | _ :: _, _, 0, _ => trivial
  | _ :: _, _, k + 1, ⟨h1, h2, h3, h4, h5⟩ => ⟨h1, h2, h3, h4, AsAt.take k h5⟩
theorem idx_take {al : List (ByteArray × ByteArray)} {k : Nat} {n : ByteArray} (h : idxAl (al.take k) n 0 = -1) (j : Nat) (hj : j < k) (hl : j < al.length) : al[j].1 ≠ n := by
  have hm : j < (al.take k).length := by simp; omega
  have := (idxAl_none _ _ _).1 h (al.take k)[j] (List.getElem_mem hm)
  simpa using this
theorem idx_hit {al : List (ByteArray × ByteArray)} {k : Nat} {n : ByteArray} (h : 0 ≤ idxAl (al.take k) n 0) : ∃ j, ∃ hl : j < al.length, j < k ∧ al[j].1 = n := by
  have h2 : ¬ ∀ x ∈ al.take k, x.1 ≠ n := fun hx => by have := (idxAl_none (al.take k) n 0).2 hx; omega
  simp only [Classical.not_forall, Classical.not_not] at h2
  obtain ⟨x, hx, hn⟩ := h2
  obtain ⟨j, hj, rfl⟩ := List.getElem_of_mem hx
  have hj' : j < min k al.length := by simpa using hj
  exact ⟨j, by omega, by omega, by simpa using hn⟩
theorem attrs_next {al : List (ByteArray × ByteArray)} {k : Nat} (h : AlTo al k) (hk : k < al.length) (ha : attrB al[k] = true) (hn : idxAl (al.take k) al[k].1 0 = -1) : AlTo al (k + 1) := by
  intro i hi hik
  by_cases e : i = k
  · subst e; exact ⟨(attrB_iff _).1 ha, fun j hj => idx_take hn j hj (by omega)⟩
  · exact h i hi (by omega)
theorem slice_upto (b o n c k : Nat) (hk : k ≤ n) (hc : n ≤ c) (w : World) : (Instr.slice 27 (.slice (some ⟨b, o, none⟩) n c) none (some (.int .i64 (k : Int))) none).run Tryz.prog w = .ok (.slice (some ⟨b, o, none⟩) k c) w := by
  have he : Tryz.prog.elem 27 = 45 := by kernel_rfl
  have ht : Tryz.prog.underlying 27 = some (.slice (Tryz.prog.elem 27)) := by rw [he]; exact Tryz.underlying27
  have hs : (sizeOf 45).run Tryz.prog w = .ok 2 w := by kernel_rfl
  rw [run_slice_h w _ _ _ _ ht .i64 (k : Int) (by omega) (by omega), he, hs]
  show Result.ok (sliced (some ⟨b, o, none⟩) 0 (k : Int).toNat c 2) w = _
  unfold sliced
  rw [Int.toNat_natCast]
  by_cases e : c = 0
  · subst e
    obtain rfl : k = 0 := by omega
    rfl
  · rw [if_neg e]; simp [Addr.add]
theorem placeOfAttr_k {al : List (ByteArray × ByteArray)} {w w1 : World} {b o lo hi k c : Nat} (hlo : lo ≤ b) (hhi : b < hi) (hal : AsAt w b o al) (hk : k < al.length) (hlen : al.length ≤ 9223372036854775807) (n : ByteArray) (hB : Below w.heap.size w w1) (hh : hi ≤ w.heap.size) :
    Calls Tryz.prog 199 #[.slice (some ⟨b, o, none⟩) k c, .string n] w1 fun e w' => e = .returned (.int .i64 (idxAl (al.take k) n 0)) ∧ Below w1.heap.size w1 w' := by
  have hl : (al.take k).length = k := by simp; omega
  have hr : RowAt lo hi (some ⟨b, o, none⟩) (al.take k).length b o := ⟨by rw [hl]; unfold maxLen; omega, fun _ => ⟨rfl, hlo, hhi⟩⟩
  have := placeOfAttr_any (al.take k) n w1 (some ⟨b, o, none⟩) c b o lo hi hr (Nat.le_trans hh hB.size) ((hal.take k).but (C := No) (lo := lo) (hi := hi) hr (But.of_below hB) hh (fun _ h => h.elim))
  rwa [hl] at this
set_option maxHeartbeats 1000000 in
theorem attrsOK_any (al : List (ByteArray × ByteArray)) (w : World) (A : Option Addr) (c b o lo hi : Nat) (hA : RowC lo hi A al.length c b o) (hh : hi ≤ w.heap.size) (hal : AsAt w b o al) :
    Calls Tryz.prog 149 #[.slice A al.length c] w fun e w' => e = .returned (.bool (alB al)) ∧ Below w.heap.size w w' := by
  obtain ⟨hcap, hA⟩ := hA
  have hlen := hA.1
  unfold maxLen at hlen
  by_cases h6 : al.length ≤ 6
  · have HA := Lib.hid hA
    have HS := Lib.hid hal.get
    have HAL := Lib.hid hal
    clear hA hal
    go_enter Tryz.func149, Tryz.ntmps149
    go_wp2
    go_loopw [10] (fun i wr => ∃ (k : Nat), i = .int .i64 (k : Int) ∧ k ≤ al.length ∧ Hid (AlTo al k ∧ Below w.heap.size w wr)) (fun i wr => al.length - (intOf i).toNat)
    case atStart => exact ⟨0, rfl, Nat.zero_le _, Lib.hid ⟨fun i _ h => absurd h (Nat.not_lt_zero _), Below.refl _ _⟩⟩
    case round =>
      obtain ⟨k, rfl, hk, HH⟩ := hrel
      by_cases hlt : k < al.length
      · obtain ⟨rfl, hlo, hhi⟩ := HA.out.2 (by omega)
        have hB := HH.out.2
        obtain ⟨s1, s2, s3, s4⟩ := HS.out k hlt
        have t1 := (hB.cell (p := ⟨b, o + k * 2, none⟩) (by show b < _; omega)).trans s1
        have t2 := (hB.cell (p := ⟨b, o + k * 2 + 1, none⟩) (by show b < _; omega)).trans s2
        have HB := Lib.hid hB
        clear hB s1 s2
        generalize hx : al[k] = x at *
        have HX := Lib.hid hx
        clear hx
        obtain ⟨n, v⟩ := x
        simp only at t1 t2 s3 s4
        go_wp2
        have hv0 : (wr.alloc (.cells #[.string n, .string v] 45)).drew.cell? ⟨wr.heap.size, 0, none⟩ = some (.string n) := new_cell rfl
        have hv1 : (wr.alloc (.cells #[.string n, .string v] 45)).drew.cell? ⟨wr.heap.size, 1, none⟩ = some (.string v) := new_cell rfl
        have hsz : wr.heap.size < (wr.alloc (.cells #[.string n, .string v] 45)).drew.heap.size := by show _ < (wr.alloc _).heap.size; simp
        have hbw : Below w.heap.size w (wr.alloc (.cells #[.string n, .string v] 45)).drew := (HB.out.alloc HB.out.size _).drew
        have HBW := Lib.hid hbw
        clear hbw
        cases ha : attrB (n, v) with
        | false =>
          have HA1 := Lib.hid ha
          clear ha
          refine wp_region_held_drew (S := fun w' => w'.cell? ⟨wr.heap.size, 0, none⟩ = some (.string n) ∧ w'.cell? ⟨wr.heap.size, 1, none⟩ = some (.string v)) (by kernel_rfl) ⟨hv0, hv1⟩ (fun hHeld => ?_)
          refine wpAnyH_take (i := 0) (v := .agg #[.string n, .string v]) rfl (by kernel_rfl) (by kernel_rfl) (by kernel_rfl) (fun _ _ _ h => h) (Or.inl ⟨by rfl, fun w hSw => by (try dsimp only at hSw); go_simp⟩) (by assumption) ?_; (try simp only [Act.put, List.setIfInBounds_toArray, List.set_cons_zero, List.set_cons_succ, List.getElem_toArray, List.getElem_cons_zero])
          refine wpAnyH_ready (rs := [1]) (by kernel_rfl) (by simp) ?_; refine AllReadyH.cons rfl (fun K hK => ?_) AllReadyH.nil; go_simp; (go_at_call 198; refine (attrOK_any (n, v) _ s3 s4).mono ?_; rintro e w1 ⟨rfl, hB1⟩; rw [HA1.out]; have f0 := (hB1.cell (p := ⟨wr.heap.size, 0, none⟩) hsz).trans hv0; have f1 := (hB1.cell (p := ⟨wr.heap.size, 1, none⟩) hsz).trans hv1; have K1 := Lib.hid (HBW.out.trans (hB1.mono HBW.out.size)); clear hB1); (try go_wp2_with fail); refine hK.out _ _ ⟨f0, f1⟩ (fun hHeld => ?_); clear hK K; (try simp only [Act.put, List.setIfInBounds_toArray, List.set_cons_zero, List.set_cons_succ, List.getElem_toArray, List.getElem_cons_zero, List.getElem_cons_succ])
          refine wpAnyH_take (i := 2) (v := .bool true) rfl (by kernel_rfl) (by kernel_rfl) (by kernel_rfl) (fun _ _ _ h => h) (Or.inl ⟨by rfl, fun w hSw => by (try dsimp only at hSw); go_simp⟩) (by assumption) ?_; (try simp only [Act.put, List.setIfInBounds_toArray, List.set_cons_zero, List.set_cons_succ, List.getElem_toArray, List.getElem_cons_zero, List.getElem_cons_succ])
          refine wpAnyH_take (i := 3) (v := .bool true) rfl (by kernel_rfl) (by kernel_rfl) (by kernel_rfl) (fun _ _ _ h => h) (Or.inl ⟨by rfl, fun w hSw => by (try dsimp only at hSw); go_simp⟩) (by assumption) ?_; (try simp only [Act.put, List.setIfInBounds_toArray, List.set_cons_zero, List.set_cons_succ, List.getElem_toArray, List.getElem_cons_zero, List.getElem_cons_succ])
          refine wpAnyH_take (i := 4) (v := undef) rfl (by kernel_rfl) (by kernel_rfl) (by kernel_rfl) (fun _ _ _ h => h) (Or.inr ⟨by rfl, rfl⟩) (by assumption) ?_; (try simp only [Act.put, List.setIfInBounds_toArray, List.set_cons_zero, List.set_cons_succ, List.getElem_toArray, List.getElem_cons_zero, List.getElem_cons_succ])
          refine wpAnyH_take (i := 5) (v := undef) rfl (by kernel_rfl) (by kernel_rfl) (by kernel_rfl) (fun _ _ _ h => h) (Or.inr ⟨by rfl, rfl⟩) (by assumption) ?_; (try simp only [Act.put, List.setIfInBounds_toArray, List.set_cons_zero, List.set_cons_succ, List.getElem_toArray, List.getElem_cons_zero, List.getElem_cons_succ])
          refine wpAnyH_take (i := 6) (v := undef) rfl (by kernel_rfl) (by kernel_rfl) (by kernel_rfl) (fun _ _ _ h => h) (Or.inr ⟨by rfl, rfl⟩) (by assumption) ?_; (try simp only [Act.put, List.setIfInBounds_toArray, List.set_cons_zero, List.set_cons_succ, List.getElem_toArray, List.getElem_cons_zero, List.getElem_cons_succ])
          refine wpAnyH_take (i := 7) (v := undef) rfl (by kernel_rfl) (by kernel_rfl) (by kernel_rfl) (fun _ _ _ h => h) (Or.inr ⟨by rfl, rfl⟩) (by assumption) ?_; (try simp only [Act.put, List.setIfInBounds_toArray, List.set_cons_zero, List.set_cons_succ, List.getElem_toArray, List.getElem_cons_zero, List.getElem_cons_succ])
          refine wpAnyH_take (i := 8) (v := undef) rfl (by kernel_rfl) (by kernel_rfl) (by kernel_rfl) (fun _ _ _ h => h) (Or.inr ⟨by rfl, rfl⟩) (by assumption) ?_; (try simp only [Act.put, List.setIfInBounds_toArray, List.set_cons_zero, List.set_cons_succ, List.getElem_toArray, List.getElem_cons_zero, List.getElem_cons_succ])
          refine wpAnyH_take (i := 9) (v := undef) rfl (by kernel_rfl) (by kernel_rfl) (by kernel_rfl) (fun _ _ _ h => h) (Or.inr ⟨by rfl, rfl⟩) (by assumption) ?_; (try simp only [Act.put, List.setIfInBounds_toArray, List.set_cons_zero, List.set_cons_succ, List.getElem_toArray, List.getElem_cons_zero, List.getElem_cons_succ])
          refine wpAnyH_take (i := 10) (v := undef) rfl (by kernel_rfl) (by kernel_rfl) (by kernel_rfl) (fun _ _ _ h => h) (Or.inr ⟨by rfl, rfl⟩) (by assumption) ?_; (try simp only [Act.put, List.setIfInBounds_toArray, List.set_cons_zero, List.set_cons_succ, List.getElem_toArray, List.getElem_cons_zero, List.getElem_cons_succ])
          refine wpAnyH_take (i := 11) (v := .bool true) rfl (by kernel_rfl) (by kernel_rfl) (by kernel_rfl) (fun _ _ _ h => h) (Or.inl ⟨by rfl, fun w hSw => by (try dsimp only at hSw); go_simp⟩) (by assumption) ?_; (try simp only [Act.put, List.setIfInBounds_toArray, List.set_cons_zero, List.set_cons_succ, List.getElem_toArray, List.getElem_cons_zero, List.getElem_cons_succ])
          refine wpAnyH_done (by kernel_rfl) ?_ _
          go_wp2
          go_ret
          exact ⟨ret_bool (alB_false fun h => by have := (attrB_iff _).2 (h.2 k hlt hlt).1; rw [HX.out, HA1.out] at this; simp at this), K1.out⟩
        | true =>
          have HA1 := Lib.hid ha
          clear ha
          have hsl := slice_upto b o al.length c k hk hcap
          have hI : idxAl (al.take k) n 0 = -1 ∨ 0 ≤ idxAl (al.take k) n 0 := idxAl_neg _ _ _
          generalize hi0 : idxAl (al.take k) n 0 = ix at hI
          have HI0 := Lib.hid hi0
          clear hi0
          rcases hI with rfl | hI
          · skip
            refine wp_region_held_drew (S := fun w' => w'.cell? ⟨wr.heap.size, 0, none⟩ = some (.string n) ∧ w'.cell? ⟨wr.heap.size, 1, none⟩ = some (.string v)) (by kernel_rfl) ⟨hv0, hv1⟩ (fun hHeld => ?_)
            refine wpAnyH_take (i := 0) (v := .agg #[.string n, .string v]) rfl (by kernel_rfl) (by kernel_rfl) (by kernel_rfl) (fun _ _ _ h => h) (Or.inl ⟨by rfl, fun w hSw => by (try dsimp only at hSw); go_simp⟩) (by assumption) ?_; (try simp only [Act.put, List.setIfInBounds_toArray, List.set_cons_zero, List.set_cons_succ, List.getElem_toArray, List.getElem_cons_zero])
            refine wpAnyH_ready (rs := [1]) (by kernel_rfl) (by simp) ?_; refine AllReadyH.cons rfl (fun K hK => ?_) AllReadyH.nil; go_simp; (go_at_call 198; refine (attrOK_any (n, v) _ s3 s4).mono ?_; rintro e w1 ⟨rfl, hB1⟩; rw [HA1.out]; have f0 := (hB1.cell (p := ⟨wr.heap.size, 0, none⟩) hsz).trans hv0; have f1 := (hB1.cell (p := ⟨wr.heap.size, 1, none⟩) hsz).trans hv1; have K1 := Lib.hid (HBW.out.trans (hB1.mono HBW.out.size)); have LE := Lib.hid hB1.size; clear hB1); (try go_wp2_with fail); refine hK.out _ _ ⟨f0, f1⟩ (fun hHeld => ?_); clear hK K; (try simp only [Act.put, List.setIfInBounds_toArray, List.set_cons_zero, List.set_cons_succ, List.getElem_toArray, List.getElem_cons_zero, List.getElem_cons_succ])
            refine wpAnyH_take (i := 2) (v := .bool false) rfl (by kernel_rfl) (by kernel_rfl) (by kernel_rfl) (fun _ _ _ h => h) (Or.inl ⟨by rfl, fun w hSw => by (try dsimp only at hSw); go_simp⟩) (by assumption) ?_; (try simp only [Act.put, List.setIfInBounds_toArray, List.set_cons_zero, List.set_cons_succ, List.getElem_toArray, List.getElem_cons_zero, List.getElem_cons_succ])
            refine wpAnyH_take (i := 3) (v := .bool false) rfl (by kernel_rfl) (by kernel_rfl) (by kernel_rfl) (fun _ _ _ h => h) (Or.inl ⟨by rfl, fun w hSw => by (try dsimp only at hSw); go_simp⟩) (by assumption) ?_; (try simp only [Act.put, List.setIfInBounds_toArray, List.set_cons_zero, List.set_cons_succ, List.getElem_toArray, List.getElem_cons_zero, List.getElem_cons_succ])
            refine wpAnyH_take (i := 4) (v := .slice (some ⟨b, o, none⟩) al.length c) rfl (by kernel_rfl) (by kernel_rfl) (by kernel_rfl) (fun _ _ _ h => h) (Or.inl ⟨by rfl, fun w hSw => by (try dsimp only at hSw); go_simp⟩) (by assumption) ?_; (try simp only [Act.put, List.setIfInBounds_toArray, List.set_cons_zero, List.set_cons_succ, List.getElem_toArray, List.getElem_cons_zero, List.getElem_cons_succ])
            refine wpAnyH_take (i := 5) (v := .int .i64 (k : Int)) rfl (by kernel_rfl) (by kernel_rfl) (by kernel_rfl) (fun _ _ _ h => h) (Or.inl ⟨by rfl, fun w hSw => by (try dsimp only at hSw); go_simp⟩) (by assumption) ?_; (try simp only [Act.put, List.setIfInBounds_toArray, List.set_cons_zero, List.set_cons_succ, List.getElem_toArray, List.getElem_cons_zero, List.getElem_cons_succ])
            refine wpAnyH_take (i := 6) (v := .slice (some ⟨b, o, none⟩) k c) rfl (by kernel_rfl) (by kernel_rfl) (by kernel_rfl) (fun _ _ _ h => h) (Or.inl ⟨by rfl, fun w hSw => by (try dsimp only at hSw); go_simp⟩) (by assumption) ?_; (try simp only [Act.put, List.setIfInBounds_toArray, List.set_cons_zero, List.set_cons_succ, List.getElem_toArray, List.getElem_cons_zero, List.getElem_cons_succ])
            refine wpAnyH_take (i := 7) (v := .pointer (some ⟨wr.heap.size, 0, none⟩)) rfl (by kernel_rfl) (by kernel_rfl) (by kernel_rfl) (fun _ _ _ h => h) (Or.inl ⟨by rfl, fun w hSw => by (try dsimp only at hSw); go_simp⟩) (by assumption) ?_; (try simp only [Act.put, List.setIfInBounds_toArray, List.set_cons_zero, List.set_cons_succ, List.getElem_toArray, List.getElem_cons_zero, List.getElem_cons_succ])
            refine wpAnyH_take (i := 8) (v := .string n) rfl (by kernel_rfl) (by kernel_rfl) (by kernel_rfl) (fun _ _ _ h => h) (Or.inl ⟨by rfl, fun w hSw => by (try dsimp only at hSw); go_simp⟩) (by assumption) ?_; (try simp only [Act.put, List.setIfInBounds_toArray, List.set_cons_zero, List.set_cons_succ, List.getElem_toArray, List.getElem_cons_zero, List.getElem_cons_succ])
            refine wpAnyH_ready (rs := [9]) (by kernel_rfl) (by simp) ?_; refine AllReadyH.cons rfl (fun K hK => ?_) AllReadyH.nil; go_simp; (go_at_call 199; refine (placeOfAttr_k (o := o) hlo hhi HAL.out hlt hlen n K1.out hh).mono ?_; rintro e w2 ⟨rfl, hB2⟩; rw [HI0.out]; have g0 := (hB2.cell (p := ⟨wr.heap.size, 0, none⟩) (Nat.lt_of_lt_of_le hsz LE.out)).trans f0; have g1 := (hB2.cell (p := ⟨wr.heap.size, 1, none⟩) (Nat.lt_of_lt_of_le hsz LE.out)).trans f1; have K2 := Lib.hid (K1.out.trans (hB2.mono K1.out.size)); clear hB2); (try go_wp2_with fail); refine hK.out _ _ ⟨g0, g1⟩ (fun hHeld => ?_); clear hK K; (try simp only [Act.put, List.setIfInBounds_toArray, List.set_cons_zero, List.set_cons_succ, List.getElem_toArray, List.getElem_cons_zero, List.getElem_cons_succ])
            refine wpAnyH_take (i := 10) (v := .bool false) rfl (by kernel_rfl) (by kernel_rfl) (by kernel_rfl) (fun _ _ _ h => h) (Or.inl ⟨by rfl, fun w hSw => by (try dsimp only at hSw); go_simp⟩) (by assumption) ?_; (try simp only [Act.put, List.setIfInBounds_toArray, List.set_cons_zero, List.set_cons_succ, List.getElem_toArray, List.getElem_cons_zero, List.getElem_cons_succ])
            refine wpAnyH_take (i := 11) (v := .bool false) rfl (by kernel_rfl) (by kernel_rfl) (by kernel_rfl) (fun _ _ _ h => h) (Or.inl ⟨by rfl, fun w hSw => by (try dsimp only at hSw); go_simp⟩) (by assumption) ?_; (try simp only [Act.put, List.setIfInBounds_toArray, List.set_cons_zero, List.set_cons_succ, List.getElem_toArray, List.getElem_cons_zero, List.getElem_cons_succ])
            refine wpAnyH_done (by kernel_rfl) ?_ _
            go_wp2
            go_roundw
            case rel => exact ⟨k + 1, by go_num, by omega, Lib.hid ⟨attrs_next HH.out.1 hlt (by rw [HX.out]; exact HA1.out) (by rw [HX.out]; exact HI0.out), K2.out⟩⟩
            case measure => simp [intOf]; omega
          · skip
            refine wp_region_held_drew (S := fun w' => w'.cell? ⟨wr.heap.size, 0, none⟩ = some (.string n) ∧ w'.cell? ⟨wr.heap.size, 1, none⟩ = some (.string v)) (by kernel_rfl) ⟨hv0, hv1⟩ (fun hHeld => ?_)
            refine wpAnyH_take (i := 0) (v := .agg #[.string n, .string v]) rfl (by kernel_rfl) (by kernel_rfl) (by kernel_rfl) (fun _ _ _ h => h) (Or.inl ⟨by rfl, fun w hSw => by (try dsimp only at hSw); go_simp⟩) (by assumption) ?_; (try simp only [Act.put, List.setIfInBounds_toArray, List.set_cons_zero, List.set_cons_succ, List.getElem_toArray, List.getElem_cons_zero])
            refine wpAnyH_ready (rs := [1]) (by kernel_rfl) (by simp) ?_; refine AllReadyH.cons rfl (fun K hK => ?_) AllReadyH.nil; go_simp; (go_at_call 198; refine (attrOK_any (n, v) _ s3 s4).mono ?_; rintro e w1 ⟨rfl, hB1⟩; rw [HA1.out]; have f0 := (hB1.cell (p := ⟨wr.heap.size, 0, none⟩) hsz).trans hv0; have f1 := (hB1.cell (p := ⟨wr.heap.size, 1, none⟩) hsz).trans hv1; have K1 := Lib.hid (HBW.out.trans (hB1.mono HBW.out.size)); have LE := Lib.hid hB1.size; clear hB1); (try go_wp2_with fail); refine hK.out _ _ ⟨f0, f1⟩ (fun hHeld => ?_); clear hK K; (try simp only [Act.put, List.setIfInBounds_toArray, List.set_cons_zero, List.set_cons_succ, List.getElem_toArray, List.getElem_cons_zero, List.getElem_cons_succ])
            refine wpAnyH_take (i := 2) (v := .bool false) rfl (by kernel_rfl) (by kernel_rfl) (by kernel_rfl) (fun _ _ _ h => h) (Or.inl ⟨by rfl, fun w hSw => by (try dsimp only at hSw); go_simp⟩) (by assumption) ?_; (try simp only [Act.put, List.setIfInBounds_toArray, List.set_cons_zero, List.set_cons_succ, List.getElem_toArray, List.getElem_cons_zero, List.getElem_cons_succ])
            refine wpAnyH_take (i := 3) (v := .bool false) rfl (by kernel_rfl) (by kernel_rfl) (by kernel_rfl) (fun _ _ _ h => h) (Or.inl ⟨by rfl, fun w hSw => by (try dsimp only at hSw); go_simp⟩) (by assumption) ?_; (try simp only [Act.put, List.setIfInBounds_toArray, List.set_cons_zero, List.set_cons_succ, List.getElem_toArray, List.getElem_cons_zero, List.getElem_cons_succ])
            refine wpAnyH_take (i := 4) (v := .slice (some ⟨b, o, none⟩) al.length c) rfl (by kernel_rfl) (by kernel_rfl) (by kernel_rfl) (fun _ _ _ h => h) (Or.inl ⟨by rfl, fun w hSw => by (try dsimp only at hSw); go_simp⟩) (by assumption) ?_; (try simp only [Act.put, List.setIfInBounds_toArray, List.set_cons_zero, List.set_cons_succ, List.getElem_toArray, List.getElem_cons_zero, List.getElem_cons_succ])
            refine wpAnyH_take (i := 5) (v := .int .i64 (k : Int)) rfl (by kernel_rfl) (by kernel_rfl) (by kernel_rfl) (fun _ _ _ h => h) (Or.inl ⟨by rfl, fun w hSw => by (try dsimp only at hSw); go_simp⟩) (by assumption) ?_; (try simp only [Act.put, List.setIfInBounds_toArray, List.set_cons_zero, List.set_cons_succ, List.getElem_toArray, List.getElem_cons_zero, List.getElem_cons_succ])
            refine wpAnyH_take (i := 6) (v := .slice (some ⟨b, o, none⟩) k c) rfl (by kernel_rfl) (by kernel_rfl) (by kernel_rfl) (fun _ _ _ h => h) (Or.inl ⟨by rfl, fun w hSw => by (try dsimp only at hSw); go_simp⟩) (by assumption) ?_; (try simp only [Act.put, List.setIfInBounds_toArray, List.set_cons_zero, List.set_cons_succ, List.getElem_toArray, List.getElem_cons_zero, List.getElem_cons_succ])
            refine wpAnyH_take (i := 7) (v := .pointer (some ⟨wr.heap.size, 0, none⟩)) rfl (by kernel_rfl) (by kernel_rfl) (by kernel_rfl) (fun _ _ _ h => h) (Or.inl ⟨by rfl, fun w hSw => by (try dsimp only at hSw); go_simp⟩) (by assumption) ?_; (try simp only [Act.put, List.setIfInBounds_toArray, List.set_cons_zero, List.set_cons_succ, List.getElem_toArray, List.getElem_cons_zero, List.getElem_cons_succ])
            refine wpAnyH_take (i := 8) (v := .string n) rfl (by kernel_rfl) (by kernel_rfl) (by kernel_rfl) (fun _ _ _ h => h) (Or.inl ⟨by rfl, fun w hSw => by (try dsimp only at hSw); go_simp⟩) (by assumption) ?_; (try simp only [Act.put, List.setIfInBounds_toArray, List.set_cons_zero, List.set_cons_succ, List.getElem_toArray, List.getElem_cons_zero, List.getElem_cons_succ])
            refine wpAnyH_ready (rs := [9]) (by kernel_rfl) (by simp) ?_; refine AllReadyH.cons rfl (fun K hK => ?_) AllReadyH.nil; go_simp; (go_at_call 199; refine (placeOfAttr_k (o := o) hlo hhi HAL.out hlt hlen n K1.out hh).mono ?_; rintro e w2 ⟨rfl, hB2⟩; rw [HI0.out]; have g0 := (hB2.cell (p := ⟨wr.heap.size, 0, none⟩) (Nat.lt_of_lt_of_le hsz LE.out)).trans f0; have g1 := (hB2.cell (p := ⟨wr.heap.size, 1, none⟩) (Nat.lt_of_lt_of_le hsz LE.out)).trans f1; have K2 := Lib.hid (K1.out.trans (hB2.mono K1.out.size)); clear hB2); (try go_wp2_with fail); refine hK.out _ _ ⟨g0, g1⟩ (fun hHeld => ?_); clear hK K; (try simp only [Act.put, List.setIfInBounds_toArray, List.set_cons_zero, List.set_cons_succ, List.getElem_toArray, List.getElem_cons_zero, List.getElem_cons_succ])
            refine wpAnyH_take (i := 10) (v := .bool true) rfl (by kernel_rfl) (by kernel_rfl) (by kernel_rfl) (fun _ _ _ h => h) (Or.inl ⟨by rfl, fun w hSw => by (try dsimp only at hSw); go_simp⟩) (by assumption) ?_; (try simp only [Act.put, List.setIfInBounds_toArray, List.set_cons_zero, List.set_cons_succ, List.getElem_toArray, List.getElem_cons_zero, List.getElem_cons_succ])
            refine wpAnyH_take (i := 11) (v := .bool true) rfl (by kernel_rfl) (by kernel_rfl) (by kernel_rfl) (fun _ _ _ h => h) (Or.inl ⟨by rfl, fun w hSw => by (try dsimp only at hSw); go_simp⟩) (by assumption) ?_; (try simp only [Act.put, List.setIfInBounds_toArray, List.set_cons_zero, List.set_cons_succ, List.getElem_toArray, List.getElem_cons_zero, List.getElem_cons_succ])
            refine wpAnyH_done (by kernel_rfl) ?_ _
            go_wp2
            go_ret
            exact ⟨ret_bool (alB_false fun h => by obtain ⟨j, hl, hjk, he⟩ := idx_hit (by rw [HI0.out]; exact hI); exact (h.2 k hlt hlt).2 j hjk (by rw [HX.out]; exact he)), K2.out⟩
      · obtain rfl : k = al.length := by omega
        go_wp2
        go_ret
        exact ⟨ret_bool (alB_true ⟨h6, HH.out.1⟩), HH.out.2⟩
  · clear hal hA
    go_enter Tryz.func149, Tryz.ntmps149
    go_wp2
    go_ret
    exact ⟨ret_bool (alB_false fun h => h6 h.1), Below.refl _ _⟩
end Go.Proofs.YtpennadfomnenaaGreatDoor
namespace Go.Proofs.YtpennadfomnenaaGreatDoor
open Go.ChangeShapes Go.WideShapes Go.ChangeAt Go.RowKit Go.Deep

def rawB (x : Nd) : Bool := (x.sp == 0) && inL rawL x.n
def voidB (x : Nd) : Bool := (x.sp == 0) && inL voidL x.n
theorem isRaw_any (x : Nd) (b o lo hi : Nat) (w : World) (h : NdAt w lo hi b o x) :
    Calls Tryz.prog 145 #[.pointer (some ⟨b, o, none⟩)] w fun e w' => e = .returned (.bool (rawB x)) ∧ w = w' := by
  obtain ⟨⟨c0, c1, c2, c3, z2, z3⟩, _⟩ := h
  obtain ⟨k, sp, n, t, al⟩ := x
  simp only at c0 c1 c2 c3 z2 z3
  clear c0 c3
  by_cases hs : sp = 0
  · subst hs
    go_enter Tryz.func145, Tryz.ntmps145
    go_wp2_with (go_at_call 65; refine (implIsRaw_any n _).mono ?_; rintro e w' ⟨rfl, rfl⟩)
    go_ret
    exact ⟨rfl, rfl⟩
  · have hs' : (sp == 0) = false := by simpa using hs
    have HS := Lib.hid hs'
    go_enter Tryz.func145, Tryz.ntmps145
    go_wp2
    go_ret
    exact ⟨ret_bool (by simp [rawB, HS.out]), rfl⟩
theorem isVoid_any (x : Nd) (b o lo hi : Nat) (w : World) (h : NdAt w lo hi b o x) :
    Calls Tryz.prog 144 #[.pointer (some ⟨b, o, none⟩)] w fun e w' => e = .returned (.bool (voidB x)) ∧ w = w' := by
  obtain ⟨⟨c0, c1, c2, c3, z2, z3⟩, _⟩ := h
  obtain ⟨k, sp, n, t, al⟩ := x
  simp only at c0 c1 c2 c3 z2 z3
  clear c0 c3
  by_cases hs : sp = 0
  · subst hs
    go_enter Tryz.func144, Tryz.ntmps144
    go_wp2_with (go_at_call 197; refine (implIsVoid_any n _).mono ?_; rintro e w' ⟨rfl, rfl⟩)
    go_ret
    exact ⟨rfl, rfl⟩
  · have hs' : (sp == 0) = false := by simpa using hs
    have HS := Lib.hid hs'
    go_enter Tryz.func144, Tryz.ntmps144
    go_wp2
    go_ret
    exact ⟨ret_bool (by simp [voidB, HS.out]), rfl⟩
end Go.Proofs.YtpennadfomnenaaGreatDoor
