import Derived.Test.YtocpmkpffhmlaaaSer1
namespace Go.Proofs.Ytocpmkpffhmlaaa
open Go.ChangeShapes Go.WideShapes Go.ChangeAt Go.RowKit Go.Deep

theorem asAt_nth {w : World} {b : Nat} : ∀ {al : List (ByteArray × ByteArray)} {o : Nat}, AsAt w b o al → ∀ k (h : k < al.length), w.cell? ⟨b, o + k * 2, none⟩ = some (.string al[k].1) ∧ w.cell? ⟨b, o + k * 2 + 1, none⟩ = some (.string al[k].2)
  | _ :: _, o, ⟨h1, h2, h3, h4, h5⟩, 0, _ => ⟨by simpa using h1, by simpa using h2⟩
  | _ :: r, o, ⟨h1, h2, h3, h4, h5⟩, k + 1, h => by
    have := asAt_nth h5 k (by simpa using h)
    rw [show o + 2 + k * 2 = o + (k + 1) * 2 by omega] at this
    exact this
/-- values that are small enough to be escaped -/
def AlSm (al : List (ByteArray × ByteArray)) : Prop := ∀ x ∈ al, x.1.size ≤ 65536 ∧ x.2.size ≤ 65536
theorem alText_take {al : List (ByteArray × ByteArray)} {k : Nat} (h : k < al.length) : alText (al.take (k + 1)) = alText (al.take k) ++ (32 :: (al[k].1.data.toList ++ (61 :: 34 :: (escL escV al[k].2.data.toList ++ [34])))) := by
  rw [List.take_succ_eq_append_getElem h, alText_snoc]
theorem asSize_take : ∀ (al : List (ByteArray × ByteArray)) (k : Nat), asSize (al.take k) ≤ asSize al
  | [], k => by simp
  | x :: r, 0 => by simp [asSize]
  | x :: r, k + 1 => by have := asSize_take r k; simp only [List.take_succ_cons, asSize]; omega
theorem asSize_nth : ∀ (al : List (ByteArray × ByteArray)) (k : Nat) (h : k < al.length), al[k].1.size + al[k].2.size ≤ asSize al
  | x :: r, 0, _ => by simp only [asSize, List.getElem_cons_zero]; omega
  | x :: r, k + 1, h => by have := asSize_nth r k (by simpa using h); simp only [asSize, List.getElem_cons_succ]; omega

set_option maxHeartbeats 2000000 in
theorem l06Start_any (k sp : Int) (n t : ByteArray) (al : List (ByteArray × ByteArray)) (w : World) (A K : Option Addr) (c kl kc b' o' lo hi : Nat)
    (hsm : AlSm al) (hnz : n.size + al.length + asSize al ≤ 1048576 * 64) (hR : RowAt lo hi A al.length b' o') (hal : AsAt w b' o' al) (hh : hi ≤ w.heap.size) :
    Calls Try.prog 19 #[.agg #[.int .i64 k, .int .i64 sp, .string n, .string t, .slice A al.length c, .slice K kl kc]] w fun e w' => e = .returned (.string ⟨(tagText n al).toArray⟩) ∧ Below w.heap.size w w' := by
  have h1 : ∀ W, (Op.stringOp .add ⟨#[60]⟩ n).run Try.prog W = .ok (.string ⟨(60 :: (n.data.toList ++ alText (al.take 0))).toArray⟩) W := fun W => (add_tx [60] n (by simp; omega) W).trans (by simp [alText])
  have hln : al.length ≤ 1048576 * 64 := by omega
  have HR := Lib.hid hR
  have HA := Lib.hid hal
  have HS := Lib.hid hsm
  clear hR hal hsm
  go_enter Try.func19, Try.ntmps19
  go_wp2
  go_loopw [3, 4] (fun v i wr => ∃ j : Nat, j ≤ al.length ∧ i = .int .i64 (j : Int) ∧ v = .string ⟨(60 :: (n.data.toList ++ alText (al.take j))).toArray⟩ ∧ Hid (Below (w.heap.size + 1) (w.alloc (.cells #[.int .i64 k, .int .i64 sp, .string n, .string t, .slice A al.length c, .slice K kl kc] 38)) wr)) (fun v i wr => al.length - (intOf i).toNat)
  case atStart => exact ⟨0, Nat.zero_le _, rfl, rfl, Lib.hid (by have := Below.refl (w.alloc (.cells #[.int .i64 k, .int .i64 sp, .string n, .string t, .slice A al.length c, .slice K kl kc] 38)).heap.size (w.alloc (.cells #[.int .i64 k, .int .i64 sp, .string n, .string t, .slice A al.length c, .slice K kl kc] 38)); simpa using this)⟩
  case round =>
    obtain ⟨j, hj, rfl, rfl, HB⟩ := hrel
    have p4 : wr.cell? ⟨w.heap.size, 4, none⟩ = some (.slice A al.length c) := (HB.out.cell (p := ⟨w.heap.size, 4, none⟩) (by show w.heap.size < _; omega)).trans (new_cell (j := 4) rfl)
    have KB : Hid (Below w.heap.size w wr) := Lib.hid (((Below.refl w.heap.size w).alloc (Nat.le_refl _) _).trans (HB.out.mono (Nat.le_succ _)))
    by_cases hlt : j < al.length
    · obtain ⟨e1, e2⟩ := asAt_nth HA.out j hlt
      obtain ⟨rfl, hlo, hhi⟩ := HR.out.2 (by omega)
      have q1 := (KB.out.cell (p := ⟨b', o' + j * 2, none⟩) (by show b' < _; omega)).trans e1
      have q2 := (KB.out.cell (p := ⟨b', o' + j * 2 + 1, none⟩) (by show b' < _; omega)).trans e2
      have hx := HS.out al[j] (List.getElem_mem hlt)
      have hT := Lib.hid (alText_take hlt)
      have hz1 := asSize_nth al j hlt
      have hz2 := alText_len (al.take j)
      have hz3 := asSize_take al j
      have hz4 : (al.take j).length ≤ j := List.length_take_le _ _
      generalize al[j] = y at *
      obtain ⟨yn, yv⟩ := y
      simp only at q1 q2 hx hz1
      have hz5 := escV_le yv
      have hz6 := baLen yn
      have hz7 := baLen n
      obtain ⟨L1, ⟨e1', g1⟩, a1⟩ := add_lx [32] yn (by simp; omega)
      obtain ⟨L2, ⟨e2', g2⟩, a2⟩ := add_lx L1 ⟨#[61, 34]⟩ (by simp at g1; show _ + 2 ≤ _; omega)
      obtain ⟨L3, ⟨e3', g3⟩, a3⟩ := add_lx L2 ⟨(escL escV yv.data.toList).toArray⟩ (by rw [sizeL]; simp at g1; change _ = _ + 2 at g2; omega)
      obtain ⟨L4, ⟨e4', g4⟩, a4⟩ := add_lx L3 ⟨#[34]⟩ (by rw [sizeL] at g3; simp at g1; change _ = _ + 2 at g2; show _ + 1 ≤ _; omega)
      have a5 : ∀ W, (Op.stringOp .add ⟨(60 :: (n.data.toList ++ alText (al.take j))).toArray⟩ ⟨L4.toArray⟩).run Try.prog W = .ok (.string ⟨(60 :: (n.data.toList ++ alText (al.take (j + 1)))).toArray⟩) W := fun W => by
        refine (add_ll _ L4 (by rw [sizeL] at g3; simp at g1; change _ = _ + 2 at g2; change _ = _ + 1 at g4; simp; omega) W).trans ?_
        rw [hT.out, e4', e3', e2', e1']; simp
      clear e1' e2' e3' e4' g1 g2 g3 g4
      have HV : Hid (∀ (W : World) (m : Nat), Calls Try.prog 29 #[.string yv] (W.drewN m) fun e w' => e = .returned (.string ⟨(escL escV yv.data.toList).toArray⟩) ∧ w' = W.drewN m) := Lib.hid fun W m => (l02Value_any yv (W.drewN m) hx.2).mono fun e w' h => ⟨by rw [h.1, escS_all], h.2.symm⟩
      clear e1 e2 hz1 hz2 hz3 hz4 hz5 hz6 hz7 hx hT
      go_wp2
      go_quiet ((go_at_call 29; exact Calls.quiet_of_same (HV.out _ _)))
      go_wp2
      go_roundw
      case rel => exact ⟨j + 1, by omega, by go_num, rfl, Lib.hid (below_drewN HB.out _)⟩
      case measure => simp [intOf]; omega
    · obtain rfl : j = al.length := by omega
      have e9 : al.take al.length = al := List.take_length
      have hz2 := alText_len al
      have hz7 := baLen n
      rw [e9]
      have a6 : ∀ W, (Op.stringOp .add ⟨(60 :: (n.data.toList ++ alText al)).toArray⟩ ⟨#[62]⟩).run Try.prog W = .ok (.string ⟨(tagText n al).toArray⟩) W := fun W => (add_ll _ [62] (by simp; omega) W).trans (by simp [tagText])
      clear e9 hz2 hz7
      go_wp2
      go_ret
      exact ⟨rfl, KB.out⟩
end Go.Proofs.Ytocpmkpffhmlaaa
