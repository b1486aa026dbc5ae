import Derived.Test.YtlghmcnhdmidnaaDoorUnLoop
namespace Go.Proofs.YtlghmcnhdmidnaaDoor
open Go.ChangeShapes Go.WideShapes Go.ChangeAt Go.RowKit Go.Shelf

def UnRel (s : ByteArray) (w wr : World) (a b : Nat) : Prop :=
  ∃ acc : List UInt8, BldF w.heap.size w.heap.size (Lib.byteCells acc) wr ∧ wr.heap[w.heap.size + 1]? = some (.stringIter s b) ∧ Below w.heap.size w wr ∧ UnInv s a b acc
theorem UnRel.start (s : ByteArray) (w : World) : UnRel s w ((w.alloc (.cells #[.pointer none, .slice none 0 0] 34)).iter s 0) 0 0 := by
  refine ⟨[], ?_, ?_, ((Below.refl _ w).alloc (Nat.le_refl _) _).alloc (by simp) _, UnInv.start s⟩
  · have := (Lib.IsBuilderF.of (Lib.fresh_isBuilder 34 5 w)).alloc (.stringIter s 0)
    exact this
  · have := World.iter_heap (w.alloc (.cells #[.pointer none, .slice none 0 0] 34)) s 0
    simpa using this
theorem cut_from (s : ByteArray) (a : Nat) (ha : a ≤ s.size) (w : World) : (Instr.slice 9 (.string s) (some (.int .i64 a)) none none).run Tryd.prog w = .ok (.string (s.extract a s.size)) w := by
  rw [run_slice_string_from_if w 9 s .i64 _ Tryd.underlying9, if_pos (by omega)]
  simp
theorem upTo_at (s : ByteArray) (b : Nat) (hs : s.size ≤ 65536) (w : World) :
    Calls Tryd.prog 21 #[.string (s.extract b s.size)] w fun e w' => e = .returned (.string ⟨(told (rest s b)).toArray⟩) ∧ w = w' := by
  have h := upTo_any (s.extract b s.size) (by rw [ByteArray.size_extract]; omega) w
  have e : (s.extract b s.size).data.toList = rest s b := by
    rw [extract_list]; unfold rest; rw [List.take_of_length_le (by simp)]
  rw [e] at h
  exact h

set_option maxHeartbeats 8000000 in
set_option maxRecDepth 100000 in
theorem implUn_small (s : ByteArray) (hs : (s.size : Int) ≤ 65536) (w : World) (hw : Env w) :
    Calls Tryd.prog 10 #[.string s] w fun e w' => e = .returned (.string ⟨(un s.data.toList).toArray⟩) ∧ Below w.heap.size w w' := by
  have h' : ¬ (65536 : Int) < s.size := by omega
  go_enter Tryd.func10, Tryd.ntmps10
  go_wp2
  go_loopw [4] (fun i wr => ∃ a b : Nat, i = .int .i64 a ∧ UnRel s w wr a b) (fun _ wr => s.size - wr.iterPos (w.heap.size + 1))
  case atStart => exact ⟨0, 0, rfl, UnRel.start s w⟩
  case round =>
    obtain ⟨a, b, rfl, acc, hI, hit, hbw, hu⟩ := hrel
    have HU := Lib.hid hu
    have hbs := hu.2.1
    have ha := hu.1
    clear hu
    have hsz : w.heap.size + 1 < wr.heap.size := (Array.getElem?_eq_some_iff.1 hit).1
    by_cases hp : b < s.size
    · by_cases hasc : (s[b]'hp).toNat < 128
      · have hnx : ∀ ty, (Instr.next (.pointer (some ⟨w.heap.size + 1, 0, none⟩)) true ty).run Tryd.prog wr = _ := fun ty => Lib.run_next_ascii_at wr (w.heap.size + 1) s b ty hit hp hasc
        have hI2 := hI.iterAt hit (b + 1)
        have hit2 := Lib.iterAt_heap wr (w.heap.size + 1) s b (b + 1) hit
        have hbw2 := Lib.below_iterAt hbw (k := w.heap.size + 1) (by omega) s (b + 1)
        have hsz2 : w.heap.size + 1 < (wr.iterAt (w.heap.size + 1) s (b + 1)).heap.size := by rw [Lib.iterAt_size]; omega
        generalize hW : wr.iterAt (w.heap.size + 1) s (b + 1) = W2 at hnx hI2 hit2 hbw2 hsz2
        clear hW hI hbw
        by_cases h38 : s[b]'hp = 38
        · have h38i : (((s[b]'hp).toNat : Int) != 38) = false := by rw [h38]; rfl
          have h38h := Lib.hid h38
          clear h38
          have hab := (HU.out.at38 hp h38h.out).1
          have hx := cut_from s b (by omega)
          have hUp := upTo_at s b (by omega)
          have hTl := told_le (rest s b)
          have hTe := told_end (rest s b)
          generalize hT : (⟨(told (rest s b)).toArray⟩ : ByteArray) = T at hUp
          have hTd : T.data.toList = told (rest s b) := by rw [← hT]
          have hTs : T.size = (told (rest s b)).length := by rw [← hTd]; simp
          have hMe := fun w hw => meaningOf_any T (by omega) (by rw [hTd]; exact hTe) w hw
          rw [hTd] at hMe
          have hTs' : (T.size : Int) = ((told (rest s b)).length : Int) := by omega
          cases hm : meaning (told (rest s b)) with
          | none =>
            have ho : oneAt (rest s b) = none := by unfold oneAt; rw [hm]; rfl
            have hM : mtext (told (rest s b)) = ⟨#[]⟩ := by unfold mtext; rw [hm]
            rw [hM] at hMe
            clear hT hTd hTs hTl hTe hTs' hm hM
            go_wp2_with (first | (go_at_call 21; refine (hUp _).mono ?_; rintro e w1 ⟨rfl, rfl⟩) | (go_at_call 22; refine (hMe _ (hw.below hbw2)).mono ?_; rintro e w1 ⟨rfl, hb1⟩))
            have hI3 := BldF.later hI2 hb1
            have hit3 : w1.heap[w.heap.size + 1]? = some (.stringIter s (b + 1)) := (hb1.block _ hsz2).trans hit2
            have hbw3 : Below w.heap.size w w1 := hbw2.trans (hb1.mono (by omega))
            go_roundw
            case rel => exact ⟨a, b + 1, rfl, acc, hI3, hit3, hbw3, HU.out.none hp h38h.out ho⟩
            case measure =>
              simp only [World.iterPos, hit3, hit]
              omega
          | some x =>
            have ho : oneAt (rest s b) = some (x, (told (rest s b)).length) := by unfold oneAt; rw [hm]; rfl
            have hM : mtext (told (rest s b)) = ⟨#[x]⟩ := by unfold mtext; rw [hm]
            have hx2 := cut_at s a b hab (by omega) a b rfl rfl
            rw [hM] at hMe
            have HO := Lib.hid ho
            have hl := HU.out.two (by omega) x
            generalize (told (rest s b)).length = n at HO hTs'
            have hn6 : n ≤ 6 := by omega
            have hTw : IntKind.i64.wrap ((b : Int) + (T.size : Int)) = ((b + n : Nat) : Int) := by rw [IntKind.wrap_i64]; omega
            clear hT hTd hTs hTl hTe hm hM ho
            go_wp2_with (first | (go_at_call 21; refine (hUp _).mono ?_; rintro e w1 ⟨rfl, rfl⟩) | (go_at_call 22; refine (hMe _ (hw.below hbw2)).mono ?_; rintro e w1 ⟨rfl, hb1⟩))
            have hI3 := BldF.later hI2 hb1
            have hit3 : w1.heap[w.heap.size + 1]? = some (.stringIter s (b + 1)) := (hb1.block _ hsz2).trans hit2
            have hbw3 : Below w.heap.size w w1 := hbw2.trans (hb1.mono (by omega))
            have hsz3 : w.heap.size < w1.heap.size := by have := (Array.getElem?_eq_some_iff.1 hit3).1; omega
            refine (writeTwo_any w.heap.size _ (s.extract a b) ⟨#[x]⟩ w1 hI3 hl hsz3).mono ?_
            rintro e w2 ⟨rfl, g1, g2, g3⟩
            have hit4 : w2.heap[w.heap.size + 1]? = some (.stringIter s (b + 1)) := g3.iter hit3 (by omega)
            have hbw4 : Below w.heap.size w w2 := hbw3.trans g2
            go_wp2
            go_roundw
            case rel => exact ⟨b + n, b + 1, by go_num, _, g1, hit4, hbw4, HU.out.some hp h38h.out HO.out⟩
            case measure =>
              simp only [World.iterPos, hit4, hit]
              omega
        · have h38i : (((s[b]'hp).toNat : Int) != 38) = true := by
            rw [bne_iff_ne]
            intro e
            exact h38 (UInt8.toNat_inj.1 (by show _ = 38; omega))
          have h38h := Lib.hid h38
          clear h38
          go_wp2
          go_roundw
          case rel => exact ⟨a, b + 1, rfl, acc, hI2, hit2, hbw2, HU.out.next hp h38h.out⟩
          case measure =>
            simp only [World.iterPos, hit2, hit]
            omega
      · have hnx : ∀ ty, (Instr.next (.pointer (some ⟨w.heap.size + 1, 0, none⟩)) true ty).run Tryd.prog wr = _ := fun ty => Lib.run_next_any_at wr (w.heap.size + 1) s b ty hit hp
        obtain ⟨hw1, hw2⟩ := width_in hp
        have hI2 := hI.iterAt hit (b + (Utf8.decode s b).2)
        have hit2 := Lib.iterAt_heap wr (w.heap.size + 1) s b (b + (Utf8.decode s b).2) hit
        have hbw2 := Lib.below_iterAt hbw (k := w.heap.size + 1) (by omega) s (b + (Utf8.decode s b).2)
        generalize hW : wr.iterAt (w.heap.size + 1) s (b + (Utf8.decode s b).2) = W2 at hnx hI2 hit2 hbw2
        clear hW hI hbw
        have hdec := decode_high s b hp (by omega)
        have hrun : ∀ j (hj : j < s.size), b ≤ j → j < b + (Utf8.decode s b).2 → s[j]'hj ≠ 38 := fun j hj g1 g2 e => by
          have := conts hp (by omega) j hj g1 g2
          rw [e] at this
          exact absurd this (by decide)
        have hnu := Lib.hid (HU.out.run (Utf8.decode s b).2 hw2 hrun)
        have h38i : (((Utf8.decode s b).1 : Int) != 38) = true := by
          rw [bne_iff_ne]
          have := hdec.1
          omega
        go_wp2
        go_roundw
        case rel => exact ⟨a, b + (Utf8.decode s b).2, rfl, acc, hI2, hit2, hbw2, hnu.out⟩
        case measure =>
          simp only [World.iterPos, hit2, hit]
          omega
    · obtain rfl : b = s.size := by omega
      have hnx : ∀ ty, (Instr.next (.pointer (some ⟨w.heap.size + 1, 0, none⟩)) true ty).run Tryd.prog wr = _ := fun ty => Lib.run_next_end_at wr (w.heap.size + 1) s s.size ty hit hp
      have hx := cut_from s a ha
      have hl := HU.out.one (by omega) a s.size
      have hsz5 : w.heap.size < wr.heap.size := by omega
      go_wp2_with (go_at_call 23; refine (writeOne_any w.heap.size _ (s.extract a s.size) wr hI hl hsz5).mono ?_)
      rintro e w1 ⟨rfl, g1, g2, g3⟩
      have hbw4 : Below w.heap.size w w1 := hbw.trans g2
      have e1 := HU.out.done
      rw [e1] at g1
      have hsz4 : w.heap.size ≤ w1.heap.size := hbw4.size
      go_wp2_with (go_at_call 24; refine (string_any w.heap.size w.heap.size _ _ g1 hsz4).mono ?_)
      rintro e w2 ⟨rfl, _, k2, _⟩
      go_wp2
      go_ret
      exact ⟨rfl, hbw4.trans k2⟩
theorem implUnescape_any (s : ByteArray) (w : World) (hw : Env w) :
    Calls Tryd.prog 10 #[.string s] w fun e w' => e = .returned (.string (unAns s)) ∧ Below w.heap.size w w' := by
  by_cases h : (s.size : Int) ≤ 65536
  · exact (implUn_small s h w hw).mono fun e w' ⟨he, hb⟩ => ⟨he.trans (ret_string (by rw [unAns, if_pos (by omega)])), hb⟩
  · have h' : (65536 : Int) < s.size := by omega
    go_enter Tryd.func10, Tryd.ntmps10
    go_wp2
    go_ret
    exact ⟨ret_string (by rw [unAns, if_neg (by omega)]), Below.refl _ _⟩
end Go.Proofs.YtlghmcnhdmidnaaDoor
