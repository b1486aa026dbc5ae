import Derived.Test.YtgkpoimapmdogaaODraw2
namespace Go.Proofs.Ytgkpoimapmdogaa
open Go.ChangeShapes Go.WideShapes Go.ChangeAt Go.RowKit Go.Deep

/-- a drawn stack: right opens, no more than five -/
def StackPost (w : World) (e : Ending) (w' : World) : Prop := ∃ v l, e = .returned v ∧ (∃ base, ORow w' base v l) ∧ l.length ≤ 5 ∧ SmallO l ∧ l.all openB = true ∧ Below w.heap.size w w'
theorem smallO_filter {l : List (ByteArray × Int)} (h : SmallO l) (k : Nat) : SmallO ((l.take k).filter openB) := fun x hx => h x (List.mem_of_mem_take (List.mem_filter.1 hx).1)
theorem filter_len (l : List (ByteArray × Int)) (k : Nat) : ((l.take k).filter openB).length ≤ l.length := Nat.le_trans (List.length_filter_le _ _) (List.length_take_le' _ _)
theorem filter_yes {l : List (ByteArray × Int)} {k : Nat} (hk : k < l.length) (h : openB l[k] = true) : (l.take (k + 1)).filter openB = (l.take k).filter openB ++ [(l[k].1, l[k].2)] := by
  rw [List.take_succ_eq_append_getElem hk, List.filter_append, List.filter_cons, if_pos h]; rfl
theorem filter_no {l : List (ByteArray × Int)} {k : Nat} (hk : k < l.length) (h : openB l[k] = false) : (l.take (k + 1)).filter openB = (l.take k).filter openB := by
  rw [List.take_succ_eq_append_getElem hk, List.filter_append, List.filter_cons, if_neg (by rw [h]; decide), List.filter_nil, List.append_nil]

set_option maxHeartbeats 2000000 in
theorem StackDrawn_any (n cap : Nat) (o : Option Addr) (w : World) (hc : CodeAt w.heap.size w o n) :
    Calls Try.prog 7 #[.slice o n cap] w (StackPost w) := by
  go_enter Try.func7, Try.ntmps7
  go_wp2_with (first
    | (go_at_call 18; refine (l00Source_any w.heap.size n cap o _ hc (Nat.le_refl _)).mono ?_; rintro e w1 ⟨rfl, hs, hb⟩; have HS1 := Lib.hid (And.intro hs hb); clear hs hb)
    | (go_at_call 19; refine (openList_any w.heap.size w.heap.size 0 _ HS1.out.1 (by omega)).mono ?_; rintro e w2 ⟨v, l, rfl, hr, hl, hsm, _, hm⟩; obtain ⟨A, c, b, rfl, hd, hin⟩ := hr.form hsm (by omega); have HB2 := Lib.hid (HS1.out.2.trans hm.below); have HI := Lib.hid hin; have HSM := Lib.hid hsm; clear hr hsm hm hin hd))
  have hsz : w.heap.size ≤ w2.heap.size := HB2.out.size
  have hmade := World.ownsRow_made (base := w2.heap.size) (e := 31) (size := 2) w2 #[] 0 (Nat.le_refl _) (by unfold maxLen; omega) rfl
  have HM := Lib.hid hmade
  clear hmade hc
  go_loopw [4, 5] (fun v i wr => ∃ k : Nat, i = .int .i64 (k : Int) ∧ k ≤ l.length ∧ Hid (ORow wr w2.heap.size v ((l.take k).filter openB) ∧ Below w2.heap.size w2 wr)) (fun v i wr => l.length - (intOf i).toNat)
  case atStart => exact ⟨0, rfl, Nat.zero_le _, Lib.hid ⟨HM.out, (Below.refl _ _).alloc (Nat.le_refl _) _⟩⟩
  case round =>
    clear HM
    obtain ⟨k, rfl, hk, HH⟩ := hrel
    by_cases hkl : k < l.length
    · obtain ⟨rfl, hlt, t1, t2, t3⟩ := (HI.out.next HH.out.2).get k hkl
      simp only [Nat.zero_add] at t1 t2
      have hfl := filter_len l k
      by_cases ho : openB l[k] = true
      · have HF := Lib.hid (filter_yes hkl ho)
        have HO := Lib.hid ho
        clear ho
        go_wp2_with (first
          | (go_at_call 20; refine (l05Open_any l[k] _ t3).mono ?_; rintro e w5 ⟨rfl, hB⟩; rw [HO.out]; have HG2 := Lib.hid (HH.out.1.below hB); have HB2' := Lib.hid hB; obtain ⟨_, _, u1, u2, _⟩ := ((HI.out.next HH.out.2).next hB).get k hkl; simp only [Nat.zero_add] at u1 u2; have hsz2 : w2.heap.size ≤ w5.heap.size := Nat.le_trans HH.out.2.size hB.size; have HB2 := Lib.hid (HH.out.2.trans (hB.mono HH.out.2.size)); clear hB)
          | (at_builtin; refine wpList_push_open rfl (.tmp 21) (.tmp 26) rfl w2.heap.size _ _ _ _ rfl HG2.out hsz2 (by omega) rfl ?_; intro v' w7 hr hB _; have HG5 := Lib.hid hr; have HB5 := Lib.hid (HB2.out.trans hB); clear hr hB))
        go_roundw
        case rel => exact ⟨k + 1, by go_num, by omega, Lib.hid ⟨by rw [HF.out]; exact HG5.out, HB5.out⟩⟩
        case measure => (simp [intOf] <;> omega)
      · have ho' : openB l[k] = false := by simpa using ho
        have HF := Lib.hid (filter_no hkl ho')
        have HO := Lib.hid ho'
        clear ho ho'
        go_wp2_with (go_at_call 20; refine (l05Open_any l[k] _ t3).mono ?_; rintro e w5 ⟨rfl, hB⟩; rw [HO.out]; have HG2 := Lib.hid (HH.out.1.below hB); have HB3 := Lib.hid (HH.out.2.trans (hB.mono HH.out.2.size)); clear hB)
        go_roundw
        case rel => exact ⟨k + 1, by go_num, by omega, Lib.hid ⟨by rw [HF.out]; exact HG2.out, HB3.out⟩⟩
        case measure => (simp [intOf] <;> omega)
    · obtain rfl : k = l.length := by omega
      have hfl := filter_len l l.length
      go_wp2
      go_ret
      exact ⟨_, _, rfl, ⟨_, HH.out.1⟩, by omega, smallO_filter HSM.out _, by simp, HB2.out.trans (HH.out.2.mono hsz)⟩
end Go.Proofs.Ytgkpoimapmdogaa
