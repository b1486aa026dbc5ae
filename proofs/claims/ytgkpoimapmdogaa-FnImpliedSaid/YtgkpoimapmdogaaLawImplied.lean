import Derived.Test.YtgkpoimapmdogaaODraw3
namespace Go.Proofs.Ytgkpoimapmdogaa
open Go.ChangeShapes Go.WideShapes Go.ChangeAt Go.RowKit Go.Deep

theorem named_of {B G : Int → Bool} (s : ByteArray) (h0 : 0 < s.size) (h12 : s.size ≤ 12) (hb : B (s[0].toNat : Int) = true) (ha : ∀ i, (h : i < s.size) → G (s[i].toNat : Int) = true) : namedB B G s = true :=
  (namedB_true ⟨h0, h12, hb, fun i h _ _ => ha i h⟩).symm
theorem tagL_named : ∀ s ∈ tagL, namedB small tagB s = true := by
  intro s hs
  simp only [tagL, List.mem_cons, List.not_mem_nil, or_false] at hs
  rcases hs with rfl | rfl | rfl | rfl | rfl | rfl | rfl | rfl | rfl | rfl | rfl | rfl | rfl | rfl | rfl | rfl | rfl | rfl | rfl | rfl | rfl | rfl
  all_goals exact named_of _ (by decide) (by decide) (by decide) (by decide)

theorem CodeAt.keep {B : Nat} {w w' : World} {o : Option Addr} {n : Nat} (h : CodeAt B w o n) (hB : Below B w w') : CodeAt B w' o n :=
  ⟨h.1, fun j hj => by
    obtain ⟨a, z, h1, h2, h3, h4⟩ := h.2 j hj
    exact ⟨a, z, h1, h2, (hB.cell (by rw [add_block]; exact h2)).trans h3, h4⟩⟩
theorem cut_hit {l : List (ByteArray × Int)} {n : ByteArray} (h : 0 < cutOf (nameIs n) l) : ∃ hk : cutOf (nameIs n) l - 1 < l.length, (l[cutOf (nameIs n) l - 1].1.toList == n.toList) = true := cutTo_hit _ _ _ h

set_option maxHeartbeats 4000000 in
set_option maxRecDepth 100000 in
theorem lawImplied_core (w : World) (n0 c0 n1 c1 : Nat) (o0 o1 : Option Addr) (hc0 : CodeAt w.heap.size w o0 n0) (hc1 : CodeAt w.heap.size w o1 n1) :
    Calls Try.prog 3 #[.slice o0 n0 c0, .slice o1 n1 c1] w fun e w' => e = .returned (.bool true) ∧ Below w.heap.size w w' := by
  have hn0 := hc0.1
  have hn1 := hc1.1
  have HC0 := Lib.hid hc0
  have HC1 := Lib.hid hc1
  clear hc0 hc1
  go_enter Try.func3, Try.ntmps3
  go_wp2_with (first
    | (go_at_call 7; refine (StackDrawn_any n0 c0 o0 _ HC0.out).mono ?_; rintro e wr ⟨v, l, rfl, ⟨base, hr⟩, hlen, hsm, hall, hB⟩; obtain ⟨A, c, b, rfl, hd, hin⟩ := hr.form hsm (by omega); have HD := Lib.hid hd; have HI := Lib.hid hin; have HALL := Lib.hid hall; have HB := Lib.hid hB; clear hr hsm hd hin hall hB)
    | (go_at_call 8; refine (TagDrawn_any w.heap.size n1 c1 o1 _ (HC1.out.keep HB.out) HB.out.size).mono ?_; rintro e v0 ⟨n, hn, rfl, hB⟩; have HNM := Lib.hid (tagL_named n hn); have hnn := tagL_small n hn; have HI0 := Lib.hid (HI.out.next hB); have HB0 := Lib.hid (HB.out.trans (hB.mono HB.out.size)); clear hn hB HI HB HC1 HC0))
  have hask : askOf l n = 0 := by rw [askOf, if_neg (by omega), HALL.out, HNM.out]; simp
  have hle := leftOf_le l n
  obtain ⟨K, hK⟩ : ∃ K, leftOf l n = K := ⟨_, rfl⟩
  obtain ⟨Z, hZ⟩ : ∃ Z, spcK l n = Z := ⟨_, rfl⟩
  have HV1 : Hid (implV l n = .tuple #[.int .i64 ((l.length : Int) - (K : Nat)), .int .i64 0]) := Lib.hid (by unfold implV; rw [if_pos hask]; simp only [placeK, hK])
  have HV2 : Hid (placeV l n = .tuple #[.int .i64 ((K : Nat) : Int), .int .i64 Z, .int .i64 0]) := Lib.hid (by unfold placeV; rw [if_pos hask]; simp only [placeK, hK, hZ])
  rw [hK] at hle
  have HN : Hid (n.size ≤ maxLen) := Lib.hid (by unfold maxLen; omega)
  have e1 : (((K : Nat) : Int) == (l.length : Int) - ((l.length : Int) - (K : Nat))) = true := by simp; omega
  clear hK hZ
  by_cases hc : 0 < cutOf (nameIs n) l
  · obtain ⟨hj, heq⟩ := cut_hit hc
    have HV3 : Hid (closeV l n = .tuple #[.int .i64 ((cutOf (nameIs n) l - 1 : Nat) : Int), .int .i64 0]) := Lib.hid (by unfold closeV; rw [if_pos hask, if_neg (by omega), show ((cutOf (nameIs n) l : Nat) : Int) - 1 = ((cutOf (nameIs n) l - 1 : Nat) : Int) by omega])
    clear hc hask
    generalize cutOf (nameIs n) l - 1 = j at hj heq HV3
    refine (implImplied_any l n _ A c b 0 HN.out HD.out HI0.out).mono ?_
    rintro e v1 ⟨rfl, hB⟩
    rw [HV1.out]
    have HI1 := Lib.hid (HI0.out.next hB)
    have HB1 := Lib.hid (HB0.out.trans (hB.mono HB0.out.size))
    clear hB HI0 HB0
    go_wp2_with fail
    refine (specImplied_any l n _ A c b 0 HN.out HD.out HI1.out).mono ?_
    rintro e v2 ⟨rfl, hB⟩
    rw [HV1.out]
    have HI2 := Lib.hid (HI1.out.next hB)
    have HB2 := Lib.hid (HB1.out.trans (hB.mono HB1.out.size))
    clear hB HI1 HB1
    go_wp2_with fail
    refine (implPlaceOf_any l n _ A c b 0 HN.out HD.out HI2.out).mono ?_
    rintro e v3 ⟨rfl, hB⟩
    rw [HV2.out]
    have HI3 := Lib.hid (HI2.out.next hB)
    have HB3 := Lib.hid (HB2.out.trans (hB.mono HB2.out.size))
    clear hB HI2 HB2
    go_wp2_with fail
    refine (specPlaceOf_any l n _ A c b 0 HN.out HD.out HI3.out).mono ?_
    rintro e v4 ⟨rfl, hB⟩
    rw [HV2.out]
    have HI4 := Lib.hid (HI3.out.next hB)
    have HB4 := Lib.hid (HB3.out.trans (hB.mono HB3.out.size))
    clear hB HI3 HB3
    go_wp2_with fail
    refine (implCloseAt_any l n _ A c b 0 HN.out HD.out HI4.out).mono ?_
    rintro e v5 ⟨rfl, hB⟩
    rw [HV3.out]
    have HI5 := Lib.hid (HI4.out.next hB)
    have HB5 := Lib.hid (HB4.out.trans (hB.mono HB4.out.size))
    clear hB HI4 HB4
    go_wp2_with fail
    refine (specCloseAt_any l n _ A c b 0 HN.out HD.out HI5.out).mono ?_
    rintro e v6 ⟨rfl, hB⟩
    rw [HV3.out]
    have HI6 := Lib.hid (HI5.out.next hB)
    have HB6 := Lib.hid (HB5.out.trans (hB.mono HB5.out.size))
    clear hB HI5 HB5
    obtain ⟨rfl, hlt, t1, t2, t3⟩ := HI6.out.get j hj
    simp only [Nat.zero_add] at t1 t2
    go_wp2
    go_ret
    exact ⟨rfl, HB6.out⟩
  · have HV3 : Hid (closeV l n = .tuple #[.int .i64 0, .int .i64 5]) := Lib.hid (by unfold closeV; rw [if_pos hask, if_pos (by omega)])
    clear hc hask
    refine (implImplied_any l n _ A c b 0 HN.out HD.out HI0.out).mono ?_
    rintro e v1 ⟨rfl, hB⟩
    rw [HV1.out]
    have HI1 := Lib.hid (HI0.out.next hB)
    have HB1 := Lib.hid (HB0.out.trans (hB.mono HB0.out.size))
    clear hB HI0 HB0
    go_wp2_with fail
    refine (specImplied_any l n _ A c b 0 HN.out HD.out HI1.out).mono ?_
    rintro e v2 ⟨rfl, hB⟩
    rw [HV1.out]
    have HI2 := Lib.hid (HI1.out.next hB)
    have HB2 := Lib.hid (HB1.out.trans (hB.mono HB1.out.size))
    clear hB HI1 HB1
    go_wp2_with fail
    refine (implPlaceOf_any l n _ A c b 0 HN.out HD.out HI2.out).mono ?_
    rintro e v3 ⟨rfl, hB⟩
    rw [HV2.out]
    have HI3 := Lib.hid (HI2.out.next hB)
    have HB3 := Lib.hid (HB2.out.trans (hB.mono HB2.out.size))
    clear hB HI2 HB2
    go_wp2_with fail
    refine (specPlaceOf_any l n _ A c b 0 HN.out HD.out HI3.out).mono ?_
    rintro e v4 ⟨rfl, hB⟩
    rw [HV2.out]
    have HI4 := Lib.hid (HI3.out.next hB)
    have HB4 := Lib.hid (HB3.out.trans (hB.mono HB3.out.size))
    clear hB HI3 HB3
    go_wp2_with fail
    refine (implCloseAt_any l n _ A c b 0 HN.out HD.out HI4.out).mono ?_
    rintro e v5 ⟨rfl, hB⟩
    rw [HV3.out]
    have HI5 := Lib.hid (HI4.out.next hB)
    have HB5 := Lib.hid (HB4.out.trans (hB.mono HB4.out.size))
    clear hB HI4 HB4
    go_wp2_with fail
    refine (specCloseAt_any l n _ A c b 0 HN.out HD.out HI5.out).mono ?_
    rintro e v6 ⟨rfl, hB⟩
    rw [HV3.out]
    have HI6 := Lib.hid (HI5.out.next hB)
    have HB6 := Lib.hid (HB5.out.trans (hB.mono HB5.out.size))
    clear hB HI5 HB5
    go_wp2
    go_ret
    exact ⟨rfl, HB6.out⟩
end Go.Proofs.Ytgkpoimapmdogaa
