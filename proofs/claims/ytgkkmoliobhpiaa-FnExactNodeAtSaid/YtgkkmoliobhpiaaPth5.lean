import Derived.Test.YtgkkmoliobhpiaaPth4
namespace Go.Proofs.Ytgkkmoliobhpiaa
open Go.ChangeShapes Go.WideShapes Go.ChangeAt Go.RowKit Go.Deep

theorem fault_split {F : Fo} (h : F.len ≤ 4096) : faultOf F = 0 ↔ goodB F = true := by
  cases hg : goodB F with
  | true => simp [fault_ok h hg]
  | false => simp [fault_bad h hg]
set_option maxHeartbeats 1000000 in
theorem specNodeAt_any (F : Fo) (l : List Int) (w : World) (A A' : Option Addr) (c c' b o b' o' lo hi : Nat) (hs : F.len + F.size ≤ 1048576) (hll : l.length ≤ 1048576) (hA : RowC lo hi A F.len c b o) (hF : FoAt w lo hi b o F) (hh : hi ≤ w.heap.size) (hi' : IntsIn w A' b' o' l) :
    Calls Try.prog 12 #[.slice A F.len c, .slice A' l.length c'] w (AtOut F l w) := by
  have HA := Lib.hid hA
  have HF := Lib.hid hF
  have H' := Lib.hid hi'
  have hd := Nat.le_trans (Fo.nodes_le F) hs
  have hsm := Fo.small_of F (by omega)
  clear hA hF hi'
  have LZ : Hid (Lay (w.alloc (.cells #[.int .i64 0, .int .i64 0, .string ⟨#[]⟩, .string ⟨#[]⟩, .slice none 0 0, .slice none 0 0] 37)) w.heap.size #[.int .i64 0, .int .i64 0, .string ⟨#[]⟩, .string ⟨#[]⟩, .slice none 0 0, .slice none 0 0]) := Lib.hid (Lay.new _ _ _)
  have BZ : Hid (Below w.heap.size w (w.alloc (.cells #[.int .i64 0, .int .i64 0, .string ⟨#[]⟩, .string ⟨#[]⟩, .slice none 0 0, .slice none 0 0] 37))) := Lib.hid ((Below.refl _ _).alloc (Nat.le_refl _) _)
  by_cases hl : F.len ≤ 4096
  · have HL := Lib.hid hl
    have hfl : decide ((F.len : Int) > 4096) = false := decide_eq_false (by omega)
    clear hl
    by_cases hp : l.length ≤ 4096
    · have HP := Lib.hid hp
      have hpl : decide ((l.length : Int) > 4096) = false := decide_eq_false (by omega)
      clear hp
      cases hg : goodB F with
      | true =>
        have HG := Lib.hid hg
        have HK := Lib.hid ((fault_split HL.out).2 hg)
        clear hg
        go_enter Try.func12, Try.ntmps12
        go_wp2_with fail
        refine (l03Tree_any F _ A c b o lo hi hd (Nat.le_trans hh BZ.out.size) HA.out.2 (FoAt.below HA.out.2 HF.out BZ.out hh)).mono ?_
        rintro e w1 ⟨rfl, hB⟩
        rw [HG.out]
        have B1 := Lib.hid (BZ.out.trans (hB.mono BZ.out.size))
        have L1 := Lib.hid (LZ.out.below hB (by simp))
        have hs1 : w.heap.size < w1.heap.size := Nat.lt_of_lt_of_le (by simp) hB.size
        clear hB LZ BZ
        go_wp2_with fail
        refine (l03At_any F l _ A A' c c' b o b' o' lo hi hsm (by omega) hll HA.out (FoAt.below HA.out.2 HF.out B1.out hh) (Nat.le_trans hh B1.out.size) (H'.out.next B1.out)).mono ?_
        rintro e w2 ⟨hB, hcase⟩
        have B2 := Lib.hid (B1.out.trans (hB.mono B1.out.size))
        have L2 := Lib.hid (L1.out.below hB hs1)
        have hs2 : w.heap.size < w2.heap.size := Nat.lt_of_lt_of_le hs1 hB.size
        have hB12 := Lib.hid hB
        clear hB L1
        rcases hcase with ⟨hpn, xk, xs, xn, xt, A4, la, c4, K5, lk, c5, rfl⟩ | ⟨xk, xs, xn, xt, xa, kids, A4, K5, c4, c5, hp1, hps, hz, rfl, ⟨b4, o4, r4, a4⟩, ⟨b5, o5, r5, a5⟩⟩
        · have HO := Lib.hid (atOf_none HP.out HK.out hpn)
          have L3 := Lib.hid (L2.out.alloc hs2 (.cells #[.int .i64 xk, .int .i64 xs, .string xn, .string xt, .slice A4 la c4, .slice K5 lk c5] 37))
          obtain ⟨m0, m1, m2, m3, m4, m5⟩ := lay6 L3.out
          have k0 := L3.out.2 0
          have k1 := L3.out.2 1
          have k2 := L3.out.2 2
          have k3 := L3.out.2 3
          have k4 := L3.out.2 4
          have k5 := L3.out.2 5
          clear hs1 hs2
          go_wp2
          (try simp only [Exit.inBlock, Exit.then])
          have M2 : Lay (w2.alloc (.cells #[.int .i64 xk, .int .i64 xs, .string xn, .string xt, .slice A4 la c4, .slice K5 lk c5] 37)) w.heap.size _ := L3.out
          refine ret_node2 rfl M2.put6 rfl rfl rfl ?_
          exact at_zero HO.out (below_put6 _ _ _ _ _ _ (B2.out.alloc B2.out.size _) (Nat.le_refl _))
        · have HO := Lib.hid (atOf_one HP.out HK.out hp1)
          have H4 := Lib.hid (And.intro r4 a4)
          have H5 := Lib.hid (And.intro r5 a5)
          have HS := Lib.hid hps
          have HZ := Lib.hid hz
          have hh1 : hi ≤ w1.heap.size := Nat.le_trans hh B1.out.size
          clear r4 a4 r5 a5 hps hz
          have hsz2 := hB12.out.size
          have BA : Hid (Below w1.heap.size w1 ((w2.alloc (.cells #[.int .i64 xk, .int .i64 xs, .string xn, .string xt, .slice A4 xa.length c4, .slice K5 kids.len c5] 37)).alloc (.cells #[.int .i64 xk, .int .i64 xs, .string xn, .string xt, .slice A4 xa.length c4, .slice K5 kids.len c5] 37))) := Lib.hid ((hB12.out.alloc hsz2 _).alloc (by simp; omega) _)
          have LA := Lay.new (w2.alloc (.cells #[.int .i64 xk, .int .i64 xs, .string xn, .string xt, .slice A4 xa.length c4, .slice K5 kids.len c5] 37)) #[.int .i64 xk, .int .i64 xs, .string xn, .string xt, .slice A4 xa.length c4, .slice K5 kids.len c5] 37
          rw [World.size_alloc] at LA
          obtain ⟨q0, q1, q2, q3, q4, q5⟩ := lay6 LA
          have hWs : ((w2.alloc (.cells #[.int .i64 xk, .int .i64 xs, .string xn, .string xt, .slice A4 xa.length c4, .slice K5 kids.len c5] 37)).alloc (.cells #[.int .i64 xk, .int .i64 xs, .string xn, .string xt, .slice A4 xa.length c4, .slice K5 kids.len c5] 37)).heap.size = w2.heap.size + 1 + 1 := by simp
          have hfo : Hid (RowAt 0 ((w2.alloc (.cells #[.int .i64 xk, .int .i64 xs, .string xn, .string xt, .slice A4 xa.length c4, .slice K5 kids.len c5] 37)).alloc (.cells #[.int .i64 xk, .int .i64 xs, .string xn, .string xt, .slice A4 xa.length c4, .slice K5 kids.len c5] 37)).heap.size (some ⟨w2.heap.size + 1, 0, none⟩) (Fo.one xk xs xn xt xa kids).len (w2.heap.size + 1) 0 ∧ FoAt ((w2.alloc (.cells #[.int .i64 xk, .int .i64 xs, .string xn, .string xt, .slice A4 xa.length c4, .slice K5 kids.len c5] 37)).alloc (.cells #[.int .i64 xk, .int .i64 xs, .string xn, .string xt, .slice A4 xa.length c4, .slice K5 kids.len c5] 37)) 0 ((w2.alloc (.cells #[.int .i64 xk, .int .i64 xs, .string xn, .string xt, .slice A4 xa.length c4, .slice K5 kids.len c5] 37)).alloc (.cells #[.int .i64 xk, .int .i64 xs, .string xn, .string xt, .slice A4 xa.length c4, .slice K5 kids.len c5] 37)).heap.size (w2.heap.size + 1) 0 (.one xk xs xn xt xa kids)) := Lib.hid ⟨⟨by show 1 ≤ maxLen; decide, fun _ => ⟨rfl, Nat.zero_le _, by omega⟩⟩, ⟨q0, q1, q2, q3, HZ.out.1, HZ.out.2⟩, ⟨A4, c4, b4, o4, q4, ⟨H4.out.1.1, H4.out.1.2.mono (Nat.zero_le _) (by omega)⟩, al_below H4.out.1.2 H4.out.2 BA.out hh1⟩, ⟨K5, c5, b5, o5, q5, ⟨H5.out.1.1, H5.out.1.2.mono (Nat.zero_le _) (by omega)⟩, (FoAt.below H5.out.1.2 H5.out.2 BA.out hh1).mono (Nat.zero_le _) (by omega)⟩, trivial⟩
          have L3 := Lib.hid ((L2.out.alloc hs2 (.cells #[.int .i64 xk, .int .i64 xs, .string xn, .string xt, .slice A4 xa.length c4, .slice K5 kids.len c5] 37)).alloc (by simp; omega) (.cells #[.int .i64 xk, .int .i64 xs, .string xn, .string xt, .slice A4 xa.length c4, .slice K5 kids.len c5] 37))
          clear q0 q1 q2 q3 q4 q5 LA
          go_wp2_with fail
          refine (l03Copy_any (.one xk xs xn xt xa kids) _ (some ⟨w2.heap.size + 1, 0, none⟩) 1 (w2.heap.size + 1) 0 0 _ HS.out (show 1 ≤ 1048576 by decide) hfo.out.1 (Nat.le_refl _) hfo.out.2).mono ?_
          rintro e w4 ⟨v4, bl4, rfl, hB4, hG4⟩
          obtain ⟨A9, c9, bs, hv9, _, hKR, hnd, hbd⟩ := hG4.form
          have hv9' : v4 = .slice A9 1 c9 := hv9
          clear hv9 hG4
          subst hv9'
          rcases hKR with ⟨h0, _⟩ | ⟨c0, bb, rfl, rfl, A', K', ca, ck, ba, bk, br, hbl, ⟨g0, g1, g2, g3, _, _⟩, ⟨g4, hc4⟩, ⟨g5, hc5⟩, hr⟩
          · exact absurd h0 (by show ¬ (1 = 0); decide)
          have hr' : br = [] := hr
          subst hr'
          rw [List.append_nil] at hbl
          subst hbl
          have M4 := L3.out.below hB4 (by omega)
          have hs4 := hB4.size
          have hbd4 : ∀ q ∈ ba ++ bk, w2.heap.size < q ∧ q < w4.heap.size := fun q hq => by have := hbd q (by simp at hq ⊢; rcases hq with h | h <;> simp [h]); omega
          have B4 := Lib.hid (B2.out.trans (Below.trans (((Below.refl w2.heap.size w2).alloc (Nat.le_refl _) _).alloc (by simp) _ |>.mono (Nat.le_refl _)) (hB4.mono (by omega)) |>.mono (Nat.le_of_lt hs2)))
          have e0 := g0.1
          have e1 := g1.1
          have e2 := g2.1
          have e3 := g3.1
          have e4 := g4.1
          have e5 := g5.1
          rw [Nat.zero_add] at e1 e2 e3 e4 e5
          have n0 := M4.1
          have n1 := M4.2
          have HCK := Lib.hid (And.intro hc4 (And.intro hc5 (And.intro (List.nodup_cons.1 hnd).2 hbd4)))
          clear hB4 hnd hbd hbd4 g0 g1 g2 g3 g4 g5 hc4 hc5 hr M4
          go_wp2
          (try simp only [Exit.inBlock, Exit.then])
          have M2 : Lay w4 w.heap.size _ := ⟨n0, n1⟩
          obtain ⟨hC, hK, hn4, hb4⟩ := HCK.out
          have hsame : ∀ q ∈ ba ++ bk, ((((((w4.setCell ⟨w.heap.size, 0, none⟩ (.int .i64 xk)).setCell ⟨w.heap.size, 1, none⟩ (.int .i64 xs)).setCell ⟨w.heap.size, 2, none⟩ (.string xn)).setCell ⟨w.heap.size, 3, none⟩ (.string xt)).setCell ⟨w.heap.size, 4, none⟩ (.slice A' xa.length ca)).setCell ⟨w.heap.size, 5, none⟩ (.slice K' kids.len ck)).heap[q]? = w4.heap[q]? := fun q hq => by
            have := (hb4 q hq).1
            have hne : q ≠ w.heap.size := by omega
            rw [Below.heap_setCell _ _ _ _ hne, Below.heap_setCell _ _ _ _ hne, Below.heap_setCell _ _ _ _ hne, Below.heap_setCell _ _ _ _ hne, Below.heap_setCell _ _ _ _ hne, Below.heap_setCell _ _ _ _ hne]
          refine ret_node2 rfl M2.put6 rfl rfl rfl (at_one HO.out (below_put6 _ _ _ _ _ _ B4.out (Nat.le_refl _)) ⟨hC.1, hC.2.1, hC.2.2.same fun q hq => hsame q (by simp [hq])⟩ ⟨hK.1, hK.2.1, KRow.same hK.2.2 fun q hq => hsame q (by simp [hq])⟩ hn4 fun q hq => ?_)
          have := hb4 q hq
          simp only [World.size_setCell]
          omega
      | false =>
        have HG := Lib.hid hg
        have HO := Lib.hid (atOf_fault (F := F) HP.out (by rw [fault_bad HL.out hg]; decide))
        have HF1 := Lib.hid (fault_bad HL.out hg)
        clear hg
        go_enter Try.func12, Try.ntmps12
        go_wp2_with fail
        refine (l03Tree_any F _ A c b o lo hi hd (Nat.le_trans hh BZ.out.size) HA.out.2 (FoAt.below HA.out.2 HF.out BZ.out hh)).mono ?_
        rintro e w1 ⟨rfl, hB⟩
        rw [HG.out]
        have B1 := Lib.hid (BZ.out.trans (hB.mono BZ.out.size))
        have L1 := LZ.out.below hB (by simp)
        have n0 := L1.1
        have n1 := L1.2
        clear hB LZ BZ L1
        go_wp2
        (try simp only [Exit.inBlock, Exit.then])
        have M2 : Lay w1 w.heap.size _ := ⟨n0, n1⟩
        exact ret_node2 rfl M2.put6 rfl rfl rfl (at_zero (by rw [HO.out, HF1.out]) (below_put6 _ _ _ _ _ _ B1.out (Nat.le_refl _)))
    · have HO := Lib.hid (atOf_long (F := F) hp)
      have hpl : decide ((l.length : Int) > 4096) = true := decide_eq_true (by omega)
      clear hp
      go_enter Try.func12, Try.ntmps12
      go_wp2
      (try simp only [Exit.inBlock, Exit.then])
      exact ret_node2 rfl LZ.out rfl rfl rfl (at_zero HO.out BZ.out)
  · have hfl : decide ((F.len : Int) > 4096) = true := decide_eq_true (by omega)
    have HO : Hid (atOf F l = (2, .nil)) := Lib.hid (by
      by_cases hp : l.length ≤ 4096
      · rw [atOf_fault hp (by rw [fault_long hl]; decide), fault_long hl]
      · exact atOf_long hp)
    clear hl
    go_enter Try.func12, Try.ntmps12
    go_wp2
    (try simp only [Exit.inBlock, Exit.then])
    exact ret_node2 rfl LZ.out rfl rfl rfl (at_zero HO.out BZ.out)
end Go.Proofs.Ytgkkmoliobhpiaa
