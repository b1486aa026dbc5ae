import Derived.Test.YtgkkmoliobhpiaaPth3
namespace Go.Proofs.Ytgkkmoliobhpiaa
open Go.ChangeShapes Go.WideShapes Go.ChangeAt Go.RowKit Go.Deep

def Fo.isNil : Fo → Bool
  | .nil => true
  | .cons _ _ _ _ _ _ _ => false
/-- the code, and the node -/
noncomputable def atOf (F : Fo) (l : List Int) : Int × Fo :=
  if l.length ≤ 4096 then (if faultOf F = 0 then (if (F.path l .nil).isNil = true then (16, .nil) else (0, F.path l .nil)) else (faultOf F, .nil)) else (2, .nil)
theorem atOf_long {F : Fo} {l : List Int} (h : ¬ l.length ≤ 4096) : atOf F l = (2, .nil) := if_neg h
theorem atOf_fault {F : Fo} {l : List Int} (h : l.length ≤ 4096) (hf : ¬ faultOf F = 0) : atOf F l = (faultOf F, .nil) := by rw [atOf, if_pos h, if_neg hf]
theorem atOf_none {F : Fo} {l : List Int} (h : l.length ≤ 4096) (hf : faultOf F = 0) (hp : F.path l .nil = .nil) : atOf F l = (16, .nil) := by rw [atOf, if_pos h, if_pos hf, hp]; rfl
theorem atOf_one {F : Fo} {l : List Int} {k sp : Int} {n t : ByteArray} {al : List (ByteArray × ByteArray)} {kids : Fo} (h : l.length ≤ 4096) (hf : faultOf F = 0) (hp : F.path l .nil = .one k sp n t al kids) : atOf F l = (0, .one k sp n t al kids) := by rw [atOf, if_pos h, if_pos hf, hp]; rfl
/-- a node's value: its rows' places said -/
def nodeV (f : Fo) (A : Option Addr) (ca : Nat) (K : Option Addr) (ck : Nat) : Value := .agg #[.int .i64 f.hk, .int .i64 f.hsp, .string f.hn, .string f.ht, .slice A f.hal.length ca, .slice K f.hkids.len ck]
/-- its rows -/
def NodeRows (w : World) (f : Fo) (A : Option Addr) (ca : Nat) (K : Option Addr) (ck : Nat) (ba bk : List Nat) (lo : Nat) : Prop :=
  (f.hal.length ≤ ca ∧ f.hal.length ≤ maxLen ∧ AlRow w A f.hal ba) ∧ (f.hkids.len ≤ ck ∧ f.hkids.len ≤ maxLen ∧ KRow w K f.hkids bk) ∧ (ba ++ bk).Nodup ∧ ∀ q ∈ ba ++ bk, lo ≤ q ∧ q < w.heap.size
/-- what the call hands back -/
def AtOut (F : Fo) (l : List Int) (w : World) (e : Ending) (w' : World) : Prop :=
  ∃ (A K : Option Addr) (ca ck : Nat) (ba bk : List Nat), e = .returned (.tuple #[nodeV (atOf F l).2 A ca K ck, .int .i64 (atOf F l).1]) ∧ Below w.heap.size w w' ∧ NodeRows w' (atOf F l).2 A ca K ck ba bk w.heap.size
theorem nodeRows_nil (w : World) (lo : Nat) : NodeRows w .nil none 0 none 0 [] [] lo :=
  ⟨⟨Nat.le_refl _, Nat.zero_le _, Or.inl ⟨rfl, rfl⟩⟩, ⟨Nat.le_refl _, Nat.zero_le _, Or.inl ⟨rfl, rfl⟩⟩, List.nodup_nil, by simp⟩
theorem at_zero {F : Fo} {l : List Int} {c : Int} (h : atOf F l = (c, .nil)) {w w' : World} (hB : Below w.heap.size w w') :
    AtOut F l w (.returned (.tuple #[.agg #[.int .i64 0, .int .i64 0, .string ⟨#[]⟩, .string ⟨#[]⟩, .slice none 0 0, .slice none 0 0], .int .i64 c])) w' := by
  refine ⟨none, none, 0, 0, [], [], ?_, hB, ?_⟩
  · rw [h]; rfl
  · rw [h]; exact nodeRows_nil _ _
theorem at_one {F : Fo} {l : List Int} {k sp : Int} {n t : ByteArray} {al : List (ByteArray × ByteArray)} {kids : Fo} (h : atOf F l = (0, .one k sp n t al kids)) {w w' : World} (hB : Below w.heap.size w w') {A K : Option Addr} {ca ck : Nat} {ba bk : List Nat}
    (hC : al.length ≤ ca ∧ al.length ≤ maxLen ∧ AlRow w' A al ba) (hK : kids.len ≤ ck ∧ kids.len ≤ maxLen ∧ KRow w' K kids bk) (hn : (ba ++ bk).Nodup) (hb : ∀ q ∈ ba ++ bk, w.heap.size ≤ q ∧ q < w'.heap.size) :
    AtOut F l w (.returned (.tuple #[.agg #[.int .i64 k, .int .i64 sp, .string n, .string t, .slice A al.length ca, .slice K kids.len ck], .int .i64 0])) w' := by
  refine ⟨A, K, ca, ck, ba, bk, ?_, hB, ?_⟩
  · rw [h]; rfl
  · rw [h]; exact ⟨hC, hK, hn, hb⟩

set_option maxHeartbeats 1000000 in
theorem implNodeAt_any (F : Fo) (l : List Int) (w : World) (A A' : Option Addr) (c c' b o b' o' lo hi : Nat) (hs : F.len + F.size ≤ 1048576) (hll : l.length ≤ 1048576) (hA : RowAt lo hi A F.len b o) (hF : FoAt w lo hi b o F) (hh : hi ≤ w.heap.size) (hi' : IntsIn w A' b' o' l) :
    Calls Try.prog 15 #[.slice A F.len c, .slice A' l.length c'] w (AtOut F l w) := by
  have HA := Lib.hid hA
  have HF := Lib.hid hF
  have H' := Lib.hid hi'
  have hd := Nat.le_trans (Fo.nodes_le F) hs
  have hsm := Fo.small_of F (by omega)
  clear hA hF hi'
  have LZ : Hid (Lay (w.alloc (.cells #[.int .i64 0, .int .i64 0, .string ⟨#[]⟩, .string ⟨#[]⟩, .slice none 0 0, .slice none 0 0] 37)) w.heap.size #[.int .i64 0, .int .i64 0, .string ⟨#[]⟩, .string ⟨#[]⟩, .slice none 0 0, .slice none 0 0]) := Lib.hid (Lay.new _ _ _)
  have BZ : Hid (Below w.heap.size w (w.alloc (.cells #[.int .i64 0, .int .i64 0, .string ⟨#[]⟩, .string ⟨#[]⟩, .slice none 0 0, .slice none 0 0] 37))) := Lib.hid ((Below.refl _ _).alloc (Nat.le_refl _) _)
  by_cases hp : l.length ≤ 4096
  · have HP := Lib.hid hp
    have hpl : ¬ ((l.length : Int) > 4096) := by omega
    clear hp
    by_cases hk : faultOf F = 0
    · have HK := Lib.hid hk
      clear hk
      go_enter Try.func15, Try.ntmps15
      go_wp2_with fail
      refine (treeFault_any F _ A c b o lo hi hd (Nat.le_trans hh BZ.out.size) HA.out (FoAt.below HA.out HF.out BZ.out hh)).mono ?_
      rintro e w1 ⟨rfl, hB⟩
      rw [HK.out]
      have B1 := Lib.hid (BZ.out.trans (hB.mono BZ.out.size))
      have L1 := Lib.hid (LZ.out.below hB (by simp))
      have hs1 : w.heap.size < w1.heap.size := Nat.lt_of_lt_of_le (by simp) hB.size
      clear hB LZ BZ
      go_wp2_with fail
      refine (nodeAt_any F l _ A A' c c' b o b' o' lo hi hsm (by omega) hll HA.out (FoAt.below HA.out HF.out B1.out hh) (Nat.le_trans hh B1.out.size) (H'.out.next B1.out)).mono ?_
      rintro e w2 ⟨hB, hcase⟩
      have B2 := Lib.hid (B1.out.trans (hB.mono B1.out.size))
      have L2 := L1.out.below hB hs1
      have hs2 : w.heap.size < w2.heap.size := Nat.lt_of_lt_of_le hs1 hB.size
      have hB12 := Lib.hid hB
      have n0 := L2.1
      have n1 := L2.2
      clear hB L1 L2
      rcases hcase with ⟨hpn, rfl⟩ | ⟨xk, xs, xn, xt, xa, kids, b2, o2, hp1, hps, rfl, hb2, hx⟩
      · have HO := Lib.hid (atOf_none HP.out HK.out hpn)
        go_wp2
        (try simp only [Exit.inBlock, Exit.then])
        have M2 : Lay w2 w.heap.size _ := ⟨n0, n1⟩
        exact ret_node2 rfl M2.put6 rfl rfl rfl (at_zero HO.out (below_put6 _ _ _ _ _ _ B2.out (Nat.le_refl _)))
      · have HO := Lib.hid (atOf_one HP.out HK.out hp1)
        obtain ⟨⟨s0, s1, s2, s3, _, _⟩, ⟨A4, c4, b4, o4, s4, r4, a4⟩, ⟨A5, c5, b5, o5, s5, r5, a5⟩, _⟩ := hx
        have hbt : b2 < w1.heap.size := Nat.lt_of_lt_of_le hb2.2 (Nat.le_trans hh B1.out.size)
        have t0 := (hB12.out.cell (p := ⟨b2, _, none⟩) hbt).trans s0
        have t1 := (hB12.out.cell (p := ⟨b2, _, none⟩) hbt).trans s1
        have t2 := (hB12.out.cell (p := ⟨b2, _, none⟩) hbt).trans s2
        have t3 := (hB12.out.cell (p := ⟨b2, _, none⟩) hbt).trans s3
        have t4 := (hB12.out.cell (p := ⟨b2, _, none⟩) hbt).trans s4
        have t5 := (hB12.out.cell (p := ⟨b2, _, none⟩) hbt).trans s5
        have H4 := Lib.hid (And.intro r4.2 a4)
        have H5 := Lib.hid (And.intro r5.2 a5)
        have HS := Lib.hid hps
        have hh1 : hi ≤ w1.heap.size := Nat.le_trans hh B1.out.size
        clear s0 s1 s2 s3 s4 s5 r4 a4 r5 a5 hps
        go_wp2_with fail
        refine (copyNode_any xk xs xn xt xa kids (copyTree_any kids) _ A4 A5 c4 c5 b4 o4 b5 o5 lo hi HS.out.2.2.1 HS.out.2.1 HS.out.1 H4.out.1 (al_below H4.out.1 H4.out.2 hB12.out hh1) H5.out.1 (FoAt.below H5.out.1 H5.out.2 hB12.out hh1) (Nat.le_trans hh1 hB12.out.size)).mono ?_
        rintro e w4 ⟨B', K', ca, ck, ba, bk, rfl, hB4, hC, hK, hn4, hb4⟩
        have M2 : Lay w2 w.heap.size #[.int .i64 0, .int .i64 0, .string ⟨#[]⟩, .string ⟨#[]⟩, .slice none 0 0, .slice none 0 0] := ⟨n0, n1⟩
        have M4 := M2.below hB4 hs2
        have B4 := Lib.hid (B2.out.trans (hB4.mono B2.out.size))
        clear n0 n1 M2 t0 t1 t2 t3 t4 t5
        have n0 := M4.1
        have n1 := M4.2
        have HCK := Lib.hid (And.intro hC (And.intro hK (And.intro hn4 hb4)))
        have hs4 := hB4.size
        clear hB4 hC hK hn4 hb4 M4
        go_wp2
        (try simp only [Exit.inBlock, Exit.then])
        have M2 : Lay w4 w.heap.size _ := ⟨n0, n1⟩
        obtain ⟨hC, hK, hn4, hb4⟩ := HCK.out
        have hsame : ∀ q ∈ ba ++ bk, ((((((w4.setCell ⟨w.heap.size, 0, none⟩ (.int .i64 xk)).setCell ⟨w.heap.size, 1, none⟩ (.int .i64 xs)).setCell ⟨w.heap.size, 2, none⟩ (.string xn)).setCell ⟨w.heap.size, 3, none⟩ (.string xt)).setCell ⟨w.heap.size, 4, none⟩ (.slice B' xa.length ca)).setCell ⟨w.heap.size, 5, none⟩ (.slice K' kids.len ck)).heap[q]? = w4.heap[q]? := fun q hq => by
          have := (hb4 q hq).1
          have hne : q ≠ w.heap.size := by omega
          rw [Below.heap_setCell _ _ _ _ hne, Below.heap_setCell _ _ _ _ hne, Below.heap_setCell _ _ _ _ hne, Below.heap_setCell _ _ _ _ hne, Below.heap_setCell _ _ _ _ hne, Below.heap_setCell _ _ _ _ hne]
        refine ret_node2 rfl M2.put6 rfl rfl rfl (at_one HO.out (below_put6 _ _ _ _ _ _ B4.out (Nat.le_refl _)) ⟨hC.1, hC.2.1, hC.2.2.same fun q hq => hsame q (by simp [hq])⟩ ⟨hK.1, hK.2.1, hK.2.2.same fun q hq => hsame q (by simp [hq])⟩ hn4 fun q hq => ?_)
        have := hb4 q hq
        simp only [World.size_setCell]
        omega
    · have HO := Lib.hid (atOf_fault HP.out hk)
      have hk' : (faultOf F != 0) = true := by simpa using hk
      clear hk
      go_enter Try.func15, Try.ntmps15
      go_wp2_with fail
      refine (treeFault_any F _ A c b o lo hi hd (Nat.le_trans hh BZ.out.size) HA.out (FoAt.below HA.out HF.out BZ.out hh)).mono ?_
      rintro e w1 ⟨rfl, hB⟩
      have B1 := Lib.hid (BZ.out.trans (hB.mono BZ.out.size))
      have L1 := LZ.out.below hB (by simp)
      have n0 := L1.1
      have n1 := L1.2
      clear hB LZ BZ L1
      go_wp2
      (try simp only [Exit.inBlock, Exit.then])
      have M2 : Lay w1 w.heap.size _ := ⟨n0, n1⟩
      exact ret_node2 rfl M2.put6 rfl rfl rfl (at_zero HO.out (below_put6 _ _ _ _ _ _ B1.out (Nat.le_refl _)))
  · have HO := Lib.hid (atOf_long (F := F) hp)
    have hpl : (l.length : Int) > 4096 := by omega
    clear hp
    go_enter Try.func15, Try.ntmps15
    go_wp2
    (try simp only [Exit.inBlock, Exit.then])
    exact ret_node2 rfl LZ.out rfl rfl rfl (at_zero HO.out BZ.out)
end Go.Proofs.Ytgkkmoliobhpiaa
