import Derived.Test.YtgkkmoliobhpiaaMrg4
import Derived.Test.YtgkkmoliobhpiaaLawTree
import Derived.Test.YtgkkmoliobhpiaaHeld2
namespace Go.Proofs.Ytgkkmoliobhpiaa
open Go.ChangeShapes Go.WideShapes Go.ChangeAt Go.RowKit Go.Deep

noncomputable def outM (F : Fo) : Fo := if faultOf F = 0 then Fo.mergeOn .nil F else .nil
theorem outM_ok {F : Fo} (h : faultOf F = 0) : outM F = Fo.mergeOn .nil F := if_pos h
theorem outM_bad {F : Fo} (h : ¬ faultOf F = 0) : outM F = .nil := if_neg h
theorem Fo.cnt_le : ∀ F : Fo, F.cnt ≤ 4 * (F.len + F.size)
  | .nil => Nat.zero_le _
  | .cons _ _ n t al kids rest => by
    have h1 := Fo.cnt_le kids
    have h2 := Fo.cnt_le rest
    simp only [Fo.cnt, Fo.len, Fo.size]
    omega
theorem outM_le (F : Fo) : (outM F).len ≤ F.len ∧ (outM F).cnt ≤ F.cnt := by
  unfold outM
  split
  · have h1 := Fo.mergeOn_len F .nil
    have h2 := Fo.mergeOn_cnt F .nil
    simp only [Fo.len, Fo.cnt, Nat.zero_add] at h1 h2
    exact ⟨h1, h2⟩
  · exact ⟨Nat.zero_le _, Nat.zero_le _⟩
/-- what the call hands back -/
def MergeOut (F : Fo) (w : World) (e : Ending) (w' : World) : Prop := ∃ v bl, e = .returned (.tuple #[v, .int .i64 (faultOf F)]) ∧ GRow w' w.heap.size v (outM F) bl ∧ Below w.heap.size w w'

theorem implMergeText_any (F : Fo) (w : World) (A : Option Addr) (c b o lo hi : Nat) (hs : F.len + F.size ≤ 1048576) (hh : hi ≤ w.heap.size) (hA : RowAt lo hi A F.len b o) (hF : FoAt w lo hi b o F) :
    Calls Try.prog 24 #[.slice A F.len c] w (MergeOut F w) := by
  have HA := Lib.hid hA
  have HF := Lib.hid hF
  have hd := Nat.le_trans (Fo.nodes_le F) hs
  clear hA hF
  by_cases hk : faultOf F = 0
  · have HK := Lib.hid hk
    clear hk
    go_enter Try.func24, Try.ntmps24
    go_wp2_with (go_at_call 36; refine (treeFault_any F _ A c b o lo hi hd hh HA.out HF.out).mono ?_; rintro e w1 ⟨rfl, hB⟩; rw [HK.out]; have B1 := Lib.hid hB; clear hB)
    refine (mergeText_any F _ A c b o lo hi (Fo.small_of F (by omega)) (Fo.tsm_of F (by omega)) (by omega) HA.out (Nat.le_trans hh B1.out.size) (FoAt.below HA.out HF.out B1.out hh)).mono ?_
    rintro e w2 ⟨v, bl, rfl, hB, hG⟩
    have HG := Lib.hid hG
    have B2 := Lib.hid (B1.out.trans (hB.mono B1.out.size))
    clear hB hG
    go_wp2
    go_ret2
    exact ⟨v, bl, by rw [HK.out]; rfl, by rw [outM_ok HK.out]; exact HG.out.low B1.out.size, B2.out⟩
  · have HK := Lib.hid (outM_bad hk)
    have hk' : (faultOf F != 0) = true := by simpa using hk
    clear hk
    go_enter Try.func24, Try.ntmps24
    go_wp2_with (go_at_call 36; refine (treeFault_any F _ A c b o lo hi hd hh HA.out HF.out).mono ?_; rintro e w1 ⟨rfl, hB⟩; have B1 := Lib.hid hB; clear hB)
    go_ret2
    exact ⟨_, [], rfl, by rw [HK.out]; exact GRow.nil _ _, B1.out⟩

theorem specMergeText_any (F : Fo) (w : World) (A : Option Addr) (c b o lo hi : Nat) (hs : F.len + F.size ≤ 1048576) (hh : hi ≤ w.heap.size) (hA : RowAt lo hi A F.len b o) (hF : FoAt w lo hi b o F) :
    Calls Try.prog 23 #[.slice A F.len c] w (MergeOut F w) := by
  have HA := Lib.hid hA
  have HF := Lib.hid hF
  have hd := Nat.le_trans (Fo.nodes_le F) hs
  clear hA hF
  by_cases hl : F.len ≤ 4096
  · by_cases hk : faultOf F = 0
    · have HK := Lib.hid hk
      clear hk
      go_enter Try.func23, Try.ntmps23
      go_wp2_with (go_at_call 42; refine (l03Ask_any F _ A c b o lo hi hd hh HA.out HF.out).mono ?_; rintro e w1 ⟨rfl, hB⟩; rw [HK.out]; have B1 := Lib.hid hB; clear hB)
      refine (l03Merge_any F _ A c b o lo hi (Fo.small_of F (by omega)) (Fo.tsm_of F (by omega)) (by omega) HA.out (Nat.le_trans hh B1.out.size) (FoAt.below HA.out HF.out B1.out hh)).mono ?_
      rintro e w2 ⟨v, bl, rfl, hB, hG⟩
      have HG := Lib.hid hG
      have B2 := Lib.hid (B1.out.trans (hB.mono B1.out.size))
      clear hB hG
      go_wp2
      go_ret2
      exact ⟨v, bl, by rw [HK.out]; rfl, by rw [outM_ok HK.out]; exact HG.out.low B1.out.size, B2.out⟩
    · have HK := Lib.hid (outM_bad hk)
      have hk' : (faultOf F != 0) = true := by simpa using hk
      clear hk
      go_enter Try.func23, Try.ntmps23
      go_wp2_with (go_at_call 42; refine (l03Ask_any F _ A c b o lo hi hd hh HA.out HF.out).mono ?_; rintro e w1 ⟨rfl, hB⟩; have B1 := Lib.hid hB; clear hB)
      go_ret2
      exact ⟨_, [], rfl, by rw [HK.out]; exact GRow.lit B1.out.size, B1.out.alloc B1.out.size _⟩
  · have hl' : (F.len : Int) > 4096 := by omega
    have HK := Lib.hid (outM_bad (F := F) (by rw [fault_long hl]; decide))
    have HL := Lib.hid (fault_long hl)
    go_enter Try.func23, Try.ntmps23
    go_wp2
    go_ret2
    exact ⟨_, [], by rw [HL.out]; rfl, by rw [HK.out]; exact GRow.lit (Nat.le_refl _), (Below.refl _ _).alloc (Nat.le_refl _) _⟩

/-- a row of nodes within some blocks -/
structure KR (w : World) (A : Option Addr) (G : Fo) (bs : List Nat) (lo hi : Nat) : Prop where
  row : KRow w A G bs
  nd : bs.Nodup
  at' : ∀ k ∈ bs, lo ≤ k ∧ k < hi
  le : hi ≤ w.heap.size
  len : G.len ≤ maxLen
theorem KR.of {w : World} {B : Nat} {v : Value} {G : Fo} {bl : List Nat} (h : GRow w B v G bl) (hl : G.len ≤ maxLen) : ∃ A c bs, v = .slice A G.len c ∧ KR w A G bs B w.heap.size := by
  obtain ⟨A, c, bs, h1, _, h3, h4, h5⟩ := h.form
  exact ⟨A, c, bs, h1, h3, h4, h5, Nat.le_refl _, hl⟩
theorem KR.next {w w' : World} {A : Option Addr} {G : Fo} {bs : List Nat} {lo hi : Nat} (h : KR w A G bs lo hi) (hB : Below w.heap.size w w') : KR w' A G bs lo hi :=
  ⟨h.row.same fun k hk => hB.block k (by have := (h.at' k hk).2; have := h.le; omega), h.nd, h.at', Nat.le_trans h.le hB.size, h.len⟩
theorem KR.only {w w' : World} {A : Option Addr} {G : Fo} {bs cs : List Nat} {lo hi : Nat} (h : KR w A G bs lo hi) (hB : OnlyAt w w' cs) (hc : ∀ k ∈ cs, ¬ (lo ≤ k ∧ k < hi)) : KR w' A G bs lo hi :=
  ⟨h.row.same fun k hk => hB.block k (by have := (h.at' k hk).2; have := h.le; omega) (fun e => hc k e (h.at' k hk)), h.nd, h.at', Nat.le_trans h.le hB.size, h.len⟩
/-- as it is read -/
theorem KR.read {w : World} {A : Option Addr} {G : Fo} {bs : List Nat} {lo hi : Nat} (h : KR w A G bs lo hi) : ∃ b, RowAt lo hi A G.len b 0 ∧ FoAt w lo hi b 0 G := by
  rcases h.row with ⟨h0, hb⟩ | ⟨c, b', e1, e2, e3⟩
  · refine ⟨0, ⟨h.len, fun hp => by omega⟩, ?_⟩
    cases G with
    | nil => trivial
    | cons _ _ _ _ _ _ _ => simp [Fo.len] at h0
  · have hc := h.at' c (by rw [e2]; simp)
    exact ⟨c, ⟨h.len, fun _ => ⟨e1, hc.1, hc.2⟩⟩, e3.at fun k hk => h.at' k (by rw [e2]; simp [hk])⟩
theorem eqKR {w : World} {A A' : Option Addr} {c c' : Nat} {G : Fo} {bs bs' : List Nat} {lo hi lo' hi' : Nat} (h : KR w A G bs lo hi) (h' : KR w A' G bs' lo' hi') :
    Calls Try.prog 17 #[.slice A G.len c, .slice A' G.len c'] w fun e w' => e = .returned (.bool true) ∧ Below w.heap.size w w' := by
  obtain ⟨b, h1, h2⟩ := h.read
  obtain ⟨b', h1', h2'⟩ := h'.read
  exact eqNodeS_same G w A A' c c' b b' 0 0 lo hi lo' hi' h1 h1' h.le h'.le h2 h2'
theorem markKR {w : World} {A : Option Addr} {c : Nat} {G : Fo} {bs : List Nat} {lo hi : Nat} (h : KR w A G bs lo hi) (hc : 1 + G.cnt ≤ 1073741824) :
    Calls Try.prog 19 #[.slice A G.len c, .int .i64 1] w fun e w' => e = .returned (.int .i64 ((1 + G.cnt : Nat) : Int)) ∧ KR w' A (markFo G 1) bs lo hi ∧ OnlyAt w w' bs := by
  refine (markNodeS_any G 1 w A c bs (Nat.le_refl _) hc h.len h.row h.nd (fun k hk => by have := (h.at' k hk).2; have := h.le; omega)).mono ?_
  rintro e w' ⟨h1, h2, h3⟩
  exact ⟨h1, ⟨h2, h.nd, h.at', Nat.le_trans h.le h3.size, by rw [markFo_len]; exact h.len⟩, h3⟩
theorem heldKR {w : World} {A : Option Addr} {c : Nat} {G : Fo} {bs : List Nat} {lo hi : Nat} (h : KR w A (markFo G 1) bs lo hi) (hc : 1 + G.cnt ≤ 1073741824) :
    Calls Try.prog 25 #[.slice A G.len c, .int .i64 1] w fun e w' => e = .returned (.int .i64 ((1 + G.cnt : Nat) : Int)) ∧ Below w.heap.size w w' := by
  obtain ⟨b, h1, h2⟩ := h.read
  rw [markFo_len] at h1
  exact heldNodeS_any G 1 w A c b 0 lo hi (Nat.le_refl _) hc h1 h.le h2
end Go.Proofs.Ytgkkmoliobhpiaa
