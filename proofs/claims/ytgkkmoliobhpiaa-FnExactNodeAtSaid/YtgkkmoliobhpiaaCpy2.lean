import Derived.Test.YtgkkmoliobhpiaaCpy
namespace Go.Proofs.Ytgkkmoliobhpiaa
open Go.ChangeShapes Go.WideShapes Go.ChangeAt Go.RowKit Go.Deep

/-- a row of its own comes back -/
def RowOut (G : Fo) (w : World) (e : Ending) (w' : World) : Prop := ∃ v bl, e = .returned v ∧ Below w.heap.size w w' ∧ GRow w' w.heap.size v G bl
def MakesOK (f : FuncId) (G : Fo → Fo) (F : Fo) : Prop := ∀ (w : World) (A : Option Addr) (c b o lo hi : Nat), F.small → F.len ≤ 1048576 → RowAt lo hi A F.len b o → hi ≤ w.heap.size → FoAt w lo hi b o F →
    Calls Try.prog f #[.slice A F.len c] w (RowOut (G F) w)
/-- a copied row of attributes, behind block g -/
def Cp (g : Nat) (w : World) (A : Option Addr) (ca : Nat) (al : List (ByteArray × ByteArray)) (ba : List Nat) : Prop := (al.length ≤ ca ∧ al.length ≤ maxLen ∧ AlRow w A al ba) ∧ ba.Nodup ∧ ∀ k ∈ ba, g < k ∧ k < w.heap.size
theorem Cp.of {g base : Nat} {w : World} {v : Value} {al : List (ByteArray × ByteArray)} (h : w.ownsRow base 56 2 v al.length (alVals al)) (hs : ∀ x ∈ al, x.1.size ≤ maxLen ∧ x.2.size ≤ maxLen) (hl : al.length ≤ maxLen) (hg : g < base) : ∃ A ca ba, v = .slice A al.length ca ∧ Cp g w A ca al ba := by
  obtain ⟨A, ca, ba, h1, h2, h3, h4, h5, _⟩ := arow_form h hs
  exact ⟨A, ca, ba, h1, ⟨h2, hl, h3⟩, h4, fun k hk => ⟨by have := (h5 k hk).1; omega, (h5 k hk).2⟩⟩
theorem Cp.set {g : Nat} {w : World} {A : Option Addr} {ca : Nat} {al : List (ByteArray × ByteArray)} {ba : List Nat} (h : Cp g w A ca al ba) (j : Nat) (u : Value) : Cp g (w.setCell ⟨g, j, none⟩ u) A ca al ba :=
  ⟨⟨h.1.1, h.1.2.1, h.1.2.2.same fun k hk => Below.heap_setCell _ _ _ _ (by have := (h.2.2 k hk).1; show k ≠ g; omega)⟩, h.2.1, fun k hk => by rw [World.size_setCell]; exact h.2.2 k hk⟩
theorem Cp.next {g : Nat} {w w' : World} {A : Option Addr} {ca : Nat} {al : List (ByteArray × ByteArray)} {ba : List Nat} (h : Cp g w A ca al ba) (hB : Below w.heap.size w w') : Cp g w' A ca al ba :=
  ⟨⟨h.1.1, h.1.2.1, h.1.2.2.same fun k hk => hB.block k (h.2.2 k hk).2⟩, h.2.1, fun k hk => ⟨(h.2.2 k hk).1, Nat.lt_of_lt_of_le (h.2.2 k hk).2 hB.size⟩⟩
/-- a copied row of nodes, from M on -/
def Kp (M : Nat) (w : World) (K : Option Addr) (ck : Nat) (F : Fo) (bk : List Nat) : Prop := (F.len ≤ ck ∧ F.len ≤ maxLen ∧ KRow w K F bk) ∧ bk.Nodup ∧ ∀ k ∈ bk, M ≤ k ∧ k < w.heap.size
theorem Kp.of {M : Nat} {w : World} {v : Value} {F : Fo} {bl : List Nat} (h : GRow w M v F bl) (hm : F.len ≤ maxLen) : ∃ K ck bk, v = .slice K F.len ck ∧ Kp M w K ck F bk := by
  obtain ⟨K, ck, bk, h1, h2, h3, h4, h5⟩ := h.form
  exact ⟨K, ck, bk, h1, ⟨h2, hm, h3⟩, h4, h5⟩
theorem Kp.set {M g : Nat} {w : World} {K : Option Addr} {ck : Nat} {F : Fo} {bk : List Nat} (h : Kp M w K ck F bk) (hg : g < M) (j : Nat) (u : Value) : Kp M (w.setCell ⟨g, j, none⟩ u) K ck F bk :=
  ⟨⟨h.1.1, h.1.2.1, h.1.2.2.same fun k hk => Below.heap_setCell _ _ _ _ (by have := (h.2.2 k hk).1; show k ≠ g; omega)⟩, h.2.1, fun k hk => by rw [World.size_setCell]; exact h.2.2 k hk⟩
theorem Kp.next {M : Nat} {w w' : World} {K : Option Addr} {ck : Nat} {F : Fo} {bk : List Nat} (h : Kp M w K ck F bk) (hB : Below w.heap.size w w') : Kp M w' K ck F bk :=
  ⟨⟨h.1.1, h.1.2.1, h.1.2.2.same fun k hk => hB.block k (h.2.2 k hk).2⟩, h.2.1, fun k hk => ⟨(h.2.2 k hk).1, Nat.lt_of_lt_of_le (h.2.2 k hk).2 hB.size⟩⟩
/-- behind the append of attributes to a literal of none -/
theorem box_lit {wr w2 : World} {cs : Array Value} {t te : TypeId} (hg : ((wr.alloc (.cells cs t)).alloc (.cells #[] te)).grownBy w2 (some (wr.heap.size + 1))) : Lay w2 wr.heap.size cs ∧ Below wr.heap.size wr w2 ∧ wr.heap.size + 1 < w2.heap.size := by
  have h1 := hg.size
  simp only [World.size_alloc] at h1
  have e : w2.heap[wr.heap.size]? = ((wr.alloc (.cells cs t)).alloc (.cells #[] te)).heap[wr.heap.size]? := hg.block _ (by simp; omega) (by simp)
  have hL := (Lay.new wr cs t).alloc (by simp) (.cells #[] te)
  refine ⟨⟨fun j => (World.cell?_of_block (a := ⟨_, j, none⟩) e).trans (hL.1 j), fun j => (World.frozen?_of_block (a := ⟨_, j, none⟩) e).trans (hL.2 j)⟩, (((Below.refl wr.heap.size wr).alloc (Nat.le_refl _) _).alloc (by simp) _).grown hg (by simp; omega) (fun q hq => by injection hq with hq; omega), by omega⟩
/-- .. to nil -/
theorem box_nil {wr w2 : World} {cs : Array Value} {t : TypeId} (hg : (wr.alloc (.cells cs t)).grownBy w2 none) : Lay w2 wr.heap.size cs ∧ Below wr.heap.size wr w2 ∧ wr.heap.size < w2.heap.size := by
  have h1 := hg.size
  simp only [World.size_alloc] at h1
  have e : w2.heap[wr.heap.size]? = (wr.alloc (.cells cs t)).heap[wr.heap.size]? := hg.block _ (by simp) (by simp)
  have hL := Lay.new wr cs t
  refine ⟨⟨fun j => (World.cell?_of_block (a := ⟨_, j, none⟩) e).trans (hL.1 j), fun j => (World.frozen?_of_block (a := ⟨_, j, none⟩) e).trans (hL.2 j)⟩, ((Below.refl wr.heap.size wr).alloc (Nat.le_refl _) _).grown hg (by simp) (fun q hq => by cases hq), by omega⟩
theorem own_lit (wr : World) (cs : Array Value) (t : TypeId) : ((wr.alloc (.cells cs t)).alloc (.cells #[] 56)).ownsRow (wr.heap.size + 1) 56 2 (.slice (some ⟨wr.heap.size + 1, 0, none⟩) 0 0) 0 [] := by
  have := World.ownsRow_lit (base := wr.heap.size + 1) (e := 56) (size := 2) (wr.alloc (.cells cs t)) #[] 0 (by simp) (Nat.zero_le _) rfl
  simpa using this
theorem lay6 {w : World} {g : Nat} {v0 v1 v2 v3 v4 v5 : Value} (h : Lay w g #[v0, v1, v2, v3, v4, v5]) : w.cell? ⟨g, 0, none⟩ = some v0 ∧ w.cell? ⟨g, 1, none⟩ = some v1 ∧ w.cell? ⟨g, 2, none⟩ = some v2 ∧ w.cell? ⟨g, 3, none⟩ = some v3 ∧ w.cell? ⟨g, 4, none⟩ = some v4 ∧ w.cell? ⟨g, 5, none⟩ = some v5 :=
  ⟨h.1 0, h.1 1, h.1 2, h.1 3, h.1 4, h.1 5⟩

set_option maxHeartbeats 2000000 in
set_option maxRecDepth 100000 in
theorem l03Copy_lt : ∀ (N : Nat) (F : Fo), F.nodes < N → MakesOK 34 id F := by
  intro N
  induction N with
  | zero => intro F hF; omega
  | succ N IH =>
  intro F hF w A c b o lo hi hsm hl hA hh hFo
  obtain ⟨ia, hia, hza, hsa, hba⟩ := info_of infoAttr
  have HA := Lib.hid hA
  have HS := Lib.hid hFo
  have HF := Lib.hid hF
  have HI := Lib.hid IH
  have HSM := Lib.hid hsm
  clear hA hFo hF IH hsm
  go_enter Try.func34, Try.ntmps34
  go_wp2
  go_loopw [3, 4] (fun m i wr => ∃ (k : Nat) (pre suf : Fo), i = .int .i64 (k : Int) ∧ k + suf.len = F.len ∧ Hid (pre.len = k ∧ F = pre.app suf ∧ (∃ bl, GRow wr w.heap.size m pre bl) ∧ FoAt w lo hi b (o + k * 6) suf ∧ Below w.heap.size w wr ∧ suf.nodes < N + 1)) (fun m i wr => F.len - (intOf i).toNat)
  case atStart => exact ⟨0, .nil, F, rfl, by omega, Lib.hid ⟨rfl, rfl, ⟨[], GRow.lit (Nat.le_refl _)⟩, by simpa using HS.out, (Below.refl _ _).alloc (Nat.le_refl _) _, HF.out⟩⟩
  case round =>
    obtain ⟨k, pre, suf, rfl, hk, HH⟩ := hrel
    cases suf with
    | nil =>
      have hkl : k = F.len := by simpa [Fo.len] using hk
      clear hk
      subst hkl
      go_wp2
      go_ret
      obtain ⟨i1, i2, ⟨bl, i3⟩, _, i5, _⟩ := HH.out
      exact ⟨_, bl, rfl, i5, by rw [Fo.app_nil] at i2; rw [show id F = F from rfl, i2]; exact i3⟩
    | cons xk xs xn xt xa kids r =>
      have hkl : k < F.len := by simp [Fo.len] at hk; omega
      obtain ⟨hpl, hp, ⟨bl, hG⟩, ⟨⟨s0, s1, s2, s3, z2, z3⟩, ⟨A4, c4, b4, o4, s4, r4, a4⟩, ⟨A5, c5, b5, o5, s5, r5, a5⟩, sr⟩, hB, hnd⟩ := HH.out
      obtain ⟨rfl, hlo, hhi⟩ := HA.out.2 (by omega)
      have hb : b < w.heap.size := by omega
      have t0 := (hB.cell (p := ⟨b, _, none⟩) hb).trans s0
      have t1 := (hB.cell (p := ⟨b, _, none⟩) hb).trans s1
      have t2 := (hB.cell (p := ⟨b, _, none⟩) hb).trans s2
      have t3 := (hB.cell (p := ⟨b, _, none⟩) hb).trans s3
      have t4 := (hB.cell (p := ⟨b, _, none⟩) hb).trans s4
      have t5 := (hB.cell (p := ⟨b, _, none⟩) hb).trans s5
      have HB := Lib.hid hB
      have HG := Lib.hid hG
      have H4 := Lib.hid (And.intro r4.2 a4)
      have H5 := Lib.hid (And.intro r5.2 a5)
      have HR := Lib.hid sr
      have HP := Lib.hid (And.intro hpl hp)
      have HND : Hid (kids.nodes < N ∧ r.nodes < N + 1) := Lib.hid (by simp [Fo.nodes] at hnd; omega)
      have HSK : Hid (xa.length ≤ 1048576 ∧ kids.len ≤ 1048576 ∧ kids.small ∧ r.small) := by have := HSM.out; rw [hp] at this; exact Lib.hid (Fo.small_app pre this)
      have HZ := Lib.hid (And.intro z2 z3)
      clear HH s0 s1 s2 s3 s4 s5 sr hB hG r4 r5 a4 a5 hpl hp hnd z2 z3
      have hbw : w.heap.size ≤ wr.heap.size := HB.out.size
      go_wp2_with (at_builtin; refine wpList_append_al rfl (.tmp 17) (.tmp 19) 27 rfl (wr.heap.size + 1) 56 ia _ Try.underlying27 hia hza hsa hba rfl (.slice (some ⟨wr.heap.size + 1, 0, none⟩) 0 0) rfl (own_lit wr _ _) xa A4 c4 b4 o4 lo hi rfl H4.out.1 (al_below H4.out.1 H4.out.2 ((HB.out.alloc hbw _).alloc (by simp; omega) _) hh) HSK.out.1 (by simp) ?_; intro v2 w2 hown2 hgrow2; obtain ⟨L2, B2, hs2⟩ := box_lit hgrow2; obtain ⟨A', ca, ba, rfl, hC⟩ := Cp.of hown2 (asAt_sizes H4.out.2) (by have := HSK.out.1; unfold maxLen; omega) (Nat.lt_succ_self _); obtain ⟨p0, p1, p2, p3, p4, p5⟩ := lay6 L2; have f4 := L2.2 4; have K2 := Lib.hid L2; have KB2 := Lib.hid B2; have C2 := Lib.hid hC; have C2lt := Lib.hid (show ∀ q ∈ ba, q < w2.heap.size from fun q hq => (hC.2.2 q hq).2); clear hown2 hgrow2 L2 B2 hC)
      have B3 : Hid (Below w.heap.size w (w2.setCell ⟨wr.heap.size, 4, none⟩ (.slice A' xa.length ca))) := Lib.hid ((HB.out.trans (KB2.out.mono hbw)).setCell (p := ⟨wr.heap.size, 4, none⟩) hbw _)
      have C3 := Lib.hid (C2.out.set 4 (.slice A' xa.length ca))
      have K3 := Lib.hid (K2.out.set 4 (.slice A' xa.length ca))
      clear C2 K2 p0 p1 p2 p3 p4 p5 f4
      refine (HI.out kids HND.out.1 _ A5 c5 b5 o5 lo hi HSK.out.2.2.1 HSK.out.2.1 H5.out.1 (Nat.le_trans hh B3.out.size) (FoAt.below H5.out.1 H5.out.2 B3.out hh)).mono ?_
      rintro e w4 ⟨v4, bl4, rfl, hB4, hG4⟩
      obtain ⟨K', ck, bk, rfl, hK⟩ := Kp.of hG4 (by have := HSK.out.2.1; show kids.len ≤ _; unfold maxLen; omega)
      rw [World.size_setCell] at hK
      have hs4 := hB4.size
      rw [World.size_setCell] at hs4
      have L4 := K3.out.below hB4 (by rw [World.size_setCell]; omega)
      have C4 := Lib.hid ((C3.out.next hB4).set 5 (.slice K' kids.len ck))
      have KK := Lib.hid (hK.set (g := wr.heap.size) (by omega) 5 (.slice K' kids.len ck))
      have BW : Hid (Below wr.heap.size wr (w4.setCell ⟨wr.heap.size, 5, none⟩ (.slice K' kids.len ck))) := Lib.hid (((KB2.out.setCell (p := ⟨wr.heap.size, 4, none⟩) (Nat.le_refl _) _).trans (hB4.mono (by rw [World.size_setCell]; omega))).setCell (p := ⟨wr.heap.size, 5, none⟩) (Nat.le_refl _) _)
      obtain ⟨p0, p1, p2, p3, p4, p5⟩ := lay6 L4
      have f5 := L4.2 5
      clear hB4 hG4 hK L4 K3 C3 B3
      have hcn := cells_new (w4.setCell ⟨wr.heap.size, 5, none⟩ (.slice K' kids.len ck)) [.int .i64 xk, .int .i64 xs, .string xn, .string xt, .slice A' xa.length ca, .slice K' kids.len ck] 37
      rw [World.size_setCell] at hcn
      have HCN := Lib.hid hcn
      have hpl : pre.len ≤ 1048576 := by have := HP.out.1; omega
      have HND2 : Hid ((ba ++ bk).Nodup ∧ ∀ q ∈ ba ++ bk, wr.heap.size ≤ q ∧ q < w4.heap.size) := by
        have h1 := C4.out.2
        have h2 := KK.out.2
        simp only [World.size_setCell] at h1 h2
        have h3 := C2lt.out
        refine Lib.hid ⟨List.nodup_append.2 ⟨h1.1, h2.1, fun p hp q hq e => ?_⟩, fun q hq => ?_⟩
        · subst e
          have := h3 p hp
          have := (h2.2 p hq).1
          omega
        · rcases List.mem_append.1 hq with hq | hq
          · exact ⟨by have := (h1.2 q hq).1; omega, (h1.2 q hq).2⟩
          · exact ⟨by have := (h2.2 q hq).1; omega, (h2.2 q hq).2⟩
      clear hcn
      go_wp2_with (at_builtin; refine wpList_push_node rfl (.tmp 26) (.tmp 28) rfl w.heap.size _ _ pre bl rfl HG.out (BW.out.alloc (by simp; omega) _) hbw hpl rfl xk xs xn xt xa kids A' K' ca ck ba bk HCN.out HZ.out (C4.out.next ((Below.refl _ _).alloc (Nat.le_refl _) _)).1 (KK.out.next ((Below.refl _ _).alloc (Nat.le_refl _) _)).1 HND2.out.1 (fun q hq => ⟨(HND2.out.2 q hq).1, by have := (HND2.out.2 q hq).2; simp; omega⟩) ?_; intro v6 w6 bl6 hG6 hB6; have G6 := Lib.hid hG6; have B6 := Lib.hid (HB.out.trans (((BW.out.mono hbw).alloc (by simp; omega) _).trans hB6)); clear hG6 hB6)
      go_roundw
      case rel => exact ⟨k + 1, pre.app (.one xk xs xn xt xa kids), r, by go_num, by simp [Fo.len] at hk; omega, Lib.hid ⟨by rw [Fo.len_app, HP.out.1]; rfl, by rw [HP.out.2, Fo.app_assoc]; rfl, ⟨_, G6.out⟩, by rw [show o + (k + 1) * 6 = o + k * 6 + 6 by omega]; exact HR.out, B6.out, HND.out.2⟩⟩
      case measure => simp [intOf]; omega
theorem l03Copy_any (F : Fo) : MakesOK 34 id F := l03Copy_lt (F.nodes + 1) F (Nat.lt_succ_self _)
end Go.Proofs.Ytgkkmoliobhpiaa
