import Derived.Test.YthdkkpbhijlpaaaGreatS33
import Derived.Test.YthdkkpbhijlpaaaGreatS36
set_option linter.unusedVariables false
namespace Go.Proofs.YthdkkpbhijlpaaaGreat
open Go.ChangeShapes Go.WideShapes Go.ChangeAt Go.RowKit Go.Deep

/-- behind the append of attributes to nil, two boxes ahead -/
theorem box2_nil {wr w2 : World} {cs cs2 : Array Value} {t t2 : TypeId} (hg : ((wr.alloc (.cells cs t)).alloc (.cells cs2 t2)).grownBy w2 none) : Lay w2 wr.heap.size cs ∧ Lay w2 (wr.heap.size + 1) cs2 ∧ Below wr.heap.size wr w2 ∧ wr.heap.size + 1 < w2.heap.size := by
  have h1 := hg.size
  simp only [World.size_alloc] at h1
  have hB : Below (wr.heap.size + 1 + 1) ((wr.alloc (.cells cs t)).alloc (.cells cs2 t2)) w2 := (Below.refl _ _).grown hg (by simp) (fun q hq => by cases hq)
  obtain ⟨L1, L2, B⟩ := two_lay hB
  exact ⟨L1, L2, B, by omega⟩
theorem Cp.low {g b : Nat} {w : World} {A : Option Addr} {ca : Nat} {al : List (ByteArray × ByteArray)} {ba : List Nat} (h : Cp g w A ca al ba) (hb : b ≤ g) (j : Nat) (u : Value) : Cp g (w.setCell ⟨b, j, none⟩ u) A ca al ba :=
  ⟨⟨h.1.1, h.1.2.1, h.1.2.2.same fun k hk => Below.heap_setCell _ _ _ _ (by have := (h.2.2 k hk).1; show k ≠ b; omega)⟩, h.2.1, fun k hk => by rw [World.size_setCell]; exact h.2.2 k hk⟩
/-- what a copied node leaves -/
def NodeOut (k sp : Int) (n t : ByteArray) (al : List (ByteArray × ByteArray)) (G : Fo) (w : World) (e : Ending) (w' : World) : Prop :=
  ∃ (A' K' : Option Addr) (ca ck : Nat) (ba bk : List Nat), e = .returned (.agg #[.int .i64 k, .int .i64 sp, .string n, .string t, .slice A' al.length ca, .slice K' G.len ck]) ∧ Below w.heap.size w w' ∧
    (al.length ≤ ca ∧ al.length ≤ maxLen ∧ AlRow w' A' al ba) ∧ (G.len ≤ ck ∧ G.len ≤ maxLen ∧ KRow w' K' G bk) ∧ (ba ++ bk).Nodup ∧ ∀ q ∈ ba ++ bk, w.heap.size ≤ q ∧ q < w'.heap.size
theorem nodeOut_of {g M : Nat} {w w' : World} {al : List (ByteArray × ByteArray)} {G : Fo} {A' K' : Option Addr} {ca ck : Nat} {ba bk : List Nat} (hC : Cp g w' A' ca al ba) (hK : Kp M w' K' ck G bk) (hg : w.heap.size ≤ g) (hM : ∀ q ∈ ba, q < M) (hgM : g ≤ M) :
    (al.length ≤ ca ∧ al.length ≤ maxLen ∧ AlRow w' A' al ba) ∧ (G.len ≤ ck ∧ G.len ≤ maxLen ∧ KRow w' K' G bk) ∧ (ba ++ bk).Nodup ∧ ∀ q ∈ ba ++ bk, w.heap.size ≤ q ∧ q < w'.heap.size := by
  refine ⟨hC.1, hK.1, List.nodup_append.2 ⟨hC.2.1, hK.2.1, fun p hp q hq e => ?_⟩, fun q hq => ?_⟩
  · subst e
    have := hM p hp
    have := (hK.2.2 p hq).1
    omega
  · rcases List.mem_append.1 hq with hq | hq
    · exact ⟨by have := (hC.2.2 q hq).1; omega, (hC.2.2 q hq).2⟩
    · exact ⟨by have := (hK.2.2 q hq).1; omega, (hK.2.2 q hq).2⟩
set_option maxHeartbeats 2000000 in
set_option maxRecDepth 100000 in
theorem copyNode_any (k sp : Int) (n t : ByteArray) (al : List (ByteArray × ByteArray)) (kids : Fo) (ih : MakesOK 140 id kids) (w : World) (A K : Option Addr) (c kc b o kb ko lo hi : Nat) (hs : kids.small) (hkl : kids.len ≤ 1048576) (hll : al.length ≤ 1048576)
    (hA : RowAt lo hi A al.length b o) (hal : AsAt w b o al) (hK : RowAt lo hi K kids.len kb ko) (hk : FoAt w lo hi kb ko kids) (hh : hi ≤ w.heap.size) :
    Calls Tryz.prog 85 #[.agg #[.int .i64 k, .int .i64 sp, .string n, .string t, .slice A al.length c, .slice K kids.len kc]] w (NodeOut k sp n t al kids w) := by
  obtain ⟨ia, hia, hza, hsa, hba⟩ := info_of infoAttr
  have HN := Lib.hid (And.intro hA hal)
  have HK := Lib.hid (And.intro hK hk)
  have HI := Lib.hid ih
  clear hal ih hk hA hK
  go_enter Tryz.func85, Tryz.ntmps85
  go_wp2_with (at_builtin; refine wpList_append_al rfl (.const (.slice none 0 0)) (.tmp 4) 69 rfl (w.heap.size + 2) 121 ia _ Tryz.underlying69 hia hza hsa hba rfl (.slice none 0 0) rfl (World.ownsRow_nil _ _ _ _) al A c b o lo hi rfl HN.out.1 (al_below HN.out.1 HN.out.2 (((Below.refl w.heap.size w).alloc (Nat.le_refl _) _).alloc (by simp) _) hh) hll (by simp) ?_; intro v2 w2 hown2 hgrow2; obtain ⟨L2, M2, B2, hs2⟩ := box2_nil hgrow2; obtain ⟨A', ca, ba, rfl, hC⟩ := Cp.of hown2 (asAt_sizes HN.out.2) (by unfold maxLen; omega) (show w.heap.size + 1 < w.heap.size + 2 by omega); obtain ⟨p0, p1, p2, p3, p4, p5⟩ := lay6 L2; have f4 := L2.2 4; have K2 := Lib.hid L2; have N2 := Lib.hid M2; have KB2 := Lib.hid B2; have C2 := Lib.hid hC; have C2lt := Lib.hid (show ∀ q ∈ ba, q < w2.heap.size from fun q hq => (hC.2.2 q hq).2); clear hown2 hgrow2 L2 M2 B2 hC)
  have B3 : Hid (Below w.heap.size w (w2.setCell ⟨w.heap.size, 4, none⟩ (.slice A' al.length ca))) := Lib.hid (KB2.out.setCell (p := ⟨w.heap.size, 4, none⟩) (Nat.le_refl _) _)
  have C3 := Lib.hid (C2.out.low (b := w.heap.size) (by omega) 4 (.slice A' al.length ca))
  have K3 := Lib.hid (K2.out.set 4 (.slice A' al.length ca))
  have N3 := Lib.hid (N2.out.setOther (g' := w.heap.size) (by omega) 4 (.slice A' al.length ca))
  clear C2 K2 N2 p0 p1 p2 p3 p4 p5 f4
  refine (HI.out _ K kc kb ko lo hi hs hkl HK.out.1 (Nat.le_trans hh B3.out.size) (FoAt.below HK.out.1 HK.out.2 B3.out hh)).mono ?_
  rintro e w4 ⟨v4, bl4, rfl, hB4, hG4⟩
  obtain ⟨K', ck, bk, rfl, hKp⟩ := Kp.of hG4 (by show kids.len ≤ _; unfold maxLen; omega)
  rw [World.size_setCell] at hKp
  have hs4 := hB4.size
  rw [World.size_setCell] at hs4
  have L4 := K3.out.below hB4 (by rw [World.size_setCell]; omega)
  have N4 := N3.out.below hB4 (by rw [World.size_setCell]; omega)
  have C4 := Lib.hid ((C3.out.next hB4).low (b := w.heap.size) (by omega) 5 (.slice K' kids.len ck))
  have KK := Lib.hid (hKp.set (g := w.heap.size) (by omega) 5 (.slice K' kids.len ck))
  have BW : Hid (Below w.heap.size w (w4.setCell ⟨w.heap.size, 5, none⟩ (.slice K' kids.len ck))) := Lib.hid ((B3.out.trans (hB4.mono B3.out.size)).setCell (p := ⟨w.heap.size, 5, none⟩) (Nat.le_refl _) _)
  obtain ⟨p0, p1, p2, p3, p4, p5⟩ := lay6 L4
  have f5 := L4.2 5
  have n0 := N4.1
  have n1 := N4.2
  clear hB4 hG4 hKp L4 K3 C3 B3 N3 N4
  go_wp2
  (try simp only [Exit.inBlock, Exit.then])
  have M2 : Lay w4 (w.heap.size + 1) _ := ⟨n0, n1⟩
  have M3 := ((((((M2.setOther (g' := w.heap.size) (by omega) 5 (.slice K' kids.len ck)).set 0 (.int .i64 k)).set 1 (.int .i64 sp)).set 2 (.string n)).set 3 (.string t)).set 4 (.slice A' al.length ca)).set 5 (.slice K' kids.len ck)
  have C5 := ((((((C4.out.low (b := w.heap.size + 1) (Nat.le_refl _) 0 (.int .i64 k)).low (b := w.heap.size + 1) (Nat.le_refl _) 1 (.int .i64 sp)).low (b := w.heap.size + 1) (Nat.le_refl _) 2 (.string n)).low (b := w.heap.size + 1) (Nat.le_refl _) 3 (.string t)).low (b := w.heap.size + 1) (Nat.le_refl _) 4 (.slice A' al.length ca)).low (b := w.heap.size + 1) (Nat.le_refl _) 5 (.slice K' kids.len ck))
  have K5 := ((((((KK.out.set (g := w.heap.size + 1) hs2 0 (.int .i64 k)).set (g := w.heap.size + 1) hs2 1 (.int .i64 sp)).set (g := w.heap.size + 1) hs2 2 (.string n)).set (g := w.heap.size + 1) hs2 3 (.string t)).set (g := w.heap.size + 1) hs2 4 (.slice A' al.length ca)).set (g := w.heap.size + 1) hs2 5 (.slice K' kids.len ck))
  refine ret_node rfl M3 rfl rfl ⟨A', K', ca, ck, ba, bk, rfl, ?_, nodeOut_of C5 K5 (by omega) C2lt.out (by omega)⟩
  exact (((((BW.out.setCell (p := ⟨w.heap.size + 1, 0, none⟩) (Nat.le_succ _) _).setCell (p := ⟨w.heap.size + 1, 1, none⟩) (Nat.le_succ _) _).setCell (p := ⟨w.heap.size + 1, 2, none⟩) (Nat.le_succ _) _).setCell (p := ⟨w.heap.size + 1, 3, none⟩) (Nat.le_succ _) _).setCell (p := ⟨w.heap.size + 1, 4, none⟩) (Nat.le_succ _) _).setCell (p := ⟨w.heap.size + 1, 5, none⟩) (Nat.le_succ _) _
set_option maxHeartbeats 2000000 in
set_option maxRecDepth 100000 in
theorem copyTree_lt : ∀ (N : Nat) (F : Fo), F.nodes < N → MakesOK 140 id F := by
  intro N
  induction N with
  | zero => intro F hF; omega
  | succ N IH =>
  intro F hF w A c b o lo hi hsm hl hA hh hFo
  have HA := Lib.hid hA
  have HS := Lib.hid hFo
  have HF := Lib.hid hF
  have HI := Lib.hid IH
  have HSM := Lib.hid hsm
  clear hA hFo hF IH hsm
  go_enter Tryz.func140, Tryz.ntmps140
  go_wp2
  go_loopw [3, 8] (fun m i wr => ∃ (k : Nat) (pre suf : Fo), i = .int .i64 (k : Int) ∧ k + suf.len = F.len ∧ Hid (pre.len = k ∧ F = pre.app suf ∧ (∃ bl, GRow wr w.heap.size m pre bl) ∧ FoAt w lo hi b (o + k * 6) suf ∧ Below w.heap.size w wr ∧ suf.nodes < N + 1)) (fun m i wr => F.len - (intOf i).toNat)
  case atStart => exact ⟨0, .nil, F, rfl, by omega, Lib.hid ⟨rfl, rfl, ⟨[], GRow.nil _ _⟩, by simpa using HS.out, Below.refl _ _, HF.out⟩⟩
  case round =>
    obtain ⟨k, pre, suf, rfl, hk, HH⟩ := hrel
    cases suf with
    | nil =>
      have hkl : k = F.len := by simpa [Fo.len] using hk
      clear hk
      subst hkl
      go_wp2
      go_ret
      obtain ⟨i1, i2, ⟨bl, i3⟩, _, i5, _⟩ := HH.out
      exact ⟨_, bl, rfl, i5, by rw [Fo.app_nil] at i2; rw [show id F = F from rfl, i2]; exact i3⟩
    | cons xk xs xn xt xa kids r =>
      have hkl : k < F.len := by simp [Fo.len] at hk; omega
      obtain ⟨hpl, hp, ⟨bl, hG⟩, ⟨⟨s0, s1, s2, s3, z2, z3⟩, ⟨A4, c4, b4, o4, s4, r4, a4⟩, ⟨A5, c5, b5, o5, s5, r5, a5⟩, sr⟩, hB, hnd⟩ := HH.out
      obtain ⟨rfl, hlo, hhi⟩ := HA.out.2 (by omega)
      have hb : b < w.heap.size := by omega
      have t0 := (hB.cell (p := ⟨b, _, none⟩) hb).trans s0
      have t1 := (hB.cell (p := ⟨b, _, none⟩) hb).trans s1
      have t2 := (hB.cell (p := ⟨b, _, none⟩) hb).trans s2
      have t3 := (hB.cell (p := ⟨b, _, none⟩) hb).trans s3
      have t4 := (hB.cell (p := ⟨b, _, none⟩) hb).trans s4
      have t5 := (hB.cell (p := ⟨b, _, none⟩) hb).trans s5
      have HB := Lib.hid hB
      have HG := Lib.hid hG
      have H4 := Lib.hid (And.intro r4.2 a4)
      have H5 := Lib.hid (And.intro r5.2 a5)
      have HR := Lib.hid sr
      have HP := Lib.hid (And.intro hpl hp)
      have HND : Hid (kids.nodes < N ∧ r.nodes < N + 1) := Lib.hid (by simp [Fo.nodes] at hnd; omega)
      have HSK : Hid (xa.length ≤ 1048576 ∧ kids.len ≤ 1048576 ∧ kids.small ∧ r.small) := by have := HSM.out; rw [hp] at this; exact Lib.hid (Fo.small_app pre this)
      have HZ := Lib.hid (And.intro z2 z3)
      clear HH s0 s1 s2 s3 s4 s5 sr hB hG r4 r5 a4 a5 hpl hp hnd z2 z3
      have hbw : w.heap.size ≤ wr.heap.size := HB.out.size
      have BX : Hid (Below w.heap.size w (wr.alloc (.cells #[.int .i64 xk, .int .i64 xs, .string xn, .string xt, .slice A4 xa.length c4, .slice A5 kids.len c5] 71))) := Lib.hid (HB.out.alloc hbw _)
      go_wp2_with fail
      refine (copyNode_any xk xs xn xt xa kids (HI.out kids HND.out.1) _ A4 A5 c4 c5 b4 o4 b5 o5 lo hi HSK.out.2.2.1 HSK.out.2.1 HSK.out.1 H4.out.1 (al_below H4.out.1 H4.out.2 BX.out hh) H5.out.1 (FoAt.below H5.out.1 H5.out.2 BX.out hh) (Nat.le_trans hh BX.out.size)).mono ?_
      rintro e w4 ⟨A', K', ca, ck, ba, bk, rfl, hB4, hC, hK, hn4, hb4⟩
      have hs4 := hB4.size
      rw [World.size_alloc] at hs4
      have BW : Hid (Below wr.heap.size wr w4) := Lib.hid (((Below.refl wr.heap.size wr).alloc (Nat.le_refl _) _).trans (hB4.mono (by simp)))
      have HCN := Lib.hid (cells_new w4 [.int .i64 xk, .int .i64 xs, .string xn, .string xt, .slice A' xa.length ca, .slice K' kids.len ck] 71)
      have hpl : pre.len ≤ 1048576 := by have := HP.out.1; omega
      have C4 : Hid (xa.length ≤ ca ∧ xa.length ≤ maxLen ∧ AlRow (w4.alloc (.cells #[.int .i64 xk, .int .i64 xs, .string xn, .string xt, .slice A' xa.length ca, .slice K' kids.len ck] 71)) A' xa ba) := Lib.hid ⟨hC.1, hC.2.1, hC.2.2.same fun q hq => Below.heap_alloc _ _ _ (hb4 q (by simp [hq])).2⟩
      have KK : Hid (kids.len ≤ ck ∧ kids.len ≤ maxLen ∧ KRow (w4.alloc (.cells #[.int .i64 xk, .int .i64 xs, .string xn, .string xt, .slice A' xa.length ca, .slice K' kids.len ck] 71)) K' kids bk) := Lib.hid ⟨hK.1, hK.2.1, hK.2.2.same fun q hq => Below.heap_alloc _ _ _ (hb4 q (by simp [hq])).2⟩
      have HND2 : Hid ((ba ++ bk).Nodup ∧ ∀ q ∈ ba ++ bk, wr.heap.size ≤ q ∧ q < w4.heap.size) := Lib.hid ⟨hn4, fun q hq => ⟨by have := (hb4 q hq).1; simp at this; omega, (hb4 q hq).2⟩⟩
      clear hB4 hC hK hn4 hb4 t0 t1 t2 t3 t4 t5
      go_wp2_with (at_builtin; refine wpList_push_node rfl (.tmp 12) (.tmp 15) rfl w.heap.size _ _ pre bl rfl HG.out (BW.out.alloc (by omega) _) hbw hpl rfl xk xs xn xt xa kids A' K' ca ck ba bk HCN.out HZ.out C4.out KK.out HND2.out.1 (fun q hq => ⟨(HND2.out.2 q hq).1, by have := (HND2.out.2 q hq).2; simp; omega⟩) ?_; intro v6 w6 bl6 hG6 hB6; have G6 := Lib.hid hG6; have B6 := Lib.hid (HB.out.trans (((BW.out.mono hbw).alloc (by omega) _).trans hB6)); clear hG6 hB6)
      go_roundw
      case rel => exact ⟨k + 1, pre.app (.one xk xs xn xt xa kids), r, by go_num, by simp [Fo.len] at hk; omega, Lib.hid ⟨by rw [Fo.len_app, HP.out.1]; rfl, by rw [HP.out.2, Fo.app_assoc]; rfl, ⟨_, G6.out⟩, by rw [show o + (k + 1) * 6 = o + k * 6 + 6 by omega]; exact HR.out, B6.out, HND.out.2⟩⟩
      case measure => simp [intOf]; omega
theorem copyTree_any (F : Fo) : MakesOK 140 id F := copyTree_lt (F.nodes + 1) F (Nat.lt_succ_self _)
end Go.Proofs.YthdkkpbhijlpaaaGreat
namespace Go.Proofs.YthdkkpbhijlpaaaGreat
open Go.ChangeShapes Go.WideShapes Go.ChangeAt Go.RowKit Go.Deep

theorem words_any : ∀ (kids : Fo), kids.texts → SFine kids → hasC ⟨kids.words.toArray⟩ 60 = kids.anyT
  | .nil, _, _ => by simp [hasC, Fo.words, Fo.anyT]
  | .cons k sp n t al kk rest, ⟨hk, hr⟩, ⟨hn, hki, _, hs⟩ => by
    have ih := words_any rest hr hs
    have hkk : kk = .nil := by
      have := hki.1 (by show k ≠ 1; omega)
      cases kk with
      | nil => rfl
      | cons _ _ _ _ _ _ _ => simp [Fo.len] at this
    have ht : t.size ≤ 120 := by
      rcases hn with ⟨h, _⟩ | ⟨_, _, h⟩ | ⟨h, _⟩
      · exact absurd (show k = 1 from h) (by omega)
      · exact h.1
      · exact absurd (show k = 3 from h) (by omega)
    subst hkk
    subst hk
    simp only [Fo.anyT, markupB, ← ih, hasC, Fo.words]
    rw [show decide (t.size ≤ 65536) = true by simp; omega]
    simp
/-- a raw element of a tree holds markup just if one of its kids does -/
theorem raw_same {sp : Int} {n t : ByteArray} {al : List (ByteArray × ByteArray)} {kids : Fo} (hk : KidsIs ⟨1, sp, n, t, al⟩ kids) (hs : SFine kids) : rawW sp n kids = (rawB ⟨1, sp, n, t, al⟩ && kids.anyT) := by
  unfold rawW rawB
  cases hr : ((sp == 0) && inL rawL n) with
  | false => rfl
  | true =>
    simp only [Bool.and_eq_true, beq_iff_eq] at hr
    have := (hk.2 rfl hr.1).2 (raw_not_void hr.2) hr.2
    rw [Bool.true_and, Bool.true_and, words_any kids this hs]
/-- where the closure that sieves can be called -/
structure LeaveIn (w : World) (gc gl : Nat) (X : Cf) (V : CfV) : Prop where
  c : gc < w.heap.size
  l : gl < w.heap.size
  lay : Lay w gc #[.bool X.ha, .bool X.hb, .slice V.a1 X.al.length V.c1, .slice V.a2 X.rm.length V.c2, .slice V.a3 X.uw.length V.c3, .slice V.a4 X.at_.length V.c4, .slice V.a5 X.dp.length V.c5, .bool X.cm, .bool X.da]
  self : w.cell? ⟨gl, 0, none⟩ = some (.func (.func 83) #[] #[.pointer (some ⟨gc, 0, none⟩), .pointer (some ⟨gl, 0, none⟩)])
  cf : CfIn w X V
  mx : MaxAt w
theorem LeaveIn.next {w w' : World} {gc gl : Nat} {X : Cf} {V : CfV} (h : LeaveIn w gc gl X V) (hB : Below w.heap.size w w') : LeaveIn w' gc gl X V :=
  ⟨Nat.lt_of_lt_of_le h.c hB.size, Nat.lt_of_lt_of_le h.l hB.size, h.lay.below hB h.c, (hB.cell (p := ⟨gl, 0, none⟩) h.l).trans h.self, h.cf.next hB, h.mx.below hB⟩
def LeaveOK (X : Cf) (V : CfV) (F : Fo) : Prop := ∀ (w : World) (A : Option Addr) (c b o lo hi gc gl : Nat), SFine F → F.nodes ≤ 60 → LeaveIn w gc gl X V → RowAt lo hi A F.len b o → hi ≤ w.heap.size → FoAt w lo hi b o F →
  Calls Tryz.prog 83 #[.slice A F.len c, .pointer (some ⟨gc, 0, none⟩), .pointer (some ⟨gl, 0, none⟩)] w (RowOut (F.san X) w)
end Go.Proofs.YthdkkpbhijlpaaaGreat
