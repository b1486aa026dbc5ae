import Derived.Test.YthdkkpbhijlpaaaGreatS32
import Derived.Test.YthdkkpbhijlpaaaGreatS22
import Derived.Test.YthdkkpbhijlpaaaGreatS04
import Derived.Test.YthdkkpbhijlpaaaGreatS31
set_option linter.unusedVariables false
namespace Go.Proofs.YthdkkpbhijlpaaaGreat
open Go.ChangeShapes Go.WideShapes Go.ChangeAt Go.RowKit Go.Deep

def HeldOK (F : Fo) : Prop := ∀ (m : Nat) (w : World) (A : Option Addr) (c b o lo hi : Nat), 1 ≤ m → m + F.cnt ≤ 1073741824 → RowAt lo hi A F.len b o → hi ≤ w.heap.size → FoAt w lo hi b o (markFo F m) →
    Calls Tryz.prog 18 #[.slice A F.len c, .int .i64 (m : Int)] w fun e w' => e = .returned (.int .i64 ((m + F.cnt : Nat) : Int)) ∧ Below w.heap.size w w'
theorem heldAttrS_at (i : Int) (al : List (ByteArray × ByteArray)) (m : Nat) (hi' : i = (m : Int)) (w : World) (A : Option Addr) (c b o lo hi : Nat) (h1 : 1 ≤ m) (h2 : m + 2 * al.length ≤ 1073741824) (hA : RowAt lo hi A al.length b o) (hh : hi ≤ w.heap.size) (hal : AsAt w b o (markAl al m)) :
    Calls Tryz.prog 48 #[.slice A al.length c, .int .i64 i] w fun e w' => e = .returned (.int .i64 ((m + 2 * al.length : Nat) : Int)) ∧ Below w.heap.size w w' := by
  subst hi'
  exact heldAttrS_any al m w A c b o lo hi h1 h2 hA hh hal
theorem HeldOK.at {F : Fo} (h : HeldOK F) (i : Int) (m : Nat) (hi' : i = (m : Int)) (w : World) (A : Option Addr) (c b o lo hi : Nat) (h1 : 1 ≤ m) (h2 : m + F.cnt ≤ 1073741824) (hA : RowAt lo hi A F.len b o) (hh : hi ≤ w.heap.size) (hF : FoAt w lo hi b o (markFo F m)) :
    Calls Tryz.prog 18 #[.slice A F.len c, .int .i64 i] w fun e w' => e = .returned (.int .i64 ((m + F.cnt : Nat) : Int)) ∧ Below w.heap.size w w' := by
  subst hi'
  exact h m w A c b o lo hi h1 h2 hA hh hF
set_option maxHeartbeats 4000000 in
theorem heldNodeS_lt : ∀ (N : Nat) (F : Fo), F.nodes < N → HeldOK F := by
  intro N
  induction N with
  | zero => intro F hF; omega
  | succ N IH =>
  intro F hF m w A c b o lo hi h1 h2 hA hh hFo
  have hlen := hA.1
  unfold maxLen at hlen
  have HA := Lib.hid hA
  have HS := Lib.hid hFo
  have HF := Lib.hid hF
  have HI := Lib.hid IH
  clear hA hFo hF IH
  go_enter Tryz.func18, Tryz.ntmps18
  go_wp2
  go_loopw [1, 5] (fun x i wr => ∃ (k mm : Nat) (suf : Fo), x = .int .i64 (mm : Int) ∧ i = .int .i64 (k : Int) ∧ k + suf.len = F.len ∧ mm + suf.cnt = m + F.cnt ∧ 1 ≤ mm ∧ Hid (FoAt w lo hi b (o + k * 6) (markFo suf mm) ∧ Below w.heap.size w wr ∧ suf.nodes < N + 1)) (fun x i wr => F.len - (intOf i).toNat)
  case atStart => exact ⟨0, m, F, rfl, rfl, by omega, rfl, h1, Lib.hid ⟨by simpa using HS.out, Below.refl _ _, HF.out⟩⟩
  case round =>
    obtain ⟨k, mm, suf, rfl, rfl, hk, hmm, hm1, HH⟩ := hrel
    cases suf with
    | nil =>
      have hkl : k = F.len := by simpa [Fo.len] using hk
      have hml : mm = m + F.cnt := by simpa [Fo.cnt] using hmm
      clear hk hmm
      subst hkl
      subst hml
      go_wp2
      go_ret
      exact ⟨rfl, HH.out.2.1⟩
    | cons xk xs xn xt xa kids r =>
      obtain ⟨⟨⟨s0, s1, s2, s3, _, _⟩, ⟨A4, c4, b4, o4, s4, r4, a4⟩, ⟨A5, c5, b5, o5, s5, r5, a5⟩, sr⟩, hB, hT⟩ := HH.out
      rw [markAl_len] at s4 r4
      rw [markFo_len] at s5 r5
      simp only [Fo.len] at hk
      simp only [Fo.cnt] at hmm
      obtain ⟨rfl, hlo, hhi⟩ := HA.out.2 (by omega)
      have hkl : k < F.len := by omega
      have hb : b < w.heap.size := by omega
      have t0 := (hB.cell (p := ⟨b, o + k * 6, none⟩) hb).trans s0
      have t1 := (hB.cell (p := ⟨b, o + k * 6 + 1, none⟩) hb).trans s1
      have t2 := (hB.cell (p := ⟨b, o + k * 6 + 2, none⟩) hb).trans s2
      have e1 : (((mm + 1 : Nat) : Int) != (mm : Int) + 1) = false := by simp
      have HC := Lib.hid (And.intro s2 (And.intro s3 (And.intro s4 s5)))
      have H4 := Lib.hid (And.intro r4 a4)
      have H5 := Lib.hid (And.intro r5 a5)
      have HR := Lib.hid sr
      have HB := Lib.hid hB
      have HT : Hid (kids.nodes < N ∧ r.nodes < N + 1) := Lib.hid (by simp [Fo.nodes] at hT; omega)
      clear HH s0 s1 s2 s3 s4 s5 sr hB hT r4 a4 r5 a5
      go_wp2_with fail
      have hbr : b < wr.heap.size := Nat.lt_of_lt_of_le hb HB.out.size
      go_region_held3 (fun w' => w'.cell? ⟨b, o + k * 6 + 2, none⟩ = some (.string (markT (mm + 2)))) (first | exact u2 | go_keep) (first | (go_at_call 44; refine (markText_at (mm + 2) _ (by omega) (by omega) (by omega) _).mono ?_; rintro e w1 ⟨rfl, hB1⟩; have u2 := (hB1.cell (p := ⟨b, o + k * 6 + 2, none⟩) hbr).trans t2; have B1 := Lib.hid (HB.out.drew.trans (hB1.mono HB.out.size)); clear hB1))
      have hb1 : b < w1.heap.size := Nat.lt_of_lt_of_le hb B1.out.size
      have v3 := (B1.out.cell (p := ⟨b, o + k * 6 + 3, none⟩) hb).trans HC.out.2.1
      go_wp2_with fail
      go_region_held3 (fun w' => w'.cell? ⟨b, o + k * 6 + 3, none⟩ = some (.string (markT (mm + 3)))) (first | exact u3 | go_keep) (first | (go_at_call 44; refine (markText_at (mm + 3) _ (by omega) (by omega) (by omega) _).mono ?_; rintro e w2 ⟨rfl, hB2⟩; have u3 := (hB2.cell (p := ⟨b, o + k * 6 + 3, none⟩) hb1).trans v3; have B2 := Lib.hid (B1.out.drew.trans (hB2.mono B1.out.size)); clear hB2))
      have v4 := (B2.out.cell (p := ⟨b, o + k * 6 + 4, none⟩) hb).trans HC.out.2.2.1
      clear t0 t1 t2 v3 u2 u3 e1
      go_wp2_with fail
      refine (heldAttrS_at _ xa (mm + 4) (by omega) _ A4 c4 b4 o4 lo hi (by omega) (by omega) H4.out.1.2 (Nat.le_trans hh B2.out.size) (AsAt.but (al := markAl xa (mm + 4)) (by rw [markAl_len]; exact H4.out.1.2) H4.out.2 (But.of_below (C := No) B2.out) hh (fun _ h => False.elim h))).mono ?_
      rintro e w3 ⟨rfl, hB3⟩
      have B3 := Lib.hid (B2.out.trans (hB3.mono B2.out.size))
      have v5 := (B3.out.cell (p := ⟨b, o + k * 6 + 5, none⟩) hb).trans HC.out.2.2.2
      clear hB3 v4
      go_wp2_with fail
      refine ((HI.out kids HT.out.1).at _ (mm + 4 + 2 * xa.length) (by omega) _ A5 c5 b5 o5 lo hi (by omega) (by omega) H5.out.1.2 (Nat.le_trans hh B3.out.size) (FoAt.but (F := markFo kids (mm + 4 + 2 * xa.length)) (by rw [markFo_len]; exact H5.out.1.2) H5.out.2 (But.of_below (C := No) B3.out) hh (fun _ h => False.elim h))).mono ?_
      rintro e w4 ⟨rfl, hB4⟩
      have B4 := Lib.hid (B3.out.trans (hB4.mono B3.out.size))
      clear hB4 v5
      go_wp2_with fail
      go_roundw
      case rel => exact ⟨k + 1, mm + 4 + 2 * xa.length + kids.cnt, r, by go_num, by go_num, by omega, by omega, by omega, Lib.hid ⟨by rw [show o + (k + 1) * 6 = o + k * 6 + 6 by omega]; exact HR.out, B4.out, HT.out.2⟩⟩
      case measure => simp [intOf]; omega
theorem heldNodeS_any (F : Fo) : HeldOK F := heldNodeS_lt (F.nodes + 1) F (Nat.lt_succ_self _)
end Go.Proofs.YthdkkpbhijlpaaaGreat
namespace Go.Proofs.YthdkkpbhijlpaaaGreat
open Go.ChangeShapes Go.WideShapes Go.ChangeAt Go.RowKit Go.Deep

/-- a row of nodes within some blocks -/
structure KR (w : World) (A : Option Addr) (G : Fo) (bs : List Nat) (lo hi : Nat) : Prop where
  row : KRow w A G bs
  nd : bs.Nodup
  at' : ∀ k ∈ bs, lo ≤ k ∧ k < hi
  le : hi ≤ w.heap.size
  len : G.len ≤ maxLen
theorem KR.of {w : World} {B : Nat} {v : Value} {G : Fo} {bl : List Nat} (h : GRow w B v G bl) (hl : G.len ≤ maxLen) : ∃ A c bs, v = .slice A G.len c ∧ KR w A G bs B w.heap.size := by
  obtain ⟨A, c, bs, h1, _, h3, h4, h5⟩ := h.form
  exact ⟨A, c, bs, h1, h3, h4, h5, Nat.le_refl _, hl⟩
theorem KR.next {w w' : World} {A : Option Addr} {G : Fo} {bs : List Nat} {lo hi : Nat} (h : KR w A G bs lo hi) (hB : Below w.heap.size w w') : KR w' A G bs lo hi :=
  ⟨h.row.same fun k hk => hB.block k (by have := (h.at' k hk).2; have := h.le; omega), h.nd, h.at', Nat.le_trans h.le hB.size, h.len⟩
theorem KR.only {w w' : World} {A : Option Addr} {G : Fo} {bs cs : List Nat} {lo hi : Nat} (h : KR w A G bs lo hi) (hB : OnlyAt w w' cs) (hc : ∀ k ∈ cs, ¬ (lo ≤ k ∧ k < hi)) : KR w' A G bs lo hi :=
  ⟨h.row.same fun k hk => hB.block k (by have := (h.at' k hk).2; have := h.le; omega) (fun e => hc k e (h.at' k hk)), h.nd, h.at', Nat.le_trans h.le hB.size, h.len⟩
/-- as it is read -/
theorem KR.read {w : World} {A : Option Addr} {G : Fo} {bs : List Nat} {lo hi : Nat} (h : KR w A G bs lo hi) : ∃ b, RowAt lo hi A G.len b 0 ∧ FoAt w lo hi b 0 G := by
  rcases h.row with ⟨h0, hb⟩ | ⟨c, b', e1, e2, e3⟩
  · refine ⟨0, ⟨h.len, fun hp => by omega⟩, ?_⟩
    cases G with
    | nil => trivial
    | cons _ _ _ _ _ _ _ => simp [Fo.len] at h0
  · have hc := h.at' c (by rw [e2]; simp)
    exact ⟨c, ⟨h.len, fun _ => ⟨e1, hc.1, hc.2⟩⟩, e3.at fun k hk => h.at' k (by rw [e2]; simp [hk])⟩
theorem eqKR {w : World} {A A' : Option Addr} {c c' : Nat} {G : Fo} {bs bs' : List Nat} {lo hi lo' hi' : Nat} (h : KR w A G bs lo hi) (h' : KR w A' G bs' lo' hi') :
    Calls Tryz.prog 14 #[.slice A G.len c, .slice A' G.len c'] w fun e w' => e = .returned (.bool true) ∧ Below w.heap.size w w' := by
  obtain ⟨b, h1, h2⟩ := h.read
  obtain ⟨b', h1', h2'⟩ := h'.read
  exact eqNodeS_same G w A A' c c' b b' 0 0 lo hi lo' hi' h1 h1' h.le h'.le h2 h2'
theorem markKR {w : World} {A : Option Addr} {c : Nat} {G : Fo} {bs : List Nat} {lo hi : Nat} (h : KR w A G bs lo hi) (hc : 1 + G.cnt ≤ 1073741824) :
    Calls Tryz.prog 16 #[.slice A G.len c, .int .i64 1] w fun e w' => e = .returned (.int .i64 ((1 + G.cnt : Nat) : Int)) ∧ KR w' A (markFo G 1) bs lo hi ∧ OnlyAt w w' bs := by
  refine (markNodeS_any G 1 w A c bs (Nat.le_refl _) hc h.len h.row h.nd (fun k hk => by have := (h.at' k hk).2; have := h.le; omega)).mono ?_
  rintro e w' ⟨h1, h2, h3⟩
  exact ⟨h1, ⟨h2, h.nd, h.at', Nat.le_trans h.le h3.size, by rw [markFo_len]; exact h.len⟩, h3⟩
theorem heldKR {w : World} {A : Option Addr} {c : Nat} {G : Fo} {bs : List Nat} {lo hi : Nat} (h : KR w A (markFo G 1) bs lo hi) (hc : 1 + G.cnt ≤ 1073741824) :
    Calls Tryz.prog 18 #[.slice A G.len c, .int .i64 1] w fun e w' => e = .returned (.int .i64 ((1 + G.cnt : Nat) : Int)) ∧ Below w.heap.size w w' := by
  obtain ⟨b, h1, h2⟩ := h.read
  rw [markFo_len] at h1
  exact heldNodeS_any G 1 w A c b 0 lo hi (Nat.le_refl _) hc h1 h.le h2
end Go.Proofs.YthdkkpbhijlpaaaGreat
namespace Go.Proofs.YthdkkpbhijlpaaaGreat
open Go.ChangeShapes Go.WideShapes Go.ChangeAt Go.RowKit Go.Deep

/-- a row of its own comes back -/
def RowOut (G : Fo) (w : World) (e : Ending) (w' : World) : Prop := ∃ v bl, e = .returned v ∧ Below w.heap.size w w' ∧ GRow w' w.heap.size v G bl
def MakesOK (f : FuncId) (G : Fo → Fo) (F : Fo) : Prop := ∀ (w : World) (A : Option Addr) (c b o lo hi : Nat), F.small → F.len ≤ 1048576 → RowAt lo hi A F.len b o → hi ≤ w.heap.size → FoAt w lo hi b o F →
    Calls Tryz.prog f #[.slice A F.len c] w (RowOut (G F) w)
/-- a copied row of attributes, behind block g -/
def Cp (g : Nat) (w : World) (A : Option Addr) (ca : Nat) (al : List (ByteArray × ByteArray)) (ba : List Nat) : Prop := (al.length ≤ ca ∧ al.length ≤ maxLen ∧ AlRow w A al ba) ∧ ba.Nodup ∧ ∀ k ∈ ba, g < k ∧ k < w.heap.size
theorem Cp.of {g base : Nat} {w : World} {v : Value} {al : List (ByteArray × ByteArray)} (h : w.ownsRow base 121 2 v al.length (alVals al)) (hs : ∀ x ∈ al, x.1.size ≤ maxLen ∧ x.2.size ≤ maxLen) (hl : al.length ≤ maxLen) (hg : g < base) : ∃ A ca ba, v = .slice A al.length ca ∧ Cp g w A ca al ba := by
  obtain ⟨A, ca, ba, h1, h2, h3, h4, h5, _⟩ := arow_form h hs
  exact ⟨A, ca, ba, h1, ⟨h2, hl, h3⟩, h4, fun k hk => ⟨by have := (h5 k hk).1; omega, (h5 k hk).2⟩⟩
theorem Cp.next {g : Nat} {w w' : World} {A : Option Addr} {ca : Nat} {al : List (ByteArray × ByteArray)} {ba : List Nat} (h : Cp g w A ca al ba) (hB : Below w.heap.size w w') : Cp g w' A ca al ba :=
  ⟨⟨h.1.1, h.1.2.1, h.1.2.2.same fun k hk => hB.block k (h.2.2 k hk).2⟩, h.2.1, fun k hk => ⟨(h.2.2 k hk).1, Nat.lt_of_lt_of_le (h.2.2 k hk).2 hB.size⟩⟩
/-- a copied row of nodes, from M on -/
def Kp (M : Nat) (w : World) (K : Option Addr) (ck : Nat) (F : Fo) (bk : List Nat) : Prop := (F.len ≤ ck ∧ F.len ≤ maxLen ∧ KRow w K F bk) ∧ bk.Nodup ∧ ∀ k ∈ bk, M ≤ k ∧ k < w.heap.size
theorem Kp.of {M : Nat} {w : World} {v : Value} {F : Fo} {bl : List Nat} (h : GRow w M v F bl) (hm : F.len ≤ maxLen) : ∃ K ck bk, v = .slice K F.len ck ∧ Kp M w K ck F bk := by
  obtain ⟨K, ck, bk, h1, h2, h3, h4, h5⟩ := h.form
  exact ⟨K, ck, bk, h1, ⟨h2, hm, h3⟩, h4, h5⟩
theorem Kp.set {M g : Nat} {w : World} {K : Option Addr} {ck : Nat} {F : Fo} {bk : List Nat} (h : Kp M w K ck F bk) (hg : g < M) (j : Nat) (u : Value) : Kp M (w.setCell ⟨g, j, none⟩ u) K ck F bk :=
  ⟨⟨h.1.1, h.1.2.1, h.1.2.2.same fun k hk => Below.heap_setCell _ _ _ _ (by have := (h.2.2 k hk).1; show k ≠ g; omega)⟩, h.2.1, fun k hk => by rw [World.size_setCell]; exact h.2.2 k hk⟩
theorem lay6 {w : World} {g : Nat} {v0 v1 v2 v3 v4 v5 : Value} (h : Lay w g #[v0, v1, v2, v3, v4, v5]) : w.cell? ⟨g, 0, none⟩ = some v0 ∧ w.cell? ⟨g, 1, none⟩ = some v1 ∧ w.cell? ⟨g, 2, none⟩ = some v2 ∧ w.cell? ⟨g, 3, none⟩ = some v3 ∧ w.cell? ⟨g, 4, none⟩ = some v4 ∧ w.cell? ⟨g, 5, none⟩ = some v5 :=
  ⟨h.1 0, h.1 1, h.1 2, h.1 3, h.1 4, h.1 5⟩
end Go.Proofs.YthdkkpbhijlpaaaGreat
namespace Go.Proofs.YthdkkpbhijlpaaaGreat
open Go.ChangeShapes Go.WideShapes Go.ChangeAt Go.RowKit Go.Deep

/-- a row of one node, out of a literal -/
theorem GRow.litN {w : World} {base : Nat} {k sp : Int} {n t : ByteArray} {al : List (ByteArray × ByteArray)} {kids : Fo} {A K : Option Addr} {ca ck : Nat} {ba bk : List Nat} (hb : base ≤ w.heap.size) (hz : n.size ≤ maxLen ∧ t.size ≤ maxLen)
    (h4 : al.length ≤ ca ∧ al.length ≤ maxLen ∧ AlRow w A al ba) (h5 : kids.len ≤ ck ∧ kids.len ≤ maxLen ∧ KRow w K kids bk) (hn : (ba ++ bk).Nodup) (hl : ∀ q ∈ ba ++ bk, base ≤ q ∧ q < w.heap.size) :
    GRow (w.alloc (.cells #[.int .i64 k, .int .i64 sp, .string n, .string t, .slice A al.length ca, .slice K kids.len ck] 71)) base (.slice (some ⟨w.heap.size, 0, none⟩) 1 1) (.one k sp n t al kids) (ba ++ bk) := by
  have hk : ∀ q ∈ ba ++ bk, (w.alloc (.cells #[.int .i64 k, .int .i64 sp, .string n, .string t, .slice A al.length ca, .slice K kids.len ck] 71)).heap[q]? = w.heap[q]? := fun q hq => Below.heap_alloc w _ q (hl q hq).2
  refine ⟨_, World.ownsRow_lit w _ 1 hb (by decide) rfl, FoVals.same (F := .one k sp n t al kids) ⟨A, K, ca, ck, ba, bk, [], [], rfl, by simp, hz, h4, h5, rfl, rfl⟩ hk, hn, fun q hq => ⟨(hl q hq).1, by have := (hl q hq).2; simp; omega⟩, fun q hq hm => ?_⟩
  injection hq with hq
  subst hq
  exact absurd (hl _ hm).2 (Nat.lt_irrefl _)
set_option maxHeartbeats 4000000 in
set_option maxRecDepth 100000 in
theorem l08Node_text (X : Cf) (V : CfV) (sp : Int) (n t : ByteArray) (al : List (ByteArray × ByteArray)) (kids : Fo) (ca ck : Nat) (A K : Option Addr) (w : World) (ht : t.size ≤ maxLen) :
    Calls Tryz.prog 72 #[.agg #[.bool X.ha, .bool X.hb, .slice V.a1 X.al.length V.c1, .slice V.a2 X.rm.length V.c2, .slice V.a3 X.uw.length V.c3, .slice V.a4 X.at_.length V.c4, .slice V.a5 X.dp.length V.c5, .bool X.cm, .bool X.da], .agg #[.int .i64 2, .int .i64 sp, .string n, .string t, .slice A al.length ca, .slice K kids.len ck]] w (RowOut (.one 2 0 ⟨#[]⟩ t [] .nil) w) := by
  go_enter Tryz.func72, Tryz.ntmps72
  go_wp2
  go_ret
  have hg := GRow.litN (w := ((((w.alloc (.cells #[.bool X.ha, .bool X.hb, .slice V.a1 X.al.length V.c1, .slice V.a2 X.rm.length V.c2, .slice V.a3 X.uw.length V.c3, .slice V.a4 X.at_.length V.c4, .slice V.a5 X.dp.length V.c5, .bool X.cm, .bool X.da] 35)).alloc (.cells #[.int .i64 2, .int .i64 sp, .string n, .string t, .slice A al.length ca, .slice K kids.len ck] 71)).alloc (.cells #[] 121)).alloc (.cells #[] 71))) (base := w.heap.size) (k := 2) (sp := 0) (n := ⟨#[]⟩) (t := t) (al := []) (kids := .nil) (A := some ⟨w.heap.size + 1 + 1, 0, none⟩) (K := some ⟨w.heap.size + 1 + 1 + 1, 0, none⟩) (ca := 0) (ck := 0) (ba := []) (bk := []) (by simp; omega) ⟨Nat.zero_le _, ht⟩ ⟨Nat.le_refl _, Nat.zero_le _, Or.inl ⟨rfl, rfl⟩⟩ ⟨Nat.le_refl _, Nat.zero_le _, Or.inl ⟨rfl, rfl⟩⟩ List.nodup_nil (by simp)
  rw [show ((((w.alloc (.cells #[.bool X.ha, .bool X.hb, .slice V.a1 X.al.length V.c1, .slice V.a2 X.rm.length V.c2, .slice V.a3 X.uw.length V.c3, .slice V.a4 X.at_.length V.c4, .slice V.a5 X.dp.length V.c5, .bool X.cm, .bool X.da] 35)).alloc (.cells #[.int .i64 2, .int .i64 sp, .string n, .string t, .slice A al.length ca, .slice K kids.len ck] 71)).alloc (.cells #[] 121)).alloc (.cells #[] 71)).heap.size = w.heap.size + 1 + 1 + 1 + 1 by simp] at hg
  exact ⟨_, [], rfl, (((((Below.refl w.heap.size w).alloc (Nat.le_refl _) _).alloc (by simp) _).alloc (by simp; omega) _).alloc (by simp; omega) _).alloc (by simp; omega) _, hg⟩
set_option maxHeartbeats 4000000 in
set_option maxRecDepth 100000 in
theorem l08Node_com (X : Cf) (V : CfV) (sp : Int) (n t : ByteArray) (al : List (ByteArray × ByteArray)) (kids : Fo) (ca ck : Nat) (A K : Option Addr) (w : World) (ht2 : t.size ≤ 65536) :
    Calls Tryz.prog 72 #[.agg #[.bool X.ha, .bool X.hb, .slice V.a1 X.al.length V.c1, .slice V.a2 X.rm.length V.c2, .slice V.a3 X.uw.length V.c3, .slice V.a4 X.at_.length V.c4, .slice V.a5 X.dp.length V.c5, .bool X.cm, .bool X.da], .agg #[.int .i64 3, .int .i64 sp, .string n, .string t, .slice A al.length ca, .slice K kids.len ck]] w (RowOut (if (X.cm && commentIn t) = true then .one 3 0 ⟨#[]⟩ t [] .nil else .nil) w) := by
  have ht : t.size ≤ maxLen := by unfold maxLen; omega
  cases hc : X.cm with
  | false =>
    rw [show (false && commentIn t) = false from rfl, if_neg (by simp)]
    go_enter Tryz.func72, Tryz.ntmps72
    go_wp2
    go_ret
    have hg := GRow.lit (w := ((w.alloc (.cells #[.bool X.ha, .bool X.hb, .slice V.a1 X.al.length V.c1, .slice V.a2 X.rm.length V.c2, .slice V.a3 X.uw.length V.c3, .slice V.a4 X.at_.length V.c4, .slice V.a5 X.dp.length V.c5, .bool false, .bool X.da] 35)).alloc (.cells #[.int .i64 3, .int .i64 sp, .string n, .string t, .slice A al.length ca, .slice K kids.len ck] 71))) (base := w.heap.size) (by rw [World.size_alloc, World.size_alloc]; omega)
    rw [show ((w.alloc (.cells #[.bool X.ha, .bool X.hb, .slice V.a1 X.al.length V.c1, .slice V.a2 X.rm.length V.c2, .slice V.a3 X.uw.length V.c3, .slice V.a4 X.at_.length V.c4, .slice V.a5 X.dp.length V.c5, .bool false, .bool X.da] 35)).alloc (.cells #[.int .i64 3, .int .i64 sp, .string n, .string t, .slice A al.length ca, .slice K kids.len ck] 71)).heap.size = w.heap.size + 1 + 1 by simp] at hg
    exact ⟨_, [], rfl, (((Below.refl w.heap.size w).alloc (Nat.le_refl _) _).alloc (by simp) _).alloc (by simp; omega) _, hg⟩
  | true =>
    cases hq : commentIn t with
    | false =>
      have HQ := Lib.hid hq
      rw [if_neg (by simp)]
      go_enter Tryz.func72, Tryz.ntmps72
      go_wp2_with (go_at_call 96; refine (l02Comment_any t _ ht2).mono ?_; rintro e w' ⟨rfl, rfl⟩; rw [HQ.out])
      go_ret
      have hg := GRow.lit (w := ((w.alloc (.cells #[.bool X.ha, .bool X.hb, .slice V.a1 X.al.length V.c1, .slice V.a2 X.rm.length V.c2, .slice V.a3 X.uw.length V.c3, .slice V.a4 X.at_.length V.c4, .slice V.a5 X.dp.length V.c5, .bool true, .bool X.da] 35)).alloc (.cells #[.int .i64 3, .int .i64 sp, .string n, .string t, .slice A al.length ca, .slice K kids.len ck] 71))) (base := w.heap.size) (by rw [World.size_alloc, World.size_alloc]; omega)
      rw [show ((w.alloc (.cells #[.bool X.ha, .bool X.hb, .slice V.a1 X.al.length V.c1, .slice V.a2 X.rm.length V.c2, .slice V.a3 X.uw.length V.c3, .slice V.a4 X.at_.length V.c4, .slice V.a5 X.dp.length V.c5, .bool true, .bool X.da] 35)).alloc (.cells #[.int .i64 3, .int .i64 sp, .string n, .string t, .slice A al.length ca, .slice K kids.len ck] 71)).heap.size = w.heap.size + 1 + 1 by simp] at hg
      exact ⟨_, [], rfl, (((Below.refl w.heap.size w).alloc (Nat.le_refl _) _).alloc (by simp) _).alloc (by simp; omega) _, hg⟩
    | true =>
      have HQ := Lib.hid hq
      rw [if_pos (by simp)]
      go_enter Tryz.func72, Tryz.ntmps72
      go_wp2_with (go_at_call 96; refine (l02Comment_any t _ ht2).mono ?_; rintro e w' ⟨rfl, rfl⟩; rw [HQ.out])
      go_ret
      have hg := GRow.litN (w := ((((w.alloc (.cells #[.bool X.ha, .bool X.hb, .slice V.a1 X.al.length V.c1, .slice V.a2 X.rm.length V.c2, .slice V.a3 X.uw.length V.c3, .slice V.a4 X.at_.length V.c4, .slice V.a5 X.dp.length V.c5, .bool true, .bool X.da] 35)).alloc (.cells #[.int .i64 3, .int .i64 sp, .string n, .string t, .slice A al.length ca, .slice K kids.len ck] 71)).alloc (.cells #[] 121)).alloc (.cells #[] 71))) (base := w.heap.size) (k := 3) (sp := 0) (n := ⟨#[]⟩) (t := t) (al := []) (kids := .nil) (A := some ⟨w.heap.size + 1 + 1, 0, none⟩) (K := some ⟨w.heap.size + 1 + 1 + 1, 0, none⟩) (ca := 0) (ck := 0) (ba := []) (bk := []) (by simp; omega) ⟨Nat.zero_le _, ht⟩ ⟨Nat.le_refl _, Nat.zero_le _, Or.inl ⟨rfl, rfl⟩⟩ ⟨Nat.le_refl _, Nat.zero_le _, Or.inl ⟨rfl, rfl⟩⟩ List.nodup_nil (by simp)
      rw [show ((((w.alloc (.cells #[.bool X.ha, .bool X.hb, .slice V.a1 X.al.length V.c1, .slice V.a2 X.rm.length V.c2, .slice V.a3 X.uw.length V.c3, .slice V.a4 X.at_.length V.c4, .slice V.a5 X.dp.length V.c5, .bool true, .bool X.da] 35)).alloc (.cells #[.int .i64 3, .int .i64 sp, .string n, .string t, .slice A al.length ca, .slice K kids.len ck] 71)).alloc (.cells #[] 121)).alloc (.cells #[] 71)).heap.size = w.heap.size + 1 + 1 + 1 + 1 by simp] at hg
      exact ⟨_, [], rfl, (((((Below.refl w.heap.size w).alloc (Nat.le_refl _) _).alloc (by simp) _).alloc (by simp; omega) _).alloc (by simp; omega) _).alloc (by simp; omega) _, hg⟩
end Go.Proofs.YthdkkpbhijlpaaaGreat
