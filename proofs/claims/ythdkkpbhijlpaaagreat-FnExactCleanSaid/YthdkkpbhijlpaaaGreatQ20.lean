import Derived.Maps.AppendAt
import Derived.Test.YthdkkpbhijlpaaaGreatProg
import Derived.WalkKit
import Derived.ProofKit
import Derived.Lib.Hide
import Derived.Below
import Derived.Shelf.Strings.BuilderK
import Derived.Laws.IdiomStrings
import Derived.Test.YthdkkpbhijlpaaaGreatQ19
set_option linter.unusedVariables false
namespace Go.Proofs.YthdkkpbhijlpaaaGreat
open Go.ChangeShapes Go.WideShapes Go.ChangeAt Go.RowKit Go.Deep

/-- the values of a row of nodes, and the rows that they lead to -/
def FoVals (w : World) : List Value → Fo → List Nat → Prop
  | xs, .nil, bl => xs = [] ∧ bl = []
  | xs, .cons k sp n t al kids rest, bl => ∃ (A K : Option Addr) (ca ck : Nat) (ba bk br : List Nat) (xr : List Value), xs = .int .i64 k :: .int .i64 sp :: .string n :: .string t :: .slice A al.length ca :: .slice K kids.len ck :: xr ∧ bl = ba ++ bk ++ br ∧
    (n.size ≤ maxLen ∧ t.size ≤ maxLen) ∧ (al.length ≤ ca ∧ al.length ≤ maxLen ∧ AlRow w A al ba) ∧ (kids.len ≤ ck ∧ kids.len ≤ maxLen ∧ KRow w K kids bk) ∧ FoVals w xr rest br
theorem FoVals.same {w w' : World} : ∀ {F : Fo} {xs : List Value} {bl : List Nat}, FoVals w xs F bl → (∀ k ∈ bl, w'.heap[k]? = w.heap[k]?) → FoVals w' xs F bl
  | .nil, _, _, h, _ => h
  | .cons k sp n t al kids rest, xs, bl, ⟨A, K, ca, ck, ba, bk, br, xr, hx, hbl, hz, ⟨h4, m4, r4⟩, ⟨h5, m5, r5⟩, hr⟩, hb => by
    subst hbl
    exact ⟨A, K, ca, ck, ba, bk, br, xr, hx, rfl, hz, ⟨h4, m4, r4.same fun k hk => hb k (by simp [hk])⟩, ⟨h5, m5, r5.same fun k hk => hb k (by simp [hk])⟩, hr.same fun k hk => hb k (by simp [hk])⟩
theorem FoVals.len {w : World} : ∀ {F : Fo} {xs : List Value} {bl : List Nat}, FoVals w xs F bl → xs.length = F.len * 6
  | .nil, _, _, h => by rw [h.1]; rfl
  | .cons k sp n t al kids rest, xs, bl, ⟨A, K, ca, ck, ba, bk, br, xr, hx, _, _, _, _, hr⟩ => by
    rw [hx]; simp only [List.length_cons, hr.len, Fo.len]; omega
theorem FoVals.app {w : World} : ∀ {P S : Fo} {xs ys : List Value} {b1 b2 : List Nat}, FoVals w xs P b1 → FoVals w ys S b2 → FoVals w (xs ++ ys) (P.app S) (b1 ++ b2)
  | .nil, S, xs, ys, b1, b2, h, h2 => by obtain ⟨rfl, rfl⟩ := h; simpa [Fo.app] using h2
  | .cons k sp n t al kids rest, S, xs, ys, b1, b2, ⟨A, K, ca, ck, ba, bk, br, xr, hx, hbl, hz, h4, h5, hr⟩, h2 => by
    subst hx hbl
    exact ⟨A, K, ca, ck, ba, bk, br ++ b2, xr ++ ys, rfl, by simp [List.append_assoc], hz, h4, h5, hr.app h2⟩
theorem FoVals.lay {w : World} {g : Nat} : ∀ {F : Fo} {xs : List Value} {bl : List Nat} {o : Nat}, FoVals w xs F bl → (∀ j (h : j < xs.length), CellW w g (o + j) xs[j]) → FoLay w g o F bl
  | .nil, _, _, _, h, _ => h.2
  | .cons k sp n t al kids rest, xs, bl, o, ⟨A, K, ca, ck, ba, bk, br, xr, hx, hbl, hz, ⟨h4, m4, r4⟩, ⟨h5, m5, r5⟩, hr⟩, hc => by
    subst hx
    refine ⟨A, K, ca, ck, ba, bk, br, hbl, ⟨hc 0 (by simp), hc 1 (by simp), hc 2 (by simp), hc 3 (by simp), hz.1, hz.2⟩, ⟨hc 4 (by simp), h4, m4, r4⟩, ⟨hc 5 (by simp), h5, m5, r5⟩, hr.lay fun j hj => ?_⟩
    have := hc (j + 6) (by simp; omega)
    rw [show o + 6 + j = o + (j + 6) by omega]
    simpa using this
/-- a row of nodes of one's own, from base on, that may grow -/
def GRow (w : World) (base : Nat) (v : Value) (F : Fo) (bl : List Nat) : Prop :=
  ∃ xs, w.ownsRow base 71 6 v F.len xs ∧ FoVals w xs F bl ∧ bl.Nodup ∧ (∀ k ∈ bl, base ≤ k ∧ k < w.heap.size) ∧ ∀ k, v.ownBlock = some k → k ∉ bl
theorem GRow.nil (w : World) (base : Nat) : GRow w base (.slice none 0 0) .nil [] :=
  ⟨[], World.ownsRow_nil _ _ _ _, ⟨rfl, rfl⟩, List.nodup_nil, by simp, by simp⟩
theorem GRow.form {w : World} {base : Nat} {v : Value} {F : Fo} {bl : List Nat} (h : GRow w base v F bl) : ∃ A c bs, v = .slice A F.len c ∧ F.len ≤ c ∧ KRow w A F bs ∧ bs.Nodup ∧ ∀ k ∈ bs, base ≤ k ∧ k < w.heap.size := by
  obtain ⟨xs, ho, hv, hn, hb, hg⟩ := h
  have hc := fun g hg => World.ownsRow.cells ho (g := g) hg
  obtain ⟨hl, ho⟩ := ho
  rcases ho with ⟨rfl, h0⟩ | ⟨g, cap, cur, rfl, hbs, hblk, hle, _, _, _⟩
  · exact ⟨none, 0, [], by rw [h0], by omega, Or.inl ⟨h0, rfl⟩, List.nodup_nil, by simp⟩
  · refine ⟨_, cap, g :: bl, rfl, hle, Or.inr ⟨g, bl, rfl, rfl, hv.lay fun j hj => ⟨?_, ?_⟩⟩, List.nodup_cons.2 ⟨hg g rfl, hn⟩, fun k hk => ?_⟩
    · have := hc g rfl j xs[j] (by simp [hj])
      rw [Addr.add_lit, Nat.zero_add] at this
      rw [Nat.zero_add]
      exact this
    · simp [World.frozen?, hblk]
    · rcases List.mem_cons.1 hk with rfl | hk
      · exact ⟨hbs, (Array.getElem?_eq_some_iff.1 hblk).1⟩
      · exact hb k hk
/-- behind the append of a node -/
theorem grow_push {w w1 : World} {base : Nat} {v v' : Value} {F : Fo} {bl : List Nat} {xs : List Value} {k sp : Int} {n t : ByteArray} {al : List (ByteArray × ByteArray)} {kids : Fo} {A K : Option Addr} {ca ck : Nat} {ba bk : List Nat}
    (hv : FoVals w xs F bl) (hb : ∀ k ∈ bl ++ (ba ++ bk), base ≤ k ∧ k < w.heap.size) (hn : (bl ++ (ba ++ bk)).Nodup) (hg : ∀ k, v.ownBlock = some k → k ∉ bl ++ (ba ++ bk))
    (hz : n.size ≤ maxLen ∧ t.size ≤ maxLen) (h4 : al.length ≤ ca ∧ al.length ≤ maxLen ∧ AlRow w A al ba) (h5 : kids.len ≤ ck ∧ kids.len ≤ maxLen ∧ KRow w K kids bk)
    (hown : w1.ownsRow base 71 6 v' (F.len + 1) (xs ++ [.int .i64 k, .int .i64 sp, .string n, .string t, .slice A al.length ca, .slice K kids.len ck]))
    (hkeep : ∀ k, k < w.heap.size → v.ownBlock ≠ some k → w1.heap[k]? = w.heap[k]?) (hsz : w.heap.size ≤ w1.heap.size) (hat : v'.ownBlock = v.ownBlock ∨ ∃ q, v'.ownBlock = some q ∧ w.heap.size ≤ q) :
    GRow w1 base v' (F.app (.one k sp n t al kids)) (bl ++ (ba ++ bk)) := by
  have hk : ∀ q ∈ bl ++ (ba ++ bk), w1.heap[q]? = w.heap[q]? := fun q hq => hkeep q (hb q hq).2 fun e => hg q e hq
  refine ⟨_, by rw [Fo.len_app]; exact hown, (hv.app (S := .one k sp n t al kids) (b2 := ba ++ bk) ⟨A, K, ca, ck, ba, bk, [], [], rfl, by simp, hz, h4, h5, rfl, rfl⟩).same hk, hn, fun q hq => ⟨(hb q hq).1, Nat.lt_of_lt_of_le (hb q hq).2 hsz⟩, fun q hq hm => ?_⟩
  rcases hat with e | ⟨r, e, hr⟩
  · exact hg q (by rw [← e]; exact hq) hm
  · rw [e] at hq
    injection hq with hq
    have := (hb q hm).2
    omega
/-- the values of a row of attributes -/
def alVals : List (ByteArray × ByteArray) → List Value
  | [] => []
  | x :: r => .string x.1 :: .string x.2 :: alVals r
theorem alVals_len : ∀ al : List (ByteArray × ByteArray), (alVals al).length = al.length * 2
  | [] => rfl
  | _ :: r => by simp only [alVals, List.length_cons, alVals_len r]; omega
theorem alLay_of {w : World} {a : Nat} : ∀ {al : List (ByteArray × ByteArray)} {o : Nat}, (∀ x ∈ al, x.1.size ≤ maxLen ∧ x.2.size ≤ maxLen) → (∀ j (h : j < (alVals al).length), CellW w a (o + j) (alVals al)[j]) → AlLay w a o al
  | [], _, _, _ => trivial
  | x :: r, o, hs, hc => by
    have e := hs x (by simp)
    refine ⟨hc 0 (by simp [alVals]), hc 1 (by simp [alVals]), e.1, e.2, alLay_of (fun y hy => hs y (by simp [hy])) fun j hj => ?_⟩
    have := hc (j + 2) (by simp [alVals]; omega)
    rw [show o + 2 + j = o + (j + 2) by omega]
    simpa [alVals] using this
theorem arow_form {w : World} {base : Nat} {v : Value} {al : List (ByteArray × ByteArray)} (h : w.ownsRow base 121 2 v al.length (alVals al)) (hs : ∀ x ∈ al, x.1.size ≤ maxLen ∧ x.2.size ≤ maxLen) :
    ∃ A c ba, v = .slice A al.length c ∧ al.length ≤ c ∧ AlRow w A al ba ∧ ba.Nodup ∧ (∀ k ∈ ba, base ≤ k ∧ k < w.heap.size) ∧ ∀ k ∈ ba, v.ownBlock = some k := by
  have hc := fun g hg => World.ownsRow.cells h (g := g) hg
  obtain ⟨hl, ho⟩ := h
  rcases ho with ⟨rfl, h0⟩ | ⟨g, cap, cur, rfl, hbs, hblk, hle, _, _, _⟩
  · exact ⟨none, 0, [], by rw [h0], by omega, Or.inl ⟨List.length_eq_zero_iff.1 h0, rfl⟩, List.nodup_nil, by simp, by simp⟩
  · refine ⟨_, cap, [g], rfl, hle, Or.inr ⟨g, rfl, rfl, alLay_of hs fun j hj => ⟨?_, ?_⟩⟩, by simp, fun k hk => ?_, fun k hk => ?_⟩
    · have := hc g rfl j (alVals al)[j] (by simp [hj])
      rw [Addr.add_lit, Nat.zero_add] at this
      rw [Nat.zero_add]
      exact this
    · simp [World.frozen?, hblk]
    · rw [List.mem_singleton.1 hk]
      exact ⟨hbs, (Array.getElem?_eq_some_iff.1 hblk).1⟩
    · rw [List.mem_singleton.1 hk]; rfl
end Go.Proofs.YthdkkpbhijlpaaaGreat
namespace Go.Proofs.YthdkkpbhijlpaaaGreat
open Go.ChangeShapes Go.WideShapes Go.ChangeAt Go.RowKit Go.Deep

def Fo.words : Fo → List UInt8
  | .nil => []
  | .cons k _ _ t _ kids rest => (if k = 2 then t.data.toList else []) ++ kids.words ++ rest.words
theorem Fo.words_le : ∀ F : Fo, F.words.length ≤ F.size
  | .nil => Nat.le_refl _
  | .cons k _ _ t _ kids rest => by
    have h1 := Fo.words_le kids
    have h2 := Fo.words_le rest
    have h3 : t.data.toList.length = t.size := Array.length_toList
    simp only [Fo.words, Fo.size, List.length_append]
    split
    · omega
    · simp; omega
theorem ba_ext {a b : ByteArray} (h : a.data.toList = b.data.toList) : a = b := by
  obtain ⟨⟨x⟩⟩ := a
  obtain ⟨⟨y⟩⟩ := b
  simp at h
  subst h
  rfl
def TextOK (F : Fo) : Prop := ∀ (w : World) (A : Option Addr) (c b o lo hi : Nat), F.nodes ≤ 1048576 → F.size ≤ 1048576 * 64 → hi ≤ w.heap.size → RowAt lo hi A F.len b o → FoAt w lo hi b o F →
    Calls Tryz.prog 157 #[.slice A F.len c] w fun e w' => e = .returned (.string ⟨F.words.toArray⟩) ∧ Below w.heap.size w w'
theorem l03Text_lt : ∀ (N : Nat) (F : Fo), F.nodes < N → TextOK F := by
  intro N
  induction N with
  | zero => intro F hF; omega
  | succ N IH =>
  intro F hF w A c b o lo hi hnd hsz hh hA hFo
  have hlen := hA.1
  unfold maxLen at hlen
  have hln := Fo.len_le_nodes F
  have HA := Lib.hid hA
  have HS := Lib.hid hFo
  have HF := Lib.hid hF
  have HI := Lib.hid IH
  clear hA hFo hF IH
  go_enter Tryz.func157, Tryz.ntmps157
  go_wp2
  go_loopw [3, 4] (fun x i wr => ∃ (k : Nat) (m : List UInt8) (suf : Fo), x = .string ⟨m.toArray⟩ ∧ i = .int .i64 (k : Int) ∧ k + suf.len = F.len ∧ Hid (FoAt w lo hi b (o + k * 6) suf ∧ Below w.heap.size w wr ∧ suf.nodes < N + 1 ∧ suf.nodes ≤ 1048576 ∧ suf.size ≤ 1048576 * 64 ∧ m.length + suf.size ≤ 1048576 * 64 ∧ m ++ suf.words = F.words)) (fun x i wr => F.len - (intOf i).toNat)
  case atStart => exact ⟨0, [], F, rfl, rfl, by omega, Lib.hid ⟨by simpa using HS.out, Below.refl _ _, HF.out, hnd, hsz, by simpa using hsz, rfl⟩⟩
  case round =>
    obtain ⟨k, m, suf, rfl, rfl, hk, HH⟩ := hrel
    cases suf with
    | nil =>
      have hkl : k = F.len := by simpa [Fo.len] using hk
      clear hk
      subst hkl
      go_wp2
      go_ret
      exact ⟨by rw [show F.words = m by have := HH.out.2.2.2.2.2.2; simpa [Fo.words] using this.symm]; rfl, HH.out.2.1⟩
    | cons xk xs xn xt xa kids r =>
      obtain ⟨⟨⟨s0, _, _, s3, _, _⟩, _, ⟨A5, c5, b5, o5, s5, r5, a5⟩, sr⟩, hB, hT1, hT2, hT3⟩ := HH.out
      obtain ⟨rfl, hlo, hhi⟩ := HA.out.2 (by simp [Fo.len] at hk; omega)
      have hkl : k < F.len := by simp [Fo.len] at hk; omega
      have hb : b < w.heap.size := by omega
      have t0 := (hB.cell (p := ⟨b, _, none⟩) hb).trans s0
      have t3 := (hB.cell (p := ⟨b, _, none⟩) hb).trans s3
      have t5 := (hB.cell (p := ⟨b, _, none⟩) hb).trans s5
      have HB := Lib.hid hB
      have HR := Lib.hid sr
      have H5 := Lib.hid a5
      have R5 := Lib.hid r5.2
      have HT := Lib.hid (And.intro hT1 (And.intro hT2 hT3))
      have hkn : kids.nodes ≤ 1048576 ∧ r.nodes ≤ 1048576 := by simp [Fo.nodes] at hT2; omega
      clear HH s0 s3 s5 sr hB hT1 hT2 hT3 a5 r5
      have hks : kids.size ≤ 1048576 * 64 ∧ r.size ≤ 1048576 * 64 ∧ m.length + xt.size + kids.size + r.size ≤ 1048576 * 64 := by have h1 := HT.out.2.2.2.1; simp [Fo.size] at h1; omega
      have hkw := Fo.words_le kids
      have hxt : xt.data.toList.length = xt.size := Array.length_toList
      by_cases h2 : xk = 2
      · subst h2
        have e1 : (⟨m.toArray⟩ : ByteArray) ++ xt = ⟨(m ++ xt.data.toList).toArray⟩ := ba_ext (by simp [ByteArray.data_append])
        have e2 : (⟨(m ++ xt.data.toList).toArray⟩ : ByteArray) ++ ⟨kids.words.toArray⟩ = ⟨(m ++ xt.data.toList ++ kids.words).toArray⟩ := ba_ext (by simp [ByteArray.data_append])
        have n1 : (⟨m.toArray⟩ : ByteArray).size = m.length := by simp [ByteArray.size]
        have n2 : (⟨(m ++ xt.data.toList).toArray⟩ : ByteArray).size = m.length + xt.size := by show (m ++ xt.data.toList).toArray.size = _; rw [List.size_toArray, List.length_append, hxt]
        have n3 : (⟨kids.words.toArray⟩ : ByteArray).size = kids.words.length := by simp [ByteArray.size]
        have a1 : ∀ W, (Op.stringOp .add ⟨m.toArray⟩ xt).run Tryz.prog W = .ok (.string ⟨(m ++ xt.data.toList).toArray⟩) W := fun W => by rw [run_string_add_sum W _ _ (by omega), e1]
        have a2 : ∀ W, (Op.stringOp .add ⟨(m ++ xt.data.toList).toArray⟩ ⟨kids.words.toArray⟩).run Tryz.prog W = .ok (.string ⟨(m ++ xt.data.toList ++ kids.words).toArray⟩) W := fun W => by rw [run_string_add_sum W _ _ (by omega), e2]
        have HL := Lib.hid (And.intro hks.2.2 hkw)
        clear e1 e2 n1 n2 n3 hkw
        have HXT := Lib.hid hxt
        clear hxt
        go_wp2_with (go_at_call 157; refine (HI.out kids (by have := HT.out.1; simp [Fo.nodes] at this; omega) _ A5 c5 b5 o5 lo hi hkn.1 hks.1 (Nat.le_trans hh HB.out.size) R5.out (H5.out.but R5.out (But.of_below (C := No) HB.out) hh (fun _ h => h.elim))).mono ?_; rintro e w2 ⟨rfl, hB2⟩; have KB := Lib.hid (HB.out.trans (hB2.mono HB.out.size)); clear hB2)
        go_roundw
        case rel => exact ⟨k + 1, m ++ (xt.data.toList ++ kids.words), r, rfl, by go_num, by simp [Fo.len] at hk; omega, Lib.hid ⟨by rw [show o + (k + 1) * 6 = o + k * 6 + 6 by omega]; exact HR.out, KB.out, by have := HT.out.1; simp [Fo.nodes] at this; omega, hkn.2, hks.2.1, by have := HL.out; have := HXT.out; simp only [List.length_append]; omega, by have := HT.out.2.2.2.2; rw [Fo.words, if_pos rfl] at this; simpa using this⟩⟩
        case measure => simp [intOf]; omega
      · have h2' : (xk == 2) = false := by simpa using h2
        have HX := Lib.hid h2
        have e2 : (⟨m.toArray⟩ : ByteArray) ++ ⟨kids.words.toArray⟩ = ⟨(m ++ kids.words).toArray⟩ := ba_ext (by simp [ByteArray.data_append])
        have n1 : (⟨m.toArray⟩ : ByteArray).size = m.length := by simp [ByteArray.size]
        have n3 : (⟨kids.words.toArray⟩ : ByteArray).size = kids.words.length := by simp [ByteArray.size]
        have a2 : ∀ W, (Op.stringOp .add ⟨m.toArray⟩ ⟨kids.words.toArray⟩).run Tryz.prog W = .ok (.string ⟨(m ++ kids.words).toArray⟩) W := fun W => by rw [run_string_add_sum W _ _ (by omega), e2]
        have HL := Lib.hid (And.intro hks.2.2 hkw)
        clear e2 n1 n3 hkw h2
        have HXT := Lib.hid hxt
        clear hxt
        go_wp2_with (go_at_call 157; refine (HI.out kids (by have := HT.out.1; simp [Fo.nodes] at this; omega) _ A5 c5 b5 o5 lo hi hkn.1 hks.1 (Nat.le_trans hh HB.out.size) R5.out (H5.out.but R5.out (But.of_below (C := No) HB.out) hh (fun _ h => h.elim))).mono ?_; rintro e w2 ⟨rfl, hB2⟩; have KB := Lib.hid (HB.out.trans (hB2.mono HB.out.size)); clear hB2)
        go_roundw
        case rel => exact ⟨k + 1, m ++ kids.words, r, rfl, by go_num, by simp [Fo.len] at hk; omega, Lib.hid ⟨by rw [show o + (k + 1) * 6 = o + k * 6 + 6 by omega]; exact HR.out, KB.out, by have := HT.out.1; simp [Fo.nodes] at this; omega, hkn.2, hks.2.1, by have := HL.out; simp only [List.length_append]; omega, by have := HT.out.2.2.2.2; rw [Fo.words, if_neg HX.out] at this; simpa using this⟩⟩
        case measure => simp [intOf]; omega
theorem l03Text_any (F : Fo) : TextOK F := l03Text_lt (F.nodes + 1) F (Nat.lt_succ_self _)
end Go.Proofs.YthdkkpbhijlpaaaGreat
