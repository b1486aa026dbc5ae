import Derived.Test.YthdkkpbhijlpaaaGreatProg
import Derived.WalkKit
import Derived.ProofKit
import Derived.Lib.Hide
import Derived.Below
import Derived.Shelf.Strings.BuilderK
import Derived.Laws.IdiomStrings
import Derived.Test.YthdkkpbhijlpaaaGreatS22
import Derived.Test.YthdkkpbhijlpaaaGreatS20
set_option linter.unusedVariables false
namespace Go.Proofs.YthdkkpbhijlpaaaGreat
open Go.ChangeShapes Go.WideShapes Go.ChangeAt Go.RowKit Go.Deep

def Fo.words : Fo → List UInt8
  | .nil => []
  | .cons k _ _ t _ kids rest => (if k = 2 then t.data.toList else []) ++ kids.words ++ rest.words
theorem Fo.words_le : ∀ F : Fo, F.words.length ≤ F.size
  | .nil => Nat.le_refl _
  | .cons k _ _ t _ kids rest => by
    have h1 := Fo.words_le kids
    have h2 := Fo.words_le rest
    have h3 : t.data.toList.length = t.size := Array.length_toList
    simp only [Fo.words, Fo.size, List.length_append]
    split
    · omega
    · simp; omega
theorem ba_ext {a b : ByteArray} (h : a.data.toList = b.data.toList) : a = b := by
  obtain ⟨⟨x⟩⟩ := a
  obtain ⟨⟨y⟩⟩ := b
  simp at h
  subst h
  rfl
def TextOK (F : Fo) : Prop := ∀ (w : World) (A : Option Addr) (c b o lo hi : Nat), F.nodes ≤ 1048576 → F.size ≤ 1048576 * 64 → hi ≤ w.heap.size → RowAt lo hi A F.len b o → FoAt w lo hi b o F →
    Calls Tryz.prog 157 #[.slice A F.len c] w fun e w' => e = .returned (.string ⟨F.words.toArray⟩) ∧ Below w.heap.size w w'
theorem l03Text_lt : ∀ (N : Nat) (F : Fo), F.nodes < N → TextOK F := by
  intro N
  induction N with
  | zero => intro F hF; omega
  | succ N IH =>
  intro F hF w A c b o lo hi hnd hsz hh hA hFo
  have hlen := hA.1
  unfold maxLen at hlen
  have hln := Fo.len_le_nodes F
  have HA := Lib.hid hA
  have HS := Lib.hid hFo
  have HF := Lib.hid hF
  have HI := Lib.hid IH
  clear hA hFo hF IH
  go_enter Tryz.func157, Tryz.ntmps157
  go_wp2
  go_loopw [3, 4] (fun x i wr => ∃ (k : Nat) (m : List UInt8) (suf : Fo), x = .string ⟨m.toArray⟩ ∧ i = .int .i64 (k : Int) ∧ k + suf.len = F.len ∧ Hid (FoAt w lo hi b (o + k * 6) suf ∧ Below w.heap.size w wr ∧ suf.nodes < N + 1 ∧ suf.nodes ≤ 1048576 ∧ suf.size ≤ 1048576 * 64 ∧ m.length + suf.size ≤ 1048576 * 64 ∧ m ++ suf.words = F.words)) (fun x i wr => F.len - (intOf i).toNat)
  case atStart => exact ⟨0, [], F, rfl, rfl, by omega, Lib.hid ⟨by simpa using HS.out, Below.refl _ _, HF.out, hnd, hsz, by simpa using hsz, rfl⟩⟩
  case round =>
    obtain ⟨k, m, suf, rfl, rfl, hk, HH⟩ := hrel
    cases suf with
    | nil =>
      have hkl : k = F.len := by simpa [Fo.len] using hk
      clear hk
      subst hkl
      go_wp2
      go_ret
      exact ⟨by rw [show F.words = m by have := HH.out.2.2.2.2.2.2; simpa [Fo.words] using this.symm]; rfl, HH.out.2.1⟩
    | cons xk xs xn xt xa kids r =>
      obtain ⟨⟨⟨s0, _, _, s3, _, _⟩, _, ⟨A5, c5, b5, o5, s5, r5, a5⟩, sr⟩, hB, hT1, hT2, hT3⟩ := HH.out
      obtain ⟨rfl, hlo, hhi⟩ := HA.out.2 (by simp [Fo.len] at hk; omega)
      have hkl : k < F.len := by simp [Fo.len] at hk; omega
      have hb : b < w.heap.size := by omega
      have t0 := (hB.cell (p := ⟨b, _, none⟩) hb).trans s0
      have t3 := (hB.cell (p := ⟨b, _, none⟩) hb).trans s3
      have t5 := (hB.cell (p := ⟨b, _, none⟩) hb).trans s5
      have HB := Lib.hid hB
      have HR := Lib.hid sr
      have H5 := Lib.hid a5
      have R5 := Lib.hid r5.2
      have HT := Lib.hid (And.intro hT1 (And.intro hT2 hT3))
      have hkn : kids.nodes ≤ 1048576 ∧ r.nodes ≤ 1048576 := by simp [Fo.nodes] at hT2; omega
      clear HH s0 s3 s5 sr hB hT1 hT2 hT3 a5 r5
      have hks : kids.size ≤ 1048576 * 64 ∧ r.size ≤ 1048576 * 64 ∧ m.length + xt.size + kids.size + r.size ≤ 1048576 * 64 := by have h1 := HT.out.2.2.2.1; simp [Fo.size] at h1; omega
      have hkw := Fo.words_le kids
      have hxt : xt.data.toList.length = xt.size := Array.length_toList
      by_cases h2 : xk = 2
      · subst h2
        have e1 : (⟨m.toArray⟩ : ByteArray) ++ xt = ⟨(m ++ xt.data.toList).toArray⟩ := ba_ext (by simp [ByteArray.data_append])
        have e2 : (⟨(m ++ xt.data.toList).toArray⟩ : ByteArray) ++ ⟨kids.words.toArray⟩ = ⟨(m ++ xt.data.toList ++ kids.words).toArray⟩ := ba_ext (by simp [ByteArray.data_append])
        have n1 : (⟨m.toArray⟩ : ByteArray).size = m.length := by simp [ByteArray.size]
        have n2 : (⟨(m ++ xt.data.toList).toArray⟩ : ByteArray).size = m.length + xt.size := by show (m ++ xt.data.toList).toArray.size = _; rw [List.size_toArray, List.length_append, hxt]
        have n3 : (⟨kids.words.toArray⟩ : ByteArray).size = kids.words.length := by simp [ByteArray.size]
        have a1 : ∀ W, (Op.stringOp .add ⟨m.toArray⟩ xt).run Tryz.prog W = .ok (.string ⟨(m ++ xt.data.toList).toArray⟩) W := fun W => by rw [run_string_add_sum W _ _ (by omega), e1]
        have a2 : ∀ W, (Op.stringOp .add ⟨(m ++ xt.data.toList).toArray⟩ ⟨kids.words.toArray⟩).run Tryz.prog W = .ok (.string ⟨(m ++ xt.data.toList ++ kids.words).toArray⟩) W := fun W => by rw [run_string_add_sum W _ _ (by omega), e2]
        have HL := Lib.hid (And.intro hks.2.2 hkw)
        clear e1 e2 n1 n2 n3 hkw
        have HXT := Lib.hid hxt
        clear hxt
        go_wp2_with (go_at_call 157; refine (HI.out kids (by have := HT.out.1; simp [Fo.nodes] at this; omega) _ A5 c5 b5 o5 lo hi hkn.1 hks.1 (Nat.le_trans hh HB.out.size) R5.out (H5.out.but R5.out (But.of_below (C := No) HB.out) hh (fun _ h => h.elim))).mono ?_; rintro e w2 ⟨rfl, hB2⟩; have KB := Lib.hid (HB.out.trans (hB2.mono HB.out.size)); clear hB2)
        go_roundw
        case rel => exact ⟨k + 1, m ++ (xt.data.toList ++ kids.words), r, rfl, by go_num, by simp [Fo.len] at hk; omega, Lib.hid ⟨by rw [show o + (k + 1) * 6 = o + k * 6 + 6 by omega]; exact HR.out, KB.out, by have := HT.out.1; simp [Fo.nodes] at this; omega, hkn.2, hks.2.1, by have := HL.out; have := HXT.out; simp only [List.length_append]; omega, by have := HT.out.2.2.2.2; rw [Fo.words, if_pos rfl] at this; simpa using this⟩⟩
        case measure => simp [intOf]; omega
      · have h2' : (xk == 2) = false := by simpa using h2
        have HX := Lib.hid h2
        have e2 : (⟨m.toArray⟩ : ByteArray) ++ ⟨kids.words.toArray⟩ = ⟨(m ++ kids.words).toArray⟩ := ba_ext (by simp [ByteArray.data_append])
        have n1 : (⟨m.toArray⟩ : ByteArray).size = m.length := by simp [ByteArray.size]
        have n3 : (⟨kids.words.toArray⟩ : ByteArray).size = kids.words.length := by simp [ByteArray.size]
        have a2 : ∀ W, (Op.stringOp .add ⟨m.toArray⟩ ⟨kids.words.toArray⟩).run Tryz.prog W = .ok (.string ⟨(m ++ kids.words).toArray⟩) W := fun W => by rw [run_string_add_sum W _ _ (by omega), e2]
        have HL := Lib.hid (And.intro hks.2.2 hkw)
        clear e2 n1 n3 hkw h2
        have HXT := Lib.hid hxt
        clear hxt
        go_wp2_with (go_at_call 157; refine (HI.out kids (by have := HT.out.1; simp [Fo.nodes] at this; omega) _ A5 c5 b5 o5 lo hi hkn.1 hks.1 (Nat.le_trans hh HB.out.size) R5.out (H5.out.but R5.out (But.of_below (C := No) HB.out) hh (fun _ h => h.elim))).mono ?_; rintro e w2 ⟨rfl, hB2⟩; have KB := Lib.hid (HB.out.trans (hB2.mono HB.out.size)); clear hB2)
        go_roundw
        case rel => exact ⟨k + 1, m ++ kids.words, r, rfl, by go_num, by simp [Fo.len] at hk; omega, Lib.hid ⟨by rw [show o + (k + 1) * 6 = o + k * 6 + 6 by omega]; exact HR.out, KB.out, by have := HT.out.1; simp [Fo.nodes] at this; omega, hkn.2, hks.2.1, by have := HL.out; simp only [List.length_append]; omega, by have := HT.out.2.2.2.2; rw [Fo.words, if_neg HX.out] at this; simpa using this⟩⟩
        case measure => simp [intOf]; omega
theorem l03Text_any (F : Fo) : TextOK F := l03Text_lt (F.nodes + 1) F (Nat.lt_succ_self _)
end Go.Proofs.YthdkkpbhijlpaaaGreat
