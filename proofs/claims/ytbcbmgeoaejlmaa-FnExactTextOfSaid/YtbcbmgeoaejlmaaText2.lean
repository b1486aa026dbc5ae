
import Derived.Test.YtbcbmgeoaejlmaaText
import Derived.Laws.IdiomStrings
namespace Go.Proofs.Ytbcbmgeoaejlmaa
open Go.ChangeShapes Go.WideShapes Go.ChangeAt Go.RowKit Go.Deep

noncomputable def outS (F : Fo) : ByteArray := if faultOf F = 0 then ⟨F.words.toArray⟩ else ⟨#[]⟩
noncomputable def outT (F : Fo) : Value := .tuple #[.string (outS F), .int .i64 (faultOf F)]
theorem outT_eq (F : Fo) : outT F = .tuple #[.string (outS F), .int .i64 (faultOf F)] := rfl
theorem outT_ok {F : Fo} (h : faultOf F = 0) : outT F = .tuple #[.string ⟨F.words.toArray⟩, .int .i64 0] := by rw [outT, outS, if_pos h, h]
theorem outT_bad {F : Fo} (h : ¬ faultOf F = 0) : outT F = .tuple #[.string ⟨#[]⟩, .int .i64 (faultOf F)] := by rw [outT, outS, if_neg h]
theorem ba_ext {a b : ByteArray} (h : a.data.toList = b.data.toList) : a = b := by
  obtain ⟨⟨x⟩⟩ := a
  obtain ⟨⟨y⟩⟩ := b
  simp at h
  subst h
  rfl
theorem text_new (w : World) (hi : Nat) (hh : hi ≤ w.heap.size) : TextAt w.heap.size hi [] (fun k => k = w.heap.size) (w.alloc (.cells #[.pointer Option.none, .slice Option.none 0 0] 123)) := by
  have hb : (w.alloc (.cells #[.pointer Option.none, .slice Option.none 0 0] 123)).heap[w.heap.size]? = some (.cells #[.pointer Option.none, .slice Option.none 0 0] 123 (0, 0)) := by
    show (w.heap.push _)[w.heap.size]? = _
    simp
  refine ⟨hh, Or.inl ⟨Nat.le_refl _, _, hb, World.ownsRowF_nil _ _ _ _, by simp [Value.ownBlock]⟩, fun k => ⟨fun e => Or.inl e, ?_⟩⟩
  rintro (e | ⟨a, b⟩)
  · exact e
  · have := b.lt
    simp at this
    omega

theorem implTextOf_any (F : Fo) (w : World) (A : Option Addr) (c b o lo hi : Nat) (hd : F.nodes ≤ 1048576) (hs : F.size ≤ 1048576 * 64) (hh : hi ≤ w.heap.size) (hA : RowAt lo hi A F.len b o) (hF : FoAt w lo hi b o F) :
    Calls Try.prog 53 #[.slice A F.len c] w fun e w' => e = .returned (outT F) ∧ Below w.heap.size w w' := by
  have hmf : ∀ (fn : Fn) (first cap : Array Value) (w : World), (Instr.makeFunc fn first cap).run Try.prog w = .ok (.func fn first cap) w := fun _ _ _ _ => rfl
  have HA := Lib.hid hA
  have HF := Lib.hid hF
  clear hA hF
  by_cases hk : faultOf F = 0
  · have HK := Lib.hid hk
    clear hk
    go_enter Try.func53, Try.ntmps53
    go_wp2_with (go_at_call 86; refine (treeFault_any F _ A c b o lo hi hd hh HA.out HF.out).mono ?_; rintro e w1 ⟨rfl, hB⟩; rw [HK.out]; have B1 := Lib.hid hB; clear hB)
    refine (walkAll_any 109 #[.pointer (some ⟨w1.heap.size, 0, none⟩)] lo hi okText stText (TextAt w1.heap.size hi) (visText w1.heap.size lo hi) (enters_of Try.func109 (by kernel_rfl) rfl) F [] (fun k => k = w1.heap.size) _ A c b o hd (ok_text F [] [] (by simpa using hs)) (text_new w1 hi (Nat.le_trans hh B1.out.size)) ?_ HA.out ?_).mono ?_
    · have := B1.out.size; simp; omega
    · exact HF.out.but HA.out ((But.of_below (C := No) B1.out).alloc _) hh (fun _ h => h.elim)
    · rintro e w2 ⟨D, rfl, i1, b1, d1⟩
      rw [trav_text, List.nil_append] at i1
      have B2 := Lib.hid (B1.out.trans ((((Below.refl w1.heap.size w1).alloc (Nat.le_refl _) _).trans (b1.below (B := w1.heap.size) (fun k hk => by rw [hk]; exact Nat.le_refl _) (by simp))).mono B1.out.size))
      have HI := Lib.hid i1
      clear i1 b1 d1
      go_wp2_with (go_at_call 111; refine (string_any w1.heap.size w1.heap.size F.words _ HI.out.2.1 (Nat.le_of_lt HI.out.2.1.lt)).mono ?_; rintro e w3 ⟨rfl, h1, hB, hK⟩; have B3 := Lib.hid (B2.out.trans (hB.mono B1.out.size)); clear h1 hB hK)
      go_ret2
      exact ⟨by rw [outT_ok HK.out]; rfl, B3.out⟩
  · have HK := Lib.hid (outT_bad hk)
    have hk' : (faultOf F != 0) = true := by simpa using hk
    clear hk
    go_enter Try.func53, Try.ntmps53
    go_wp2_with (go_at_call 86; refine (treeFault_any F _ A c b o lo hi hd hh HA.out HF.out).mono ?_; rintro e w1 ⟨rfl, hB⟩; have B1 := Lib.hid hB; clear hB)
    go_ret2
    exact ⟨by rw [HK.out]; rfl, B1.out⟩

def TextOK (F : Fo) : Prop := ∀ (w : World) (A : Option Addr) (c b o lo hi : Nat), F.nodes ≤ 1048576 → F.size ≤ 1048576 * 64 → hi ≤ w.heap.size → RowAt lo hi A F.len b o → FoAt w lo hi b o F →
    Calls Try.prog 108 #[.slice A F.len c] w fun e w' => e = .returned (.string ⟨F.words.toArray⟩) ∧ Below w.heap.size w w'
theorem l03Text_lt : ∀ (N : Nat) (F : Fo), F.nodes < N → TextOK F := by
  intro N
  induction N with
  | zero => intro F hF; omega
  | succ N IH =>
  intro F hF w A c b o lo hi hnd hsz hh hA hFo
  have hlen := hA.1
  unfold maxLen at hlen
  have hln := Fo.len_le_nodes F
  have HA := Lib.hid hA
  have HS := Lib.hid hFo
  have HF := Lib.hid hF
  have HI := Lib.hid IH
  clear hA hFo hF IH
  go_enter Try.func108, Try.ntmps108
  go_wp2
  go_loopw [3, 4] (fun x i wr => ∃ (k : Nat) (m : List UInt8) (suf : Fo), x = .string ⟨m.toArray⟩ ∧ i = .int .i64 (k : Int) ∧ k + suf.len = F.len ∧ Hid (FoAt w lo hi b (o + k * 6) suf ∧ Below w.heap.size w wr ∧ suf.nodes < N + 1 ∧ suf.nodes ≤ 1048576 ∧ suf.size ≤ 1048576 * 64 ∧ m.length + suf.size ≤ 1048576 * 64 ∧ m ++ suf.words = F.words)) (fun x i wr => F.len - (intOf i).toNat)
  case atStart => exact ⟨0, [], F, rfl, rfl, by omega, Lib.hid ⟨by simpa using HS.out, Below.refl _ _, HF.out, hnd, hsz, by simpa using hsz, rfl⟩⟩
  case round =>
    obtain ⟨k, m, suf, rfl, rfl, hk, HH⟩ := hrel
    cases suf with
    | nil =>
      have hkl : k = F.len := by simpa [Fo.len] using hk
      clear hk
      subst hkl
      go_wp2
      go_ret
      exact ⟨by rw [show F.words = m by have := HH.out.2.2.2.2.2.2; simpa [Fo.words] using this.symm]; rfl, HH.out.2.1⟩
    | cons xk xs xn xt xa kids r =>
      obtain ⟨⟨⟨s0, _, _, s3, _, _⟩, _, ⟨A5, c5, b5, o5, s5, r5, a5⟩, sr⟩, hB, hT1, hT2, hT3⟩ := HH.out
      obtain ⟨rfl, hlo, hhi⟩ := HA.out.2 (by simp [Fo.len] at hk; omega)
      have hkl : k < F.len := by simp [Fo.len] at hk; omega
      have hb : b < w.heap.size := by omega
      have t0 := (hB.cell (p := ⟨b, _, none⟩) hb).trans s0
      have t3 := (hB.cell (p := ⟨b, _, none⟩) hb).trans s3
      have t5 := (hB.cell (p := ⟨b, _, none⟩) hb).trans s5
      have HB := Lib.hid hB
      have HR := Lib.hid sr
      have H5 := Lib.hid a5
      have R5 := Lib.hid r5.2
      have HT := Lib.hid (And.intro hT1 (And.intro hT2 hT3))
      have hkn : kids.nodes ≤ 1048576 ∧ r.nodes ≤ 1048576 := by simp [Fo.nodes] at hT2; omega
      clear HH s0 s3 s5 sr hB hT1 hT2 hT3 a5 r5
      have hks : kids.size ≤ 1048576 * 64 ∧ r.size ≤ 1048576 * 64 ∧ m.length + xt.size + kids.size + r.size ≤ 1048576 * 64 := by have h1 := HT.out.2.2.2.1; simp [Fo.size] at h1; omega
      have hkw := Fo.words_le kids
      have hxt : xt.data.toList.length = xt.size := Array.length_toList
      by_cases h2 : xk = 2
      · subst h2
        have e1 : (⟨m.toArray⟩ : ByteArray) ++ xt = ⟨(m ++ xt.data.toList).toArray⟩ := ba_ext (by simp [ByteArray.data_append])
        have e2 : (⟨(m ++ xt.data.toList).toArray⟩ : ByteArray) ++ ⟨kids.words.toArray⟩ = ⟨(m ++ xt.data.toList ++ kids.words).toArray⟩ := ba_ext (by simp [ByteArray.data_append])
        have n1 : (⟨m.toArray⟩ : ByteArray).size = m.length := by simp [ByteArray.size]
        have n2 : (⟨(m ++ xt.data.toList).toArray⟩ : ByteArray).size = m.length + xt.size := by show (m ++ xt.data.toList).toArray.size = _; rw [List.size_toArray, List.length_append, hxt]
        have n3 : (⟨kids.words.toArray⟩ : ByteArray).size = kids.words.length := by simp [ByteArray.size]
        have a1 : ∀ W, (Op.stringOp .add ⟨m.toArray⟩ xt).run Try.prog W = .ok (.string ⟨(m ++ xt.data.toList).toArray⟩) W := fun W => by rw [run_string_add_sum W _ _ (by omega), e1]
        have a2 : ∀ W, (Op.stringOp .add ⟨(m ++ xt.data.toList).toArray⟩ ⟨kids.words.toArray⟩).run Try.prog W = .ok (.string ⟨(m ++ xt.data.toList ++ kids.words).toArray⟩) W := fun W => by rw [run_string_add_sum W _ _ (by omega), e2]
        have HL := Lib.hid (And.intro hks.2.2 hkw)
        clear e1 e2 n1 n2 n3 hkw
        have HXT := Lib.hid hxt
        clear hxt
        go_wp2_with (go_at_call 108; refine (HI.out kids (by have := HT.out.1; simp [Fo.nodes] at this; omega) _ A5 c5 b5 o5 lo hi hkn.1 hks.1 (Nat.le_trans hh HB.out.size) R5.out (H5.out.but R5.out (But.of_below (C := No) HB.out) hh (fun _ h => h.elim))).mono ?_; rintro e w2 ⟨rfl, hB2⟩; have KB := Lib.hid (HB.out.trans (hB2.mono HB.out.size)); clear hB2)
        go_roundw
        case rel => exact ⟨k + 1, m ++ (xt.data.toList ++ kids.words), r, rfl, by go_num, by simp [Fo.len] at hk; omega, Lib.hid ⟨by rw [show o + (k + 1) * 6 = o + k * 6 + 6 by omega]; exact HR.out, KB.out, by have := HT.out.1; simp [Fo.nodes] at this; omega, hkn.2, hks.2.1, by have := HL.out; have := HXT.out; simp only [List.length_append]; omega, by have := HT.out.2.2.2.2; rw [Fo.words, if_pos rfl] at this; simpa using this⟩⟩
        case measure => simp [intOf]; omega
      · have h2' : (xk == 2) = false := by simpa using h2
        have HX := Lib.hid h2
        have e2 : (⟨m.toArray⟩ : ByteArray) ++ ⟨kids.words.toArray⟩ = ⟨(m ++ kids.words).toArray⟩ := ba_ext (by simp [ByteArray.data_append])
        have n1 : (⟨m.toArray⟩ : ByteArray).size = m.length := by simp [ByteArray.size]
        have n3 : (⟨kids.words.toArray⟩ : ByteArray).size = kids.words.length := by simp [ByteArray.size]
        have a2 : ∀ W, (Op.stringOp .add ⟨m.toArray⟩ ⟨kids.words.toArray⟩).run Try.prog W = .ok (.string ⟨(m ++ kids.words).toArray⟩) W := fun W => by rw [run_string_add_sum W _ _ (by omega), e2]
        have HL := Lib.hid (And.intro hks.2.2 hkw)
        clear e2 n1 n3 hkw h2
        have HXT := Lib.hid hxt
        clear hxt
        go_wp2_with (go_at_call 108; refine (HI.out kids (by have := HT.out.1; simp [Fo.nodes] at this; omega) _ A5 c5 b5 o5 lo hi hkn.1 hks.1 (Nat.le_trans hh HB.out.size) R5.out (H5.out.but R5.out (But.of_below (C := No) HB.out) hh (fun _ h => h.elim))).mono ?_; rintro e w2 ⟨rfl, hB2⟩; have KB := Lib.hid (HB.out.trans (hB2.mono HB.out.size)); clear hB2)
        go_roundw
        case rel => exact ⟨k + 1, m ++ kids.words, r, rfl, by go_num, by simp [Fo.len] at hk; omega, Lib.hid ⟨by rw [show o + (k + 1) * 6 = o + k * 6 + 6 by omega]; exact HR.out, KB.out, by have := HT.out.1; simp [Fo.nodes] at this; omega, hkn.2, hks.2.1, by have := HL.out; simp only [List.length_append]; omega, by have := HT.out.2.2.2.2; rw [Fo.words, if_neg HX.out] at this; simpa using this⟩⟩
        case measure => simp [intOf]; omega
theorem l03Text_any (F : Fo) : TextOK F := l03Text_lt (F.nodes + 1) F (Nat.lt_succ_self _)

theorem specTextOf_any (F : Fo) (w : World) (A : Option Addr) (c b o lo hi : Nat) (hd : F.nodes ≤ 1048576) (hs : F.size ≤ 1048576 * 64) (hh : hi ≤ w.heap.size) (hA : RowAt lo hi A F.len b o) (hF : FoAt w lo hi b o F) :
    Calls Try.prog 52 #[.slice A F.len c] w fun e w' => e = .returned (outT F) ∧ Below w.heap.size w w' := by
  have hln := Fo.len_le_nodes F
  have HA := Lib.hid hA
  have HF := Lib.hid hF
  clear hA hF
  by_cases hl : F.len ≤ 4096
  · by_cases hk : faultOf F = 0
    · have HK := Lib.hid hk
      clear hk
      go_enter Try.func52, Try.ntmps52
      go_wp2_with (first
        | (go_at_call 84; refine (l03Ask_any F _ A c b o lo hi hd hh HA.out HF.out).mono ?_; rintro e w1 ⟨rfl, hB⟩; rw [HK.out]; have B1 := Lib.hid hB; clear hB)
        | (go_at_call 108; refine (l03Text_any F _ A c b o lo hi hd hs (Nat.le_trans hh B1.out.size) HA.out (HF.out.but HA.out (But.of_below (C := No) B1.out) hh (fun _ h => h.elim))).mono ?_; rintro e w2 ⟨rfl, hB⟩; have B2 := Lib.hid (B1.out.trans (hB.mono B1.out.size)); clear hB))
      go_ret2
      exact ⟨by rw [outT_ok HK.out]; rfl, B2.out⟩
    · have HK := Lib.hid (outT_bad hk)
      have hk' : (faultOf F != 0) = true := by simpa using hk
      clear hk
      go_enter Try.func52, Try.ntmps52
      go_wp2_with (go_at_call 84; refine (l03Ask_any F _ A c b o lo hi hd hh HA.out HF.out).mono ?_; rintro e w1 ⟨rfl, hB⟩; have B1 := Lib.hid hB; clear hB)
      go_ret2
      exact ⟨by rw [HK.out]; rfl, B1.out⟩
  · have hl' : (F.len : Int) > 4096 := by omega
    have HK := Lib.hid (show outT F = .tuple #[.string ⟨#[]⟩, .int .i64 2] by rw [outT_bad (by rw [fault_long hl]; decide), fault_long hl])
    go_enter Try.func52, Try.ntmps52
    go_wp2
    go_ret2
    exact ⟨by rw [HK.out]; rfl, Below.refl _ _⟩
end Go.Proofs.Ytbcbmgeoaejlmaa
