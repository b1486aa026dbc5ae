
import Derived.Test.YtbcbmgeoaejlmaaSRow
import Derived.Test.YtbcbmgeoaejlmaaText2
import Derived.Maps.AppendAt
namespace Go.Proofs.Ytbcbmgeoaejlmaa
open Go.ChangeShapes Go.WideShapes Go.ChangeAt Go.RowKit Go.Deep

theorem infoStr : (Try.prog.info? 9).map (fun i => (i.zero, i.size, i.bytes)) = some (some (.string ⟨#[]⟩), 1, 16) := by kernel_rfl
/-- a row of texts, from base on, that may grow -/
def NRow (w : World) (base : Nat) (v : Value) (l : List ByteArray) : Prop := w.ownsRow base 9 1 v l.length (l.map Value.string)
theorem NRow.form {w : World} {base : Nat} {v : Value} {l : List ByteArray} (h : NRow w base v l) : ∃ A c bs, v = .slice A l.length c ∧ StrRow w A l bs ∧ ∀ k ∈ bs, base ≤ k ∧ k < w.heap.size := by
  have hc := fun g hg => World.ownsRow.cells h (g := g) hg
  obtain ⟨hl, h⟩ := h
  rcases h with ⟨rfl, h0⟩ | ⟨g, cap, cur, rfl, hb, hg, hn, hm, hs, ht⟩
  · exact ⟨none, 0, [], by rw [h0], Or.inl ⟨List.length_eq_zero_iff.1 h0, rfl⟩, by simp⟩
  · refine ⟨_, cap, [g], rfl, Or.inr ⟨g, rfl, rfl, fun k hk => ⟨?_, ?_⟩⟩, fun k hk => ?_⟩
    · have := hc g rfl k (.string l[k]) (by simp [hk])
      rw [Addr.add_lit, Nat.zero_add] at this
      exact this
    · simp [World.frozen?, hg]
    · rw [List.mem_singleton.1 hk]
      exact ⟨hb, (Array.getElem?_eq_some_iff.1 hg).1⟩
def stepN (k : Int) (n : ByteArray) (l : List ByteArray) : List ByteArray := if k = 1 ∧ hasN l n = false then l ++ [n] else l
def Fo.names : Fo → List ByteArray → List ByteArray
  | .nil, l => l
  | .cons k _ n _ _ kids rest, l => rest.names (kids.names (stepN k n l))
theorem stepN_le (k : Int) (n : ByteArray) (l : List ByteArray) : (stepN k n l).length ≤ l.length + 1 := by unfold stepN; split <;> simp
theorem Fo.names_le : ∀ (F : Fo) (l : List ByteArray), (F.names l).length ≤ l.length + F.nodes
  | .nil, l => Nat.le_refl _
  | .cons k sp n t al kids rest, l => by
    have h1 := Fo.names_le rest (kids.names (stepN k n l))
    have h2 := Fo.names_le kids (stepN k n l)
    have h3 := stepN_le k n l
    simp only [Fo.names, Fo.nodes]
    omega
theorem But.of_belowB {B : Nat} {w w' : World} (h : Below B w w') : But (fun k => B ≤ k) w w' := ⟨h.os, h.tape, h.output, h.size, fun k _ hC => h.block k (Nat.lt_of_not_le hC)⟩

def NamesOK (F : Fo) : Prop := ∀ (w : World) (A : Option Addr) (c b o lo hi base : Nat) (v : Value) (l : List ByteArray), F.nodes + l.length ≤ 2097152 → hi ≤ base → base ≤ w.heap.size → RowAt lo hi A F.len b o → FoAt w lo hi b o F → NRow w base v l →
    Calls Try.prog 102 #[.slice A F.len c, v] w fun e w' => ∃ v', e = .returned v' ∧ NRow w' base v' (F.names l) ∧ Below base w w'
set_option maxHeartbeats 1000000 in
set_option maxRecDepth 100000 in
theorem l03Names_lt : ∀ (N : Nat) (F : Fo), F.nodes < N → NamesOK F := by
  intro N
  induction N with
  | zero => intro F hF; omega
  | succ N IH =>
  intro F hF w A c b o lo hi base v l hnd hh hbw hA hFo hv
  obtain ⟨i0, hi0, hz0, hz1, hz2⟩ := info_parts infoStr
  have hlen := hA.1
  unfold maxLen at hlen
  have HA := Lib.hid hA
  have HS := Lib.hid hFo
  have HF := Lib.hid hF
  have HI := Lib.hid IH
  have HV := Lib.hid hv
  clear hA hFo hF IH hv
  go_enter Try.func102, Try.ntmps102
  go_wp2
  go_loopw [1, 5] (fun x i wr => ∃ (k : Nat) (l' : List ByteArray) (suf : Fo), i = .int .i64 (k : Int) ∧ k + suf.len = F.len ∧ Hid (NRow wr base x l' ∧ FoAt w lo hi b (o + k * 6) suf ∧ Below base w wr ∧ suf.nodes < N + 1 ∧ suf.nodes + l'.length ≤ 2097152 ∧ suf.names l' = F.names l)) (fun x i wr => F.len - (intOf i).toNat)
  case atStart => exact ⟨0, l, F, rfl, by omega, Lib.hid ⟨HV.out, by simpa using HS.out, Below.refl _ _, HF.out, hnd, rfl⟩⟩
  case round =>
    obtain ⟨k, l', suf, rfl, hk, HH⟩ := hrel
    cases suf with
    | nil =>
      have hkl : k = F.len := by simpa [Fo.len] using hk
      clear hk
      subst hkl
      go_wp2
      go_ret
      obtain ⟨i1, i2, i3, _, _, i6⟩ := HH.out
      exact ⟨_, rfl, by rw [← i6]; exact i1, i3⟩
    | cons xk xs xn xt xa kids r =>
      obtain ⟨hN, ⟨⟨s0, _, s2, _, z2, _⟩, _, ⟨A5, c5, b5, o5, s5, r5, a5⟩, sr⟩, hB, hT1, hT2, hT3⟩ := HH.out
      obtain ⟨rfl, hlo, hhi⟩ := HA.out.2 (by simp [Fo.len] at hk; omega)
      have hkl : k < F.len := by simp [Fo.len] at hk; omega
      have hb : b < base := by omega
      have t0 := (hB.cell (p := ⟨b, _, none⟩) hb).trans s0
      have t2 := (hB.cell (p := ⟨b, _, none⟩) hb).trans s2
      have t5 := (hB.cell (p := ⟨b, _, none⟩) hb).trans s5
      obtain ⟨Av, cv, bv, rfl, hrow, hbv⟩ := hN.form
      have HR := Lib.hid sr
      have H5 := Lib.hid a5
      have R5 := Lib.hid r5.2
      have HW := Lib.hid hrow
      have HN := Lib.hid hN
      have HB := Lib.hid hB
      have hl' : l'.length ≤ 2097152 := by omega
      have hkn : kids.nodes < N ∧ r.nodes < N + 1 := by simp [Fo.nodes] at hT1; omega
      have hT4 : kids.nodes + r.nodes + 1 + l'.length ≤ 2097152 := by simp [Fo.nodes] at hT2; omega
      have HT := Lib.hid (And.intro hkn (And.intro hT4 hT3))
      have hbs := hB.size
      have hbr : base ≤ wr.heap.size := by omega
      clear HH s0 s2 s5 sr hB hT1 hT2 hT3 a5 r5 hrow hbv z2 hkn hT4 hbs hN
      by_cases h1 : xk = 1
      · subst h1
        cases hq : hasN l' xn with
        | true =>
          have HP := Lib.hid hq
          have HQ := Lib.hid (show stepN 1 xn l' = l' by simp [stepN, hq])
          clear hq
          go_wp2_with (first | (go_at_call 125; refine (l01HasN_any l' xn _ Av cv bv (by omega) HW.out).mono ?_; rintro e w1 ⟨rfl, rfl⟩; rw [HP.out]) | (go_at_call 102; go_loud (refine (HI.out kids HT.out.1.1 _ A5 c5 b5 o5 lo hi base _ l' (by have := HT.out.2.1; (try simp only [List.length_append, List.length_singleton]); omega) hh (by have := HB.out.size; omega) R5.out (H5.out.but R5.out (But.of_belowB HB.out) (Nat.le_trans hh hbw) (fun _ h => Nat.le_trans hh h)) HN.out).mono ?_; rintro e w2 ⟨v', rfl, hn2, hB2⟩; have HN2 := Lib.hid hn2; have HB2 := Lib.hid (HB.out.trans hB2); clear hn2 hB2)))
          go_roundw
          case rel => exact ⟨k + 1, kids.names l', r, by go_num, by simp [Fo.len] at hk; omega, Lib.hid ⟨HN2.out, by rw [show o + (k + 1) * 6 = o + k * 6 + 6 by omega]; exact HR.out, HB2.out, HT.out.1.2, by have := HT.out.2.1; have := Fo.names_le kids l'; (try simp only [List.length_append, List.length_singleton] at *); omega, by have := HT.out.2.2; rw [Fo.names, HQ.out] at this; exact this⟩⟩
          case measure => simp [intOf]; omega
        | false =>
          have HP := Lib.hid hq
          have HQ := Lib.hid (show stepN 1 xn l' = l' ++ [xn] by simp [stepN, hq])
          clear hq
          go_wp2_with (first | (go_at_call 125; refine (l01HasN_any l' xn _ Av cv bv (by omega) HW.out).mono ?_; rintro e w1 ⟨rfl, rfl⟩; rw [HP.out]) | (at_builtin; refine wpList_append_own_at _ rfl _ _ 23 rfl base 9 i0 (.string ⟨#[]⟩) 1 16 Try.underlying23 hi0 hz0 hz1 hz2 rfl (by decide) _ _ _ rfl (HN.out.alloc _) ⟨wr.heap.size, 0, none⟩ 1 1 [.string xn] rfl rfl (cell_one_new _ _ _) (by intro u hu; simp at hu; subst hu; rfl) (by unfold maxLen; omega) (by omega) (by simp; omega) ?_; intro v1 w1 hown1 hgrow1 _ _; have hBr := (Below.refl base wr).grown ((World.grownBy_alloc wr _ _).trans hgrow1) hbr (fun q hq => (World.ownsRow.lt HN.out q hq).1); have u5 := (hBr.cell (p := ⟨b, o + k * 6 + 5, none⟩) hb).trans t5; have HN1 : Hid (NRow w1 base v1 (l' ++ [xn])) := Lib.hid (by simpa [NRow] using hown1); have HB1 := Lib.hid (HB.out.trans hBr); clear hown1 hgrow1 hBr) | (go_at_call 102; go_loud (refine (HI.out kids HT.out.1.1 _ A5 c5 b5 o5 lo hi base _ (l' ++ [xn]) (by have := HT.out.2.1; (try simp only [List.length_append, List.length_singleton]); omega) hh (by have := HB1.out.size; omega) R5.out (H5.out.but R5.out (But.of_belowB HB1.out) (Nat.le_trans hh hbw) (fun _ h => Nat.le_trans hh h)) HN1.out).mono ?_; rintro e w2 ⟨v', rfl, hn2, hB2⟩; have HN2 := Lib.hid hn2; have HB2 := Lib.hid (HB1.out.trans hB2); clear hn2 hB2)))
          go_roundw
          case rel => exact ⟨k + 1, kids.names (l' ++ [xn]), r, by go_num, by simp [Fo.len] at hk; omega, Lib.hid ⟨HN2.out, by rw [show o + (k + 1) * 6 = o + k * 6 + 6 by omega]; exact HR.out, HB2.out, HT.out.1.2, by have := HT.out.2.1; have := Fo.names_le kids (l' ++ [xn]); (try simp only [List.length_append, List.length_singleton] at *); omega, by have := HT.out.2.2; rw [Fo.names, HQ.out] at this; exact this⟩⟩
          case measure => simp [intOf]; omega
      · have hk1 : (xk == 1) = false := by simpa using h1
        have HQ := Lib.hid (show stepN xk xn l' = l' by simp [stepN, h1])
        clear h1
        go_wp2_with (go_at_call 102; go_loud (refine (HI.out kids HT.out.1.1 _ A5 c5 b5 o5 lo hi base _ l' (by have := HT.out.2.1; (try simp only [List.length_append, List.length_singleton]); omega) hh (by have := HB.out.size; omega) R5.out (H5.out.but R5.out (But.of_belowB HB.out) (Nat.le_trans hh hbw) (fun _ h => Nat.le_trans hh h)) HN.out).mono ?_; rintro e w2 ⟨v', rfl, hn2, hB2⟩; have HN2 := Lib.hid hn2; have HB2 := Lib.hid (HB.out.trans hB2); clear hn2 hB2))
        go_roundw
        case rel => exact ⟨k + 1, kids.names l', r, by go_num, by simp [Fo.len] at hk; omega, Lib.hid ⟨HN2.out, by rw [show o + (k + 1) * 6 = o + k * 6 + 6 by omega]; exact HR.out, HB2.out, HT.out.1.2, by have := HT.out.2.1; have := Fo.names_le kids l'; (try simp only [List.length_append, List.length_singleton] at *); omega, by have := HT.out.2.2; rw [Fo.names, HQ.out] at this; exact this⟩⟩
        case measure => simp [intOf]; omega
theorem l03Names_any (F : Fo) : NamesOK F := l03Names_lt (F.nodes + 1) F (Nat.lt_succ_self _)
end Go.Proofs.Ytbcbmgeoaejlmaa
