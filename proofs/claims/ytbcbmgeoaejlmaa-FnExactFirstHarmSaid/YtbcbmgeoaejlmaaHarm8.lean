
import Derived.Test.YtbcbmgeoaejlmaaHarm7
namespace Go.Proofs.Ytbcbmgeoaejlmaa
open Go.ChangeShapes Go.WideShapes Go.ChangeAt Go.RowKit Go.Deep

/-- the path of the first that p tells, behind l -/
def pathF (p : Nd → Fo → Bool) : Fo → List Int → Nat → Option (List Int)
  | .nil, _, _ => none
  | .cons k sp n t al kids rest, l, j =>
    if p ⟨k, sp, n, t, al⟩ kids = true then some (l ++ [(j : Int)])
    else match pathF p kids (l ++ [(j : Int)]) 0 with
      | some r => some r
      | none => pathF p rest l (j + 1)
theorem pathF_first (p : Nd → Fo → Bool) : ∀ (F : Fo) (ch : List NP) (j : Nat), pathF p F (placesOf ch) j = (firstF p F ch j).map placesOf
  | .nil, _, _ => rfl
  | .cons k sp n t al kids rest, ch, j => by
    rw [pathF, firstF]
    by_cases hp : p ⟨k, sp, n, t, al⟩ kids = true
    · simp [hp, placesOf]
    · rw [if_neg hp, if_neg hp, show placesOf ch ++ [(j : Int)] = placesOf ((⟨k, sp, n, t, al⟩, j, kids) :: ch) from rfl, pathF_first p kids]
      cases firstF p kids ((⟨k, sp, n, t, al⟩, j, kids) :: ch) 0 with
      | some c => rfl
      | none => exact pathF_first p rest ch (j + 1)

/-- numbers in block g -/
def PthIn (w : World) (g : Nat) (l : List Int) : Prop := g < w.heap.size ∧ ∀ k (h : k < l.length), w.cell? ⟨g, k, none⟩ = some (.int .i64 l[k])
theorem PthIn.next {w w' : World} {g : Nat} {l : List Int} (h : PthIn w g l) (hB : Below w.heap.size w w') : PthIn w' g l :=
  ⟨Nat.lt_of_lt_of_le h.1 hB.size, fun k hk => (hB.cell (p := ⟨g, k, none⟩) h.1).trans (h.2 k hk)⟩

theorem IRow.pth {w : World} {base : Nat} {v : Value} {l : List Int} (h : IRow w base v l) (hne : l ≠ []) : ∃ g cap, v = .slice (some ⟨g, 0, none⟩) l.length cap ∧ PthIn w g l := by
  have hc := fun g hg => World.ownsRow.cells h (g := g) hg
  obtain ⟨hl, h⟩ := h
  rcases h with ⟨rfl, h0⟩ | ⟨g, cap, cur, rfl, hb, hg, hn, hm, hs, ht⟩
  · exact absurd (List.length_eq_zero_iff.1 h0) hne
  · refine ⟨g, cap, rfl, (Array.getElem?_eq_some_iff.1 hg).1, fun k hk => ?_⟩
    have := hc g rfl k (.int .i64 l[k]) (by simp [hk])
    rw [Addr.add_lit, Nat.zero_add] at this
    exact this
theorem IRow.made (w : World) (B : Nat) (hB : B ≤ w.heap.size) : IRow (w.alloc (.cells #[] 3)) B (.slice (some ⟨w.heap.size, 0, none⟩) 0 0) [] :=
  World.ownsRow_made w #[] 0 hB (Nat.zero_le _) rfl
theorem IRow.belowB {w w' : World} {base : Nat} {v : Value} {l : List Int} (h : IRow w base v l) (hB : Below w.heap.size w w') : IRow w' base v l := by
  obtain ⟨h1, h2⟩ := h
  refine ⟨h1, ?_⟩
  rcases h2 with h2 | ⟨g, cap, cur, hv, hg, hh, r⟩
  · exact Or.inl h2
  · exact Or.inr ⟨g, cap, cur, hv, hg, (hB.block g (Array.getElem?_eq_some_iff.1 hh).1).trans hh, r⟩
theorem wpList_append_ints {ops : Array Oper} {rest : List Oper} {o : Oper} {a : Act} {Q : Exit → Act → World → Prop} {w : World} (hgd : o.guard = none) (s y : Operand)
    (ho : o.op = .call { callee := .builtin .append, args := #[s, y], argTypes := #[51, 51] })
    (base : Nat) (v : Value) (l : List Int) (hs : a.eval s = v) (h0 : IRow w base v l) (g c : Nat) (news : List Int) (hy : a.eval y = .slice (some ⟨g, 0, none⟩) news.length c) (hl : l.length + news.length ≤ 2097152) (hb : base ≤ w.heap.size)
    (hx : ∀ k (h : k < news.length), w.cell? ⟨g, k, none⟩ = some (.int .i64 news[k]))
    (h : ∀ v' w', IRow w' base v' (l ++ news) → Below base w w' → wpList Try.prog ops Q rest (a.put o.dst v') w') : wpList Try.prog ops Q (o :: rest) a w := by
  obtain ⟨i0, hi0, hz0, hz1, hz2⟩ := info_parts infoInt
  refine wpList_append_own_at (P := Try.prog) w hgd s y 51 ho base 3 i0 (.int .i64 0) 1 8 Try.underlying51 hi0 hz0 hz1 hz2 rfl (by decide) v l.length (l.map (Value.int .i64)) hs h0 ⟨g, 0, none⟩ news.length c (news.map (Value.int .i64)) hy (by simp) ?_ (by intro u hu; simp at hu; obtain ⟨z, _, rfl⟩ := hu; rfl) (by unfold maxLen; omega) (by omega) hb ?_
  · intro j u hu
    simp only [List.getElem?_map, Option.map_eq_some_iff] at hu
    obtain ⟨z, hz, rfl⟩ := hu
    rw [List.getElem?_eq_some_iff] at hz
    obtain ⟨hj, rfl⟩ := hz
    rw [Addr.add_lit, Nat.zero_add]
    exact hx j hj
  · intro v' w' h2 h3 _ _
    exact h v' w' (by simpa [IRow] using h2) ((Below.refl base w).grown h3 hb (fun q hq => (World.ownsRow.lt h0 q hq).1))

def FirstOut (F : Fo) (l : List Int) (w : World) (e : Ending) (w' : World) : Prop :=
  ∃ v, e = .returned (.tuple #[v, .bool (pathF (fun x _ => harmNd x) F l 0).isSome]) ∧ IRow w' w.heap.size v ((pathF (fun x _ => harmNd x) F l 0).getD []) ∧ Below w.heap.size w w'
def FirstOK (F : Fo) : Prop := ∀ (w : World) (A : Option Addr) (c b o lo hi g c' : Nat) (l : List Int), F.nodes ≤ 1048576 → l.length + F.deep ≤ 1048576 → SFine F → hi ≤ w.heap.size → RowAt lo hi A F.len b o → FoAt w lo hi b o F → PthIn w g l →
    Calls Try.prog 85 #[.slice A F.len c, .slice (some ⟨g, 0, none⟩) l.length c'] w (FirstOut F l w)
set_option maxHeartbeats 1000000 in
theorem l08First_lt : ∀ (N : Nat) (F : Fo), F.nodes < N → FirstOK F := by
  intro N
  induction N with
  | zero => intro F hF; omega
  | succ N IH =>
  intro F hF w A c b o lo hi g c' l hnd hdl hfi hh hA hFo hP
  have hlen := hA.1
  unfold maxLen at hlen
  have hln := Fo.len_le_nodes F
  have HA := Lib.hid hA
  have HS := Lib.hid (And.intro hFo (And.intro hfi hP))
  have HF := Lib.hid (And.intro hF hdl)
  have HI := Lib.hid IH
  have hl1 : l.length ≤ 1048576 := by omega
  clear hA hFo hF IH hfi hP hdl
  go_enter Try.func85, Try.ntmps85
  go_wp2
  go_loopw [6] (fun i wr => ∃ (k : Nat) (suf : Fo), i = .int .i64 (k : Int) ∧ k + suf.len = F.len ∧ Hid (FoAt w lo hi b (o + k * 6) suf ∧ Below w.heap.size w wr ∧ suf.nodes < N + 1 ∧ suf.nodes ≤ 1048576 ∧ pathF (fun x _ => harmNd x) F l 0 = pathF (fun x _ => harmNd x) suf l k ∧ SFine suf ∧ l.length + suf.deep ≤ 1048576)) (fun i wr => F.len - (intOf i).toNat)
  case atStart => exact ⟨0, F, rfl, by omega, Lib.hid ⟨by simpa using HS.out.1, Below.refl _ _, HF.out.1, hnd, rfl, HS.out.2.1, HF.out.2⟩⟩
  case round =>
    obtain ⟨k, suf, rfl, hk, HH⟩ := hrel
    cases suf with
    | nil =>
      have hkl : k = F.len := by simpa [Fo.len] using hk
      clear hk
      subst hkl
      go_wp2
      go_ret2
      exact ⟨_, by rw [HH.out.2.2.2.2.1]; rfl, by rw [HH.out.2.2.2.2.1]; exact IRow.made _ _ HH.out.2.1.size, HH.out.2.1.alloc HH.out.2.1.size _⟩
    | cons xk xs xn xt xa kids r =>
      obtain ⟨⟨⟨s0, s1, s2, s3, z2, z3⟩, ⟨A4, c4, b4, o4, s4, r4, a4⟩, ⟨A5, c5, b5, o5, s5, r5, a5⟩, sr⟩, hB, hT1, hT2, hT3, ⟨f1, _, f3, f4⟩, hT4⟩ := HH.out
      obtain ⟨rfl, hlo, hhi⟩ := HA.out.2 (by simp [Fo.len] at hk; omega)
      have hkl : k < F.len := by simp [Fo.len] at hk; omega
      have hb : b < w.heap.size := by omega
      have HB := Lib.hid hB
      have HR := Lib.hid (And.intro sr f4)
      have H4 := Lib.hid a4
      have R4 := Lib.hid r4.2
      have H5 := Lib.hid (And.intro a5 f3)
      have R5 := Lib.hid r5.2
      have HN := Lib.hid (And.intro f1 z2)
      have HP := Lib.hid (HS.out.2.2.next hB)
      have HC := Lib.hid (And.intro s0 (And.intro s1 (And.intro s2 (And.intro s3 (And.intro s4 s5)))))
      have HT := Lib.hid (And.intro hT1 (And.intro hT2 (And.intro hT3 hT4)))
      have hkn : kids.nodes ≤ 1048576 ∧ r.nodes ≤ 1048576 := by simp [Fo.nodes] at hT2; omega
      have hdn : l.length + 1 + kids.deep ≤ 1048576 ∧ l.length + r.deep ≤ 1048576 := by simp [Fo.deep] at hT4; omega
      clear HH s0 s1 s2 s3 s4 s5 sr hB hT1 hT2 hT3 hT4 a4 r4 a5 r5 f1 f3 f4 z2 z3
      cases hq : harmNd ⟨xk, xs, xn, xt, xa⟩ with
      | true =>
        have HQ := Lib.hid hq
        clear hq
        go_wp2_with (first | (at_builtin; refine wpList_append_ints rfl _ _ rfl w.heap.size (.slice (some ⟨wr.heap.size, 0, none⟩) 0 0) [] rfl (IRow.made wr w.heap.size HB.out.size) g c' l rfl (by simp; omega) (by have := HB.out.size; simp; omega) (fun j hj => (World.cell?_alloc_lt _ _ _ HP.out.1).trans (HP.out.2 j hj)) ?_; intro v1 w1 hN1 hB1; have HN1 : Hid (IRow w1 w.heap.size v1 l) := Lib.hid (by simpa using hN1); have HB1 := Lib.hid ((HB.out.alloc HB.out.size (.cells #[] 3)).trans hB1); clear hN1 hB1) | (at_builtin; refine wpList_append_ints rfl _ _ rfl w.heap.size v1 l rfl (HN1.out.step _) w1.heap.size 1 [(k : Int)] rfl (by simp; omega) (by have := HB1.out.size; simp; omega) (fun j hj => by (obtain rfl : j = 0 := by simpa using hj); exact new_cell rfl) ?_; intro v2 w2 hN2 hB2; obtain ⟨g2, c2, rfl, hp2⟩ := hN2.pth (by simp); have hB2' := (HB1.out.alloc HB1.out.size (.cells #[.int .i64 (k : Int)] 3)).trans hB2; have hN2' : IRow w2 w.heap.size (.slice (some ⟨g2, 0, none⟩) (l.length + 1) c2) (l ++ [(k : Int)]) := (by simpa using hN2); have HW := Lib.hid (And.intro hN2' (And.intro hp2 hB2')); have q0 := (hB2'.cell (p := ⟨b, _, none⟩) hb).trans HC.out.1; have q1 := (hB2'.cell (p := ⟨b, _, none⟩) hb).trans HC.out.2.1; have q2 := (hB2'.cell (p := ⟨b, _, none⟩) hb).trans HC.out.2.2.1; have q3 := (hB2'.cell (p := ⟨b, _, none⟩) hb).trans HC.out.2.2.2.1; have q4 := (hB2'.cell (p := ⟨b, _, none⟩) hb).trans HC.out.2.2.2.2.1; have q5 := (hB2'.cell (p := ⟨b, _, none⟩) hb).trans HC.out.2.2.2.2.2; rw [show (l ++ [(k : Int)]).length = l.length + 1 by simp]; clear hN2 hB2 hp2 hB2' hN2') | (go_at_call 148; refine (l08Harm_any ⟨xk, xs, xn, xt, xa⟩ HN.out.1 w2 A4 A5 c4 kids.len c5 b4 o4 lo hi R4.out (Nat.le_trans hh HW.out.2.2.size) (H4.out.but R4.out (But.of_below (C := No) HW.out.2.2) hh (fun _ h => h.elim)) HN.out.2).mono ?_; rintro e w3 ⟨rfl, hB3⟩; rw [HQ.out]; have HB3 := Lib.hid (And.intro hB3 (HW.out.2.2.trans (hB3.mono HW.out.2.2.size))); have y5 := (HB3.out.2.cell (p := ⟨b, _, none⟩) hb).trans HC.out.2.2.2.2.2; clear hB3))
        go_wp2
        go_ret2
        exact ⟨_, by rw [HT.out.2.2.1, pathF, if_pos HQ.out]; rfl, by rw [HT.out.2.2.1, pathF, if_pos HQ.out]; exact (IRow.belowB HW.out.1 HB3.out.1), HB3.out.2⟩
      | false =>
        have HQ := Lib.hid hq
        have hqn : ¬ harmNd ⟨xk, xs, xn, xt, xa⟩ = true := by rw [hq]; simp
        have HQN := Lib.hid hqn
        clear hq hqn
        cases hz : pathF (fun x _ => harmNd x) kids (l ++ [(k : Int)]) 0 with
        | some res =>
          have HZ := Lib.hid hz
          clear hz
          go_wp2_with (first | (at_builtin; refine wpList_append_ints rfl _ _ rfl w.heap.size (.slice (some ⟨wr.heap.size, 0, none⟩) 0 0) [] rfl (IRow.made wr w.heap.size HB.out.size) g c' l rfl (by simp; omega) (by have := HB.out.size; simp; omega) (fun j hj => (World.cell?_alloc_lt _ _ _ HP.out.1).trans (HP.out.2 j hj)) ?_; intro v1 w1 hN1 hB1; have HN1 : Hid (IRow w1 w.heap.size v1 l) := Lib.hid (by simpa using hN1); have HB1 := Lib.hid ((HB.out.alloc HB.out.size (.cells #[] 3)).trans hB1); clear hN1 hB1) | (at_builtin; refine wpList_append_ints rfl _ _ rfl w.heap.size v1 l rfl (HN1.out.step _) w1.heap.size 1 [(k : Int)] rfl (by simp; omega) (by have := HB1.out.size; simp; omega) (fun j hj => by (obtain rfl : j = 0 := by simpa using hj); exact new_cell rfl) ?_; intro v2 w2 hN2 hB2; obtain ⟨g2, c2, rfl, hp2⟩ := hN2.pth (by simp); have hB2' := (HB1.out.alloc HB1.out.size (.cells #[.int .i64 (k : Int)] 3)).trans hB2; have hN2' : IRow w2 w.heap.size (.slice (some ⟨g2, 0, none⟩) (l.length + 1) c2) (l ++ [(k : Int)]) := (by simpa using hN2); have HW := Lib.hid (And.intro hN2' (And.intro hp2 hB2')); have q0 := (hB2'.cell (p := ⟨b, _, none⟩) hb).trans HC.out.1; have q1 := (hB2'.cell (p := ⟨b, _, none⟩) hb).trans HC.out.2.1; have q2 := (hB2'.cell (p := ⟨b, _, none⟩) hb).trans HC.out.2.2.1; have q3 := (hB2'.cell (p := ⟨b, _, none⟩) hb).trans HC.out.2.2.2.1; have q4 := (hB2'.cell (p := ⟨b, _, none⟩) hb).trans HC.out.2.2.2.2.1; have q5 := (hB2'.cell (p := ⟨b, _, none⟩) hb).trans HC.out.2.2.2.2.2; rw [show (l ++ [(k : Int)]).length = l.length + 1 by simp]; clear hN2 hB2 hp2 hB2' hN2') | (go_at_call 148; refine (l08Harm_any ⟨xk, xs, xn, xt, xa⟩ HN.out.1 w2 A4 A5 c4 kids.len c5 b4 o4 lo hi R4.out (Nat.le_trans hh HW.out.2.2.size) (H4.out.but R4.out (But.of_below (C := No) HW.out.2.2) hh (fun _ h => h.elim)) HN.out.2).mono ?_; rintro e w3 ⟨rfl, hB3⟩; rw [HQ.out]; have HB3 := Lib.hid (And.intro hB3 (HW.out.2.2.trans (hB3.mono HW.out.2.2.size))); have y5 := (HB3.out.2.cell (p := ⟨b, _, none⟩) hb).trans HC.out.2.2.2.2.2; clear hB3) | (go_at_call 85; rw [show l.length + 1 = (l ++ [(k : Int)]).length by simp]; refine (HI.out kids (by have := HT.out.1; simp [Fo.nodes] at this; omega) w3 A5 c5 b5 o5 lo hi g2 c2 (l ++ [(k : Int)]) hkn.1 (by simp; omega) H5.out.2 (Nat.le_trans hh HB3.out.2.size) R5.out (H5.out.1.but R5.out (But.of_below (C := No) HB3.out.2) hh (fun _ h => h.elim)) (HW.out.2.1.next HB3.out.1)).mono ?_; rintro e w4 ⟨v4, rfl, hN4, hB4⟩; rw [HZ.out] at hN4 ⊢; have HV := Lib.hid (IRow.mono hN4 HB3.out.2.size); have HB4 := Lib.hid (HB3.out.2.trans (hB4.mono HB3.out.2.size)); clear hN4 hB4))
          go_wp2
          go_ret2
          exact ⟨_, by rw [HT.out.2.2.1, pathF, if_neg HQN.out, HZ.out]; rfl, by rw [HT.out.2.2.1, pathF, if_neg HQN.out, HZ.out]; exact HV.out, HB4.out⟩
        | none =>
          have HZ := Lib.hid hz
          clear hz
          go_wp2_with (first | (at_builtin; refine wpList_append_ints rfl _ _ rfl w.heap.size (.slice (some ⟨wr.heap.size, 0, none⟩) 0 0) [] rfl (IRow.made wr w.heap.size HB.out.size) g c' l rfl (by simp; omega) (by have := HB.out.size; simp; omega) (fun j hj => (World.cell?_alloc_lt _ _ _ HP.out.1).trans (HP.out.2 j hj)) ?_; intro v1 w1 hN1 hB1; have HN1 : Hid (IRow w1 w.heap.size v1 l) := Lib.hid (by simpa using hN1); have HB1 := Lib.hid ((HB.out.alloc HB.out.size (.cells #[] 3)).trans hB1); clear hN1 hB1) | (at_builtin; refine wpList_append_ints rfl _ _ rfl w.heap.size v1 l rfl (HN1.out.step _) w1.heap.size 1 [(k : Int)] rfl (by simp; omega) (by have := HB1.out.size; simp; omega) (fun j hj => by (obtain rfl : j = 0 := by simpa using hj); exact new_cell rfl) ?_; intro v2 w2 hN2 hB2; obtain ⟨g2, c2, rfl, hp2⟩ := hN2.pth (by simp); have hB2' := (HB1.out.alloc HB1.out.size (.cells #[.int .i64 (k : Int)] 3)).trans hB2; have hN2' : IRow w2 w.heap.size (.slice (some ⟨g2, 0, none⟩) (l.length + 1) c2) (l ++ [(k : Int)]) := (by simpa using hN2); have HW := Lib.hid (And.intro hN2' (And.intro hp2 hB2')); have q0 := (hB2'.cell (p := ⟨b, _, none⟩) hb).trans HC.out.1; have q1 := (hB2'.cell (p := ⟨b, _, none⟩) hb).trans HC.out.2.1; have q2 := (hB2'.cell (p := ⟨b, _, none⟩) hb).trans HC.out.2.2.1; have q3 := (hB2'.cell (p := ⟨b, _, none⟩) hb).trans HC.out.2.2.2.1; have q4 := (hB2'.cell (p := ⟨b, _, none⟩) hb).trans HC.out.2.2.2.2.1; have q5 := (hB2'.cell (p := ⟨b, _, none⟩) hb).trans HC.out.2.2.2.2.2; rw [show (l ++ [(k : Int)]).length = l.length + 1 by simp]; clear hN2 hB2 hp2 hB2' hN2') | (go_at_call 148; refine (l08Harm_any ⟨xk, xs, xn, xt, xa⟩ HN.out.1 w2 A4 A5 c4 kids.len c5 b4 o4 lo hi R4.out (Nat.le_trans hh HW.out.2.2.size) (H4.out.but R4.out (But.of_below (C := No) HW.out.2.2) hh (fun _ h => h.elim)) HN.out.2).mono ?_; rintro e w3 ⟨rfl, hB3⟩; rw [HQ.out]; have HB3 := Lib.hid (And.intro hB3 (HW.out.2.2.trans (hB3.mono HW.out.2.2.size))); have y5 := (HB3.out.2.cell (p := ⟨b, _, none⟩) hb).trans HC.out.2.2.2.2.2; clear hB3) | (go_at_call 85; rw [show l.length + 1 = (l ++ [(k : Int)]).length by simp]; refine (HI.out kids (by have := HT.out.1; simp [Fo.nodes] at this; omega) w3 A5 c5 b5 o5 lo hi g2 c2 (l ++ [(k : Int)]) hkn.1 (by simp; omega) H5.out.2 (Nat.le_trans hh HB3.out.2.size) R5.out (H5.out.1.but R5.out (But.of_below (C := No) HB3.out.2) hh (fun _ h => h.elim)) (HW.out.2.1.next HB3.out.1)).mono ?_; rintro e w4 ⟨v4, rfl, hN4, hB4⟩; rw [HZ.out] at hN4 ⊢; have HV := Lib.hid (IRow.mono hN4 HB3.out.2.size); have HB4 := Lib.hid (HB3.out.2.trans (hB4.mono HB3.out.2.size)); clear hN4 hB4))
          go_wp2
          go_roundw
          case rel => exact ⟨k + 1, r, by go_num, by simp [Fo.len] at hk; omega, Lib.hid ⟨by rw [show o + (k + 1) * 6 = o + k * 6 + 6 by omega]; exact HR.out.1, HB4.out, by have := HT.out.1; simp [Fo.nodes] at this; omega, hkn.2, by rw [HT.out.2.2.1, pathF, if_neg HQN.out, HZ.out], HR.out.2, hdn.2⟩⟩
          case measure => simp [intOf]; omega
theorem l08First_any (F : Fo) : FirstOK F := l08First_lt (F.nodes + 1) F (Nat.lt_succ_self _)
end Go.Proofs.Ytbcbmgeoaejlmaa
