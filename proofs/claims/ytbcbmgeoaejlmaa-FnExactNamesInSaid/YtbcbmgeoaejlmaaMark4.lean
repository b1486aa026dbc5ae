
import Derived.Test.YtbcbmgeoaejlmaaMark3
namespace Go.Proofs.Ytbcbmgeoaejlmaa
open Go.ChangeShapes Go.WideShapes Go.ChangeAt Go.RowKit Go.Deep

/-- a forest that is marked up to a place -/
theorem NodeIn.enter {w : World} {g : Nat} {P : Fo} {k sp : Int} {n t : ByteArray} {al : List (ByteArray × ByteArray)} {kids r : Fo} {bl : List Nat} (h : FoLay w g 0 (P.app (.cons k sp n t al kids r)) bl) (hn : (g :: bl).Nodup) (hlt : ∀ k ∈ g :: bl, k < w.heap.size) :
    ∃ (A K : Option Addr) (ca ck : Nat) (ba bk b1 br : List Nat), bl = b1 ++ (ba ++ bk ++ br) ∧ NodeIn w g (6 * P.len) P r (.int .i64 k) (.int .i64 sp) (.string n) (.string t) (.slice A al.length ca) (.slice K kids.len ck) A al ba K kids bk b1 br ∧
      al.length ≤ ca ∧ al.length ≤ maxLen ∧ kids.len ≤ ck ∧ kids.len ≤ maxLen ∧ n.size ≤ maxLen ∧ t.size ≤ maxLen := by
  obtain ⟨b1, b2, rfl, i1, i2⟩ := h.split
  rw [Nat.zero_add] at i2
  obtain ⟨A, K, ca, ck, ba, bk, br, rfl, ⟨c0, c1, c2, c3, z2, z3⟩, ⟨c4, h4, m4, r4⟩, ⟨c5, h5, m5, r5⟩, hr⟩ := i2
  exact ⟨A, K, ca, ck, ba, bk, b1, br, rfl, ⟨c0, c1, c2, c3, c4, c5, i1, hr, r4, r5, rfl, hn, hlt⟩, h4, m4, h5, m5, z2, z3⟩
theorem NodeIn.leave {w : World} {g o : Nat} {P : Fo} {k sp : Int} {n t : ByteArray} {al : List (ByteArray × ByteArray)} {kids r : Fo} {A K : Option Addr} {ca ck : Nat} {ba bk b1 br : List Nat} (h : NodeIn w g o P r (.int .i64 k) (.int .i64 sp) (.string n) (.string t) (.slice A al.length ca) (.slice K kids.len ck) A al ba K kids bk b1 br)
    (h4 : al.length ≤ ca) (m4 : al.length ≤ maxLen) (h5 : kids.len ≤ ck) (m5 : kids.len ≤ maxLen) (z2 : n.size ≤ maxLen) (z3 : t.size ≤ maxLen) : FoLay w g 0 (P.app (.cons k sp n t al kids r)) (b1 ++ (ba ++ bk ++ br)) := by
  refine h.p.app ?_
  rw [Nat.zero_add, h.po]
  exact ⟨A, K, ca, ck, ba, bk, br, rfl, ⟨h.c0, h.c1, h.c2, h.c3, z2, z3⟩, ⟨h.c4, h4, m4, h.a⟩, ⟨h.c5, h5, m5, h.k⟩, h.r⟩
theorem OnlyAt.sub {w w' : World} {l l' : List Nat} (h : OnlyAt w w' l) (hs : ∀ k ∈ l, k ∈ l') : OnlyAt w w' l' := h.mono hs
theorem OnlyAt.low {w w' : World} (h : Below w.heap.size w w') (l : List Nat) : OnlyAt w w' l := But.of_below h
theorem OnlyAt.then {a b c : World} {l : List Nat} (h : OnlyAt a b l) (k : OnlyAt b c l) : OnlyAt a c l := But.trans h k fun _ h => Or.inl h

theorem NodeIn.ndk {w : World} {g o : Nat} {pre rest kids : Fo} {v0 v1 v2 v3 v4 v5 : Value} {A K : Option Addr} {al : List (ByteArray × ByteArray)} {b1 ba bk br : List Nat} (h : NodeIn w g o pre rest v0 v1 v2 v3 v4 v5 A al ba K kids bk b1 br) : bk.Nodup :=
  (List.nodup_append.1 (List.nodup_append.1 (List.nodup_append.1 (List.nodup_cons.1 h.nd).2).2.1).1).2.1

set_option maxHeartbeats 4000000 in
theorem markNodeS_lt : ∀ (N : Nat) (F : Fo), F.nodes < N → MarkOK F := by
  intro N
  induction N with
  | zero => intro F hF; omega
  | succ N IH =>
  intro F hF m w A c bk0 h1 h2 hlen hK hnd hbl
  rcases hK with ⟨h0, rfl⟩ | ⟨g, bl, rfl, rfl, hl⟩
  · cases F with
    | cons _ _ _ _ _ _ _ => simp [Fo.len] at h0
    | nil =>
      have hl : Fo.nil.len = 0 := rfl
      rw [hl]
      clear hlen h0 hnd hbl hF
      go_enter Try.func36, Try.ntmps36
      go_wp2
      refine wp_loop_rounds 1 ?_
      rw [rounds_succ]
      go_wp2
      go_ret
      exact ⟨rfl, Or.inl ⟨rfl, rfl⟩, But.refl _ _⟩
  · have HL := Lib.hid hl
    have HF := Lib.hid hF
    have HI := Lib.hid IH
    have HN := Lib.hid (And.intro hnd hbl)
    unfold maxLen at hlen
    clear hl hF IH hnd hbl
    go_enter Try.func36, Try.ntmps36
    go_wp2
    go_loopw [1, 5] (fun x i wr => ∃ (k mm : Nat) (pre suf : Fo), x = .int .i64 (mm : Int) ∧ i = .int .i64 (k : Int) ∧ F = pre.app suf ∧ pre.len = k ∧ mm = m + pre.cnt ∧ Hid (FoLay wr g 0 ((markFo pre m).app suf) bl ∧ OnlyAt w wr (g :: bl) ∧ suf.nodes < N + 1)) (fun x i wr => F.len - (intOf i).toNat)
    case atStart => exact ⟨0, m, .nil, F, rfl, rfl, rfl, rfl, by simp [Fo.cnt], Lib.hid ⟨HL.out, But.refl _ _, HF.out⟩⟩
    case round =>
      obtain ⟨k, mm, pre, suf, rfl, rfl, hp, hk, hmm, HH⟩ := hrel
      have HP := Lib.hid hp
      cases suf with
      | nil =>
        have hkl : k = F.len := by rw [hp, Fo.app_nil, hk]
        have hm : mm = m + F.cnt := by rw [hmm, hp, Fo.app_nil]
        clear hp hk hmm
        subst hkl
        subst hm
        go_wp2
        go_ret
        obtain ⟨i1, i2, _⟩ := HH.out
        have hp := HP.out
        rw [Fo.app_nil] at hp i1
        exact ⟨rfl, Or.inr ⟨g, bl, rfl, rfl, by rw [hp]; exact i1⟩, i2⟩
      | cons xk xs xn xt xa kids r =>
        have hkl : k < F.len := by rw [hp, Fo.len_app, hk]; simp [Fo.len]
        have hcnt : mm + 4 + 2 * xa.length + kids.cnt + r.cnt = m + F.cnt := by rw [hp, Fo.cnt_app, hmm]; simp only [Fo.cnt]; omega
        obtain ⟨i1, i2, i3⟩ := HH.out
        obtain ⟨A4, K5, ca, ck, ba, bk, b1, br, hbl, hin, h4, m4, h5, m5, z2, z3⟩ := NodeIn.enter i1 HN.out.1 (fun k hk => Nat.lt_of_lt_of_le (HN.out.2 k hk) i2.size)
        rw [markFo_len, hk, show 6 * k = k * 6 by omega] at hin
        have hk1 : 1 ≤ mm := by omega
        have HK := Lib.hid (And.intro hk hmm)
        have HO := Lib.hid (And.intro i2 (And.intro i3 hbl))
        have HM := Lib.hid (And.intro h4 (And.intro m4 (And.intro h5 m5)))
        have c0 := hin.c0.1
        have f0 := hin.c0.2
        have c1 := (hin.put0 (.int .i64 (mm : Int))).c1.1
        have f1 := hin.c1.2
        have c1' := hin.c1.1
        have I2 := Lib.hid ((hin.put0 (.int .i64 (mm : Int))).put1 (.int .i64 ((mm : Int) + 1)))
        have hg : g < wr.heap.size := hin.lt g (by simp)
        unfold maxLen at m4 m5
        clear HH hp hk hmm i1 i2 i3 hbl hin z2 z3 h4 h5
        go_wp2_with fail
        rw [show ((mm : Int) + 1 + 1) = ((mm + 2 : Nat) : Int) by omega]
        refine (markText_any (mm + 2) (by omega) (by omega) _).mono ?_
        rintro e w1 ⟨rfl, hB⟩
        have hN := I2.out.same hB
        have d2 := hN.c2.1
        have e2 := hN.c2.2
        have J := Lib.hid (hN.put2 (.string (markT (mm + 2))))
        have O1 := Lib.hid (But.setCell (OnlyAt.then (l := g :: bl) (((But.refl (fun k => k ∈ g :: bl) wr).setCell (p := ⟨g, k * 6, none⟩) (Or.inl (by simp)) (.int .i64 (mm : Int))).setCell (p := ⟨g, k * 6 + 1, none⟩) (Or.inl (by simp)) (.int .i64 ((mm : Int) + 1))) (OnlyAt.low hB _)) (p := ⟨g, k * 6 + 2, none⟩) (Or.inl (by simp)) (.string (markT (mm + 2))))
        clear hB hN
        go_wp2_with fail
        rw [show ((mm : Int) + 2 + 1) = ((mm + 3 : Nat) : Int) by omega]
        refine (markText_any (mm + 3) (by omega) (by omega) _).mono ?_
        rintro e w2 ⟨rfl, hB⟩
        have hN := J.out.same hB
        have d3 := hN.c3.1
        have e3 := hN.c3.2
        have hP := hN.put3 (.string (markT (mm + 3)))
        have d4 := hP.c4.1
        have J2 := Lib.hid hP
        have O2 := Lib.hid (But.setCell (OnlyAt.then (l := g :: bl) O1.out (OnlyAt.low hB _)) (p := ⟨g, k * 6 + 3, none⟩) (Or.inl (by simp)) (.string (markT (mm + 3))))
        clear hB hN hP
        go_wp2_with fail
        rw [show ((mm : Int) + 3 + 1) = ((mm + 4 : Nat) : Int) by omega]
        refine (markAttrS_any xa (mm + 4) _ A4 ca ba (by omega) (by omega) J2.out.a).mono ?_
        rintro e w3 ⟨rfl, ha, hB⟩
        have hN := J2.out.attrs hB ha
        have d5 := hN.c5.1
        have J3 := Lib.hid hN
        have O3 := Lib.hid (OnlyAt.then (l := g :: bl) O2.out (OnlyAt.sub hB fun q hq => by rw [HO.out.2.2]; simp [hq]))
        clear hB ha hN d4 d3 d2 e2 e3 c0 c1 c1' f0 f1
        go_wp2_with fail
        rw [show (mm : Int) + 4 + 2 * (xa.length : Int) = ((mm + 4 + 2 * xa.length : Nat) : Int) by omega]
        refine (HI.out kids (by have := HO.out.2.1; simp [Fo.nodes] at this; omega) (mm + 4 + 2 * xa.length) _ K5 ck bk (by omega) (by omega) (by unfold maxLen; exact m5) J3.out.k J3.out.ndk (fun q hq => J3.out.lt q (by simp [hq]))).mono ?_
        rintro e w4 ⟨rfl, hK, hB⟩
        have J4 := Lib.hid (J3.out.kids hB hK)
        have O4 := Lib.hid (OnlyAt.then (l := g :: bl) O3.out (OnlyAt.sub hB fun q hq => by rw [HO.out.2.2]; simp [hq]))
        clear hB hK d5
        go_wp2_with fail
        refine ⟨⟨k + 1, mm + 4 + 2 * xa.length + kids.cnt, pre.app (.one xk xs xn xt xa kids), r, by go_num, by go_num, by rw [HP.out, Fo.app_assoc]; rfl, by rw [Fo.len_app, HK.out.1]; rfl, by rw [Fo.cnt_app, HK.out.2]; simp only [Fo.one, Fo.cnt]; omega, Lib.hid ⟨?_, OnlyAt.then HO.out.1 O4.out, by have := HO.out.2.1; simp [Fo.nodes] at this; omega⟩⟩, by simp only [intOf]; omega⟩
        have hs2 := markT_size (mm + 2)
        have hs3 := markT_size (mm + 3)
        have J5 := J4.out
        have e1 : (mm : Int) + 1 = ((mm + 1 : Nat) : Int) := by omega
        have e4 : xa.length = (markAl xa (mm + 4)).length := (markAl_len _ _).symm
        have e5 : kids.len = (markFo kids (mm + 4 + 2 * xa.length)).len := (markFo_len _ _).symm
        have l4 := HM.out
        rw [HO.out.2.2, markFo_snoc, Fo.app_assoc, ← HK.out.2]
        show FoLay w4 g 0 ((markFo pre m).app (.cons mm ((mm + 1 : Nat) : Int) (markT (mm + 2)) (markT (mm + 3)) (markAl xa (mm + 4)) (markFo kids (mm + 4 + 2 * xa.length)) r)) _
        refine NodeIn.leave (o := k * 6) (A := A4) (K := K5) (ca := ca) (ck := ck) ?_ (by rw [← e4]; exact l4.1) (by rw [← e4]; exact l4.2.1) (by rw [← e5]; exact l4.2.2.1) (by rw [← e5]; exact l4.2.2.2) (by unfold maxLen; omega) (by unfold maxLen; omega)
        rw [← e4, ← e5, ← e1]
        exact J5
theorem markNodeS_any (F : Fo) : MarkOK F := markNodeS_lt (F.nodes + 1) F (Nat.lt_succ_self _)
end Go.Proofs.Ytbcbmgeoaejlmaa
