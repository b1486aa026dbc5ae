import Derived.Maps.AppendAt
import Derived.Deep.RegionHeld3
import Derived.Shelf.Abstract
import Derived.Outline
import Derived.Laws.EntriesVeiled
import Derived.Handy
import Derived.Test.YtpennadfomnenaaGreatDoorQ10
import Derived.Test.YtpennadfomnenaaGreatDoorQ09
set_option linter.unusedVariables false
namespace Go.Proofs.YtpennadfomnenaaGreatDoor
open Go.ChangeShapes Go.WideShapes Go.ChangeAt Go.RowKit Go.Deep

/-- a forest that is marked up to a place -/
theorem NodeIn.enter {w : World} {g : Nat} {P : Fo} {k sp : Int} {n t : ByteArray} {al : List (ByteArray × ByteArray)} {kids r : Fo} {bl : List Nat} (h : FoLay w g 0 (P.app (.cons k sp n t al kids r)) bl) (hn : (g :: bl).Nodup) (hlt : ∀ k ∈ g :: bl, k < w.heap.size) :
    ∃ (A K : Option Addr) (ca ck : Nat) (ba bk b1 br : List Nat), bl = b1 ++ (ba ++ bk ++ br) ∧ NodeIn w g (6 * P.len) P r (.int .i64 k) (.int .i64 sp) (.string n) (.string t) (.slice A al.length ca) (.slice K kids.len ck) A al ba K kids bk b1 br ∧
      al.length ≤ ca ∧ al.length ≤ maxLen ∧ kids.len ≤ ck ∧ kids.len ≤ maxLen ∧ n.size ≤ maxLen ∧ t.size ≤ maxLen := by
  obtain ⟨b1, b2, rfl, i1, i2⟩ := h.split
  rw [Nat.zero_add] at i2
  obtain ⟨A, K, ca, ck, ba, bk, br, rfl, ⟨c0, c1, c2, c3, z2, z3⟩, ⟨c4, h4, m4, r4⟩, ⟨c5, h5, m5, r5⟩, hr⟩ := i2
  exact ⟨A, K, ca, ck, ba, bk, b1, br, rfl, ⟨c0, c1, c2, c3, c4, c5, i1, hr, r4, r5, rfl, hn, hlt⟩, h4, m4, h5, m5, z2, z3⟩
theorem NodeIn.leave {w : World} {g o : Nat} {P : Fo} {k sp : Int} {n t : ByteArray} {al : List (ByteArray × ByteArray)} {kids r : Fo} {A K : Option Addr} {ca ck : Nat} {ba bk b1 br : List Nat} (h : NodeIn w g o P r (.int .i64 k) (.int .i64 sp) (.string n) (.string t) (.slice A al.length ca) (.slice K kids.len ck) A al ba K kids bk b1 br)
    (h4 : al.length ≤ ca) (m4 : al.length ≤ maxLen) (h5 : kids.len ≤ ck) (m5 : kids.len ≤ maxLen) (z2 : n.size ≤ maxLen) (z3 : t.size ≤ maxLen) : FoLay w g 0 (P.app (.cons k sp n t al kids r)) (b1 ++ (ba ++ bk ++ br)) := by
  refine h.p.app ?_
  rw [Nat.zero_add, h.po]
  exact ⟨A, K, ca, ck, ba, bk, br, rfl, ⟨h.c0, h.c1, h.c2, h.c3, z2, z3⟩, ⟨h.c4, h4, m4, h.a⟩, ⟨h.c5, h5, m5, h.k⟩, h.r⟩
theorem OnlyAt.sub {w w' : World} {l l' : List Nat} (h : OnlyAt w w' l) (hs : ∀ k ∈ l, k ∈ l') : OnlyAt w w' l' := h.mono hs
theorem OnlyAt.low {w w' : World} (h : Below w.heap.size w w') (l : List Nat) : OnlyAt w w' l := But.of_below h
theorem OnlyAt.then {a b c : World} {l : List Nat} (h : OnlyAt a b l) (k : OnlyAt b c l) : OnlyAt a c l := But.trans h k fun _ h => Or.inl h
theorem NodeIn.ndk {w : World} {g o : Nat} {pre rest kids : Fo} {v0 v1 v2 v3 v4 v5 : Value} {A K : Option Addr} {al : List (ByteArray × ByteArray)} {b1 ba bk br : List Nat} (h : NodeIn w g o pre rest v0 v1 v2 v3 v4 v5 A al ba K kids bk b1 br) : bk.Nodup :=
  (List.nodup_append.1 (List.nodup_append.1 (List.nodup_append.1 (List.nodup_cons.1 h.nd).2).2.1).1).2.1
set_option maxHeartbeats 4000000 in
theorem markNodeS_lt : ∀ (N : Nat) (F : Fo), F.nodes < N → MarkOK F := by
  intro N
  induction N with
  | zero => intro F hF; omega
  | succ N IH =>
  intro F hF m w A c bk0 h1 h2 hlen hK hnd hbl
  rcases hK with ⟨h0, rfl⟩ | ⟨g, bl, rfl, rfl, hl⟩
  · cases F with
    | cons _ _ _ _ _ _ _ => simp [Fo.len] at h0
    | nil =>
      have hl : Fo.nil.len = 0 := rfl
      rw [hl]
      clear hlen h0 hnd hbl hF
      go_enter Tryz.func45, Tryz.ntmps45
      go_wp2
      refine wp_loop_rounds 1 ?_
      rw [rounds_succ]
      go_wp2
      go_ret
      exact ⟨rfl, Or.inl ⟨rfl, rfl⟩, But.refl _ _⟩
  · have HL := Lib.hid hl
    have HF := Lib.hid hF
    have HI := Lib.hid IH
    have HN := Lib.hid (And.intro hnd hbl)
    unfold maxLen at hlen
    clear hl hF IH hnd hbl
    go_enter Tryz.func45, Tryz.ntmps45
    go_wp2
    go_loopw [1, 5] (fun x i wr => ∃ (k mm : Nat) (pre suf : Fo), x = .int .i64 (mm : Int) ∧ i = .int .i64 (k : Int) ∧ F = pre.app suf ∧ pre.len = k ∧ mm = m + pre.cnt ∧ Hid (FoLay wr g 0 ((markFo pre m).app suf) bl ∧ OnlyAt w wr (g :: bl) ∧ suf.nodes < N + 1)) (fun x i wr => F.len - (intOf i).toNat)
    case atStart => exact ⟨0, m, .nil, F, rfl, rfl, rfl, rfl, by simp [Fo.cnt], Lib.hid ⟨HL.out, But.refl _ _, HF.out⟩⟩
    case round =>
      obtain ⟨k, mm, pre, suf, rfl, rfl, hp, hk, hmm, HH⟩ := hrel
      have HP := Lib.hid hp
      cases suf with
      | nil =>
        have hkl : k = F.len := by rw [hp, Fo.app_nil, hk]
        have hm : mm = m + F.cnt := by rw [hmm, hp, Fo.app_nil]
        clear hp hk hmm
        subst hkl
        subst hm
        go_wp2
        go_ret
        obtain ⟨i1, i2, _⟩ := HH.out
        have hp := HP.out
        rw [Fo.app_nil] at hp i1
        exact ⟨rfl, Or.inr ⟨g, bl, rfl, rfl, by rw [hp]; exact i1⟩, i2⟩
      | cons xk xs xn xt xa kids r =>
        have hkl : k < F.len := by rw [hp, Fo.len_app, hk]; simp [Fo.len]
        have hcnt : mm + 4 + 2 * xa.length + kids.cnt + r.cnt = m + F.cnt := by rw [hp, Fo.cnt_app, hmm]; simp only [Fo.cnt]; omega
        obtain ⟨i1, i2, i3⟩ := HH.out
        obtain ⟨A4, K5, ca, ck, ba, bk, b1, br, hbl, hin, h4, m4, h5, m5, z2, z3⟩ := NodeIn.enter i1 HN.out.1 (fun k hk => Nat.lt_of_lt_of_le (HN.out.2 k hk) i2.size)
        rw [markFo_len, hk, show 6 * k = k * 6 by omega] at hin
        have hk1 : 1 ≤ mm := by omega
        have HK := Lib.hid (And.intro hk hmm)
        have HO := Lib.hid (And.intro i2 (And.intro i3 hbl))
        have HM := Lib.hid (And.intro h4 (And.intro m4 (And.intro h5 m5)))
        have c0 := hin.c0.1
        have f0 := hin.c0.2
        have c1 := (hin.put0 (.int .i64 (mm : Int))).c1.1
        have f1 := hin.c1.2
        have c1' := hin.c1.1
        have I2 := Lib.hid ((hin.put0 (.int .i64 (mm : Int))).put1 (.int .i64 ((mm : Int) + 1)))
        have hg : g < wr.heap.size := hin.lt g (by simp)
        unfold maxLen at m4 m5
        clear HH hp hk hmm i1 i2 i3 hbl hin z2 z3 h4 h5
        go_wp2_with fail
        rw [show ((mm : Int) + 1 + 1) = ((mm + 2 : Nat) : Int) by omega]
        refine (markText_any (mm + 2) (by omega) (by omega) _).mono ?_
        rintro e w1 ⟨rfl, hB⟩
        have hN := I2.out.same hB
        have d2 := hN.c2.1
        have e2 := hN.c2.2
        have J := Lib.hid (hN.put2 (.string (markT (mm + 2))))
        have O1 := Lib.hid (But.setCell (OnlyAt.then (l := g :: bl) (((But.refl (fun k => k ∈ g :: bl) wr).setCell (p := ⟨g, k * 6, none⟩) (Or.inl (by simp)) (.int .i64 (mm : Int))).setCell (p := ⟨g, k * 6 + 1, none⟩) (Or.inl (by simp)) (.int .i64 ((mm : Int) + 1))) (OnlyAt.low hB _)) (p := ⟨g, k * 6 + 2, none⟩) (Or.inl (by simp)) (.string (markT (mm + 2))))
        clear hB hN
        go_wp2_with fail
        rw [show ((mm : Int) + 2 + 1) = ((mm + 3 : Nat) : Int) by omega]
        refine (markText_any (mm + 3) (by omega) (by omega) _).mono ?_
        rintro e w2 ⟨rfl, hB⟩
        have hN := J.out.same hB
        have d3 := hN.c3.1
        have e3 := hN.c3.2
        have hP := hN.put3 (.string (markT (mm + 3)))
        have d4 := hP.c4.1
        have J2 := Lib.hid hP
        have O2 := Lib.hid (But.setCell (OnlyAt.then (l := g :: bl) O1.out (OnlyAt.low hB _)) (p := ⟨g, k * 6 + 3, none⟩) (Or.inl (by simp)) (.string (markT (mm + 3))))
        clear hB hN hP
        go_wp2_with fail
        rw [show ((mm : Int) + 3 + 1) = ((mm + 4 : Nat) : Int) by omega]
        refine (markAttrS_any xa (mm + 4) _ A4 ca ba (by omega) (by omega) J2.out.a).mono ?_
        rintro e w3 ⟨rfl, ha, hB⟩
        have hN := J2.out.attrs hB ha
        have d5 := hN.c5.1
        have J3 := Lib.hid hN
        have O3 := Lib.hid (OnlyAt.then (l := g :: bl) O2.out (OnlyAt.sub hB fun q hq => by rw [HO.out.2.2]; simp [hq]))
        clear hB ha hN d4 d3 d2 e2 e3 c0 c1 c1' f0 f1
        go_wp2_with fail
        rw [show (mm : Int) + 4 + 2 * (xa.length : Int) = ((mm + 4 + 2 * xa.length : Nat) : Int) by omega]
        refine (HI.out kids (by have := HO.out.2.1; simp [Fo.nodes] at this; omega) (mm + 4 + 2 * xa.length) _ K5 ck bk (by omega) (by omega) (by unfold maxLen; exact m5) J3.out.k J3.out.ndk (fun q hq => J3.out.lt q (by simp [hq]))).mono ?_
        rintro e w4 ⟨rfl, hK, hB⟩
        have J4 := Lib.hid (J3.out.kids hB hK)
        have O4 := Lib.hid (OnlyAt.then (l := g :: bl) O3.out (OnlyAt.sub hB fun q hq => by rw [HO.out.2.2]; simp [hq]))
        clear hB hK d5
        go_wp2_with fail
        refine ⟨⟨k + 1, mm + 4 + 2 * xa.length + kids.cnt, pre.app (.one xk xs xn xt xa kids), r, by go_num, by go_num, by rw [HP.out, Fo.app_assoc]; rfl, by rw [Fo.len_app, HK.out.1]; rfl, by rw [Fo.cnt_app, HK.out.2]; simp only [Fo.one, Fo.cnt]; omega, Lib.hid ⟨?_, OnlyAt.then HO.out.1 O4.out, by have := HO.out.2.1; simp [Fo.nodes] at this; omega⟩⟩, by simp only [intOf]; omega⟩
        have hs2 := markT_size (mm + 2)
        have hs3 := markT_size (mm + 3)
        have J5 := J4.out
        have e1 : (mm : Int) + 1 = ((mm + 1 : Nat) : Int) := by omega
        have e4 : xa.length = (markAl xa (mm + 4)).length := (markAl_len _ _).symm
        have e5 : kids.len = (markFo kids (mm + 4 + 2 * xa.length)).len := (markFo_len _ _).symm
        have l4 := HM.out
        rw [HO.out.2.2, markFo_snoc, Fo.app_assoc, ← HK.out.2]
        show FoLay w4 g 0 ((markFo pre m).app (.cons mm ((mm + 1 : Nat) : Int) (markT (mm + 2)) (markT (mm + 3)) (markAl xa (mm + 4)) (markFo kids (mm + 4 + 2 * xa.length)) r)) _
        refine NodeIn.leave (o := k * 6) (A := A4) (K := K5) (ca := ca) (ck := ck) ?_ (by rw [← e4]; exact l4.1) (by rw [← e4]; exact l4.2.1) (by rw [← e5]; exact l4.2.2.1) (by rw [← e5]; exact l4.2.2.2) (by unfold maxLen; omega) (by unfold maxLen; omega)
        rw [← e4, ← e5, ← e1]
        exact J5
theorem markNodeS_any (F : Fo) : MarkOK F := markNodeS_lt (F.nodes + 1) F (Nat.lt_succ_self _)
end Go.Proofs.YtpennadfomnenaaGreatDoor
namespace Go.Proofs.YtpennadfomnenaaGreatDoor
open Go.ChangeShapes Go.WideShapes Go.ChangeAt Go.RowKit Go.Deep

/-- the values of a row of nodes, and the rows that they lead to -/
def FoVals (w : World) : List Value → Fo → List Nat → Prop
  | xs, .nil, bl => xs = [] ∧ bl = []
  | xs, .cons k sp n t al kids rest, bl => ∃ (A K : Option Addr) (ca ck : Nat) (ba bk br : List Nat) (xr : List Value), xs = .int .i64 k :: .int .i64 sp :: .string n :: .string t :: .slice A al.length ca :: .slice K kids.len ck :: xr ∧ bl = ba ++ bk ++ br ∧
    (n.size ≤ maxLen ∧ t.size ≤ maxLen) ∧ (al.length ≤ ca ∧ al.length ≤ maxLen ∧ AlRow w A al ba) ∧ (kids.len ≤ ck ∧ kids.len ≤ maxLen ∧ KRow w K kids bk) ∧ FoVals w xr rest br
theorem FoVals.same {w w' : World} : ∀ {F : Fo} {xs : List Value} {bl : List Nat}, FoVals w xs F bl → (∀ k ∈ bl, w'.heap[k]? = w.heap[k]?) → FoVals w' xs F bl
  | .nil, _, _, h, _ => h
  | .cons k sp n t al kids rest, xs, bl, ⟨A, K, ca, ck, ba, bk, br, xr, hx, hbl, hz, ⟨h4, m4, r4⟩, ⟨h5, m5, r5⟩, hr⟩, hb => by
    subst hbl
    exact ⟨A, K, ca, ck, ba, bk, br, xr, hx, rfl, hz, ⟨h4, m4, r4.same fun k hk => hb k (by simp [hk])⟩, ⟨h5, m5, r5.same fun k hk => hb k (by simp [hk])⟩, hr.same fun k hk => hb k (by simp [hk])⟩
theorem FoVals.len {w : World} : ∀ {F : Fo} {xs : List Value} {bl : List Nat}, FoVals w xs F bl → xs.length = F.len * 6
  | .nil, _, _, h => by rw [h.1]; rfl
  | .cons k sp n t al kids rest, xs, bl, ⟨A, K, ca, ck, ba, bk, br, xr, hx, _, _, _, _, hr⟩ => by
    rw [hx]; simp only [List.length_cons, hr.len, Fo.len]; omega
theorem FoVals.app {w : World} : ∀ {P S : Fo} {xs ys : List Value} {b1 b2 : List Nat}, FoVals w xs P b1 → FoVals w ys S b2 → FoVals w (xs ++ ys) (P.app S) (b1 ++ b2)
  | .nil, S, xs, ys, b1, b2, h, h2 => by obtain ⟨rfl, rfl⟩ := h; simpa [Fo.app] using h2
  | .cons k sp n t al kids rest, S, xs, ys, b1, b2, ⟨A, K, ca, ck, ba, bk, br, xr, hx, hbl, hz, h4, h5, hr⟩, h2 => by
    subst hx hbl
    exact ⟨A, K, ca, ck, ba, bk, br ++ b2, xr ++ ys, rfl, by simp [List.append_assoc], hz, h4, h5, hr.app h2⟩
theorem FoVals.lay {w : World} {g : Nat} : ∀ {F : Fo} {xs : List Value} {bl : List Nat} {o : Nat}, FoVals w xs F bl → (∀ j (h : j < xs.length), CellW w g (o + j) xs[j]) → FoLay w g o F bl
  | .nil, _, _, _, h, _ => h.2
  | .cons k sp n t al kids rest, xs, bl, o, ⟨A, K, ca, ck, ba, bk, br, xr, hx, hbl, hz, ⟨h4, m4, r4⟩, ⟨h5, m5, r5⟩, hr⟩, hc => by
    subst hx
    refine ⟨A, K, ca, ck, ba, bk, br, hbl, ⟨hc 0 (by simp), hc 1 (by simp), hc 2 (by simp), hc 3 (by simp), hz.1, hz.2⟩, ⟨hc 4 (by simp), h4, m4, r4⟩, ⟨hc 5 (by simp), h5, m5, r5⟩, hr.lay fun j hj => ?_⟩
    have := hc (j + 6) (by simp; omega)
    rw [show o + 6 + j = o + (j + 6) by omega]
    simpa using this
/-- a row of nodes of one's own, from base on, that may grow -/
def GRow (w : World) (base : Nat) (v : Value) (F : Fo) (bl : List Nat) : Prop :=
  ∃ xs, w.ownsRow base 42 6 v F.len xs ∧ FoVals w xs F bl ∧ bl.Nodup ∧ (∀ k ∈ bl, base ≤ k ∧ k < w.heap.size) ∧ ∀ k, v.ownBlock = some k → k ∉ bl
theorem GRow.nil (w : World) (base : Nat) : GRow w base (.slice none 0 0) .nil [] :=
  ⟨[], World.ownsRow_nil _ _ _ _, ⟨rfl, rfl⟩, List.nodup_nil, by simp, by simp⟩
theorem GRow.form {w : World} {base : Nat} {v : Value} {F : Fo} {bl : List Nat} (h : GRow w base v F bl) : ∃ A c bs, v = .slice A F.len c ∧ F.len ≤ c ∧ KRow w A F bs ∧ bs.Nodup ∧ ∀ k ∈ bs, base ≤ k ∧ k < w.heap.size := by
  obtain ⟨xs, ho, hv, hn, hb, hg⟩ := h
  have hc := fun g hg => World.ownsRow.cells ho (g := g) hg
  obtain ⟨hl, ho⟩ := ho
  rcases ho with ⟨rfl, h0⟩ | ⟨g, cap, cur, rfl, hbs, hblk, hle, _, _, _⟩
  · exact ⟨none, 0, [], by rw [h0], by omega, Or.inl ⟨h0, rfl⟩, List.nodup_nil, by simp⟩
  · refine ⟨_, cap, g :: bl, rfl, hle, Or.inr ⟨g, bl, rfl, rfl, hv.lay fun j hj => ⟨?_, ?_⟩⟩, List.nodup_cons.2 ⟨hg g rfl, hn⟩, fun k hk => ?_⟩
    · have := hc g rfl j xs[j] (by simp [hj])
      rw [Addr.add_lit, Nat.zero_add] at this
      rw [Nat.zero_add]
      exact this
    · simp [World.frozen?, hblk]
    · rcases List.mem_cons.1 hk with rfl | hk
      · exact ⟨hbs, (Array.getElem?_eq_some_iff.1 hblk).1⟩
      · exact hb k hk
/-- behind the append of a node -/
theorem grow_push {w w1 : World} {base : Nat} {v v' : Value} {F : Fo} {bl : List Nat} {xs : List Value} {k sp : Int} {n t : ByteArray} {al : List (ByteArray × ByteArray)} {kids : Fo} {A K : Option Addr} {ca ck : Nat} {ba bk : List Nat}
    (hv : FoVals w xs F bl) (hb : ∀ k ∈ bl ++ (ba ++ bk), base ≤ k ∧ k < w.heap.size) (hn : (bl ++ (ba ++ bk)).Nodup) (hg : ∀ k, v.ownBlock = some k → k ∉ bl ++ (ba ++ bk))
    (hz : n.size ≤ maxLen ∧ t.size ≤ maxLen) (h4 : al.length ≤ ca ∧ al.length ≤ maxLen ∧ AlRow w A al ba) (h5 : kids.len ≤ ck ∧ kids.len ≤ maxLen ∧ KRow w K kids bk)
    (hown : w1.ownsRow base 42 6 v' (F.len + 1) (xs ++ [.int .i64 k, .int .i64 sp, .string n, .string t, .slice A al.length ca, .slice K kids.len ck]))
    (hkeep : ∀ k, k < w.heap.size → v.ownBlock ≠ some k → w1.heap[k]? = w.heap[k]?) (hsz : w.heap.size ≤ w1.heap.size) (hat : v'.ownBlock = v.ownBlock ∨ ∃ q, v'.ownBlock = some q ∧ w.heap.size ≤ q) :
    GRow w1 base v' (F.app (.one k sp n t al kids)) (bl ++ (ba ++ bk)) := by
  have hk : ∀ q ∈ bl ++ (ba ++ bk), w1.heap[q]? = w.heap[q]? := fun q hq => hkeep q (hb q hq).2 fun e => hg q e hq
  refine ⟨_, by rw [Fo.len_app]; exact hown, (hv.app (S := .one k sp n t al kids) (b2 := ba ++ bk) ⟨A, K, ca, ck, ba, bk, [], [], rfl, by simp, hz, h4, h5, rfl, rfl⟩).same hk, hn, fun q hq => ⟨(hb q hq).1, Nat.lt_of_lt_of_le (hb q hq).2 hsz⟩, fun q hq hm => ?_⟩
  rcases hat with e | ⟨r, e, hr⟩
  · exact hg q (by rw [← e]; exact hq) hm
  · rw [e] at hq
    injection hq with hq
    have := (hb q hm).2
    omega
/-- the values of a row of attributes -/
def alVals : List (ByteArray × ByteArray) → List Value
  | [] => []
  | x :: r => .string x.1 :: .string x.2 :: alVals r
theorem alVals_len : ∀ al : List (ByteArray × ByteArray), (alVals al).length = al.length * 2
  | [] => rfl
  | _ :: r => by simp only [alVals, List.length_cons, alVals_len r]; omega
theorem alLay_of {w : World} {a : Nat} : ∀ {al : List (ByteArray × ByteArray)} {o : Nat}, (∀ x ∈ al, x.1.size ≤ maxLen ∧ x.2.size ≤ maxLen) → (∀ j (h : j < (alVals al).length), CellW w a (o + j) (alVals al)[j]) → AlLay w a o al
  | [], _, _, _ => trivial
  | x :: r, o, hs, hc => by
    have e := hs x (by simp)
    refine ⟨hc 0 (by simp [alVals]), hc 1 (by simp [alVals]), e.1, e.2, alLay_of (fun y hy => hs y (by simp [hy])) fun j hj => ?_⟩
    have := hc (j + 2) (by simp [alVals]; omega)
    rw [show o + 2 + j = o + (j + 2) by omega]
    simpa [alVals] using this
theorem arow_form {w : World} {base : Nat} {v : Value} {al : List (ByteArray × ByteArray)} (h : w.ownsRow base 45 2 v al.length (alVals al)) (hs : ∀ x ∈ al, x.1.size ≤ maxLen ∧ x.2.size ≤ maxLen) :
    ∃ A c ba, v = .slice A al.length c ∧ al.length ≤ c ∧ AlRow w A al ba ∧ ba.Nodup ∧ (∀ k ∈ ba, base ≤ k ∧ k < w.heap.size) ∧ ∀ k ∈ ba, v.ownBlock = some k := by
  have hc := fun g hg => World.ownsRow.cells h (g := g) hg
  obtain ⟨hl, ho⟩ := h
  rcases ho with ⟨rfl, h0⟩ | ⟨g, cap, cur, rfl, hbs, hblk, hle, _, _, _⟩
  · exact ⟨none, 0, [], by rw [h0], by omega, Or.inl ⟨List.length_eq_zero_iff.1 h0, rfl⟩, List.nodup_nil, by simp, by simp⟩
  · refine ⟨_, cap, [g], rfl, hle, Or.inr ⟨g, rfl, rfl, alLay_of hs fun j hj => ⟨?_, ?_⟩⟩, by simp, fun k hk => ?_, fun k hk => ?_⟩
    · have := hc g rfl j (alVals al)[j] (by simp [hj])
      rw [Addr.add_lit, Nat.zero_add] at this
      rw [Nat.zero_add]
      exact this
    · simp [World.frozen?, hblk]
    · rw [List.mem_singleton.1 hk]
      exact ⟨hbs, (Array.getElem?_eq_some_iff.1 hblk).1⟩
    · rw [List.mem_singleton.1 hk]; rfl
end Go.Proofs.YtpennadfomnenaaGreatDoor
namespace Go.Proofs.YtpennadfomnenaaGreatDoor
open Go.ChangeShapes Go.WideShapes Go.ChangeAt Go.RowKit Go.Deep

/-- the place of the first attribute of that name, from place k on -/
def idxAl : List (ByteArray × ByteArray) → ByteArray → Nat → Int
  | [], _, _ => -1
  | x :: r, n, k => if (x.1.toList == n.toList) = true then (k : Int) else idxAl r n (k + 1)
theorem idxAl_neg : ∀ (al : List (ByteArray × ByteArray)) (n : ByteArray) (k : Nat), idxAl al n k = -1 ∨ 0 ≤ idxAl al n k
  | [], _, _ => Or.inl rfl
  | x :: r, n, k => by
    rw [idxAl]; split
    · right; omega
    · exact idxAl_neg r n (k + 1)
theorem idxAl_none : ∀ (al : List (ByteArray × ByteArray)) (n : ByteArray) (k : Nat), idxAl al n k = -1 ↔ ∀ x ∈ al, x.1 ≠ n
  | [], _, _ => by simp [idxAl]
  | x :: r, n, k => by
    rw [idxAl]
    split
    · rename_i h
      refine ⟨fun e => by omega, fun h2 => absurd (str_ext (by simpa using h)) (h2 x (by simp))⟩
    · rename_i h
      rw [idxAl_none r n (k + 1)]
      simp only [List.mem_cons, forall_eq_or_imp]
      exact ⟨fun h2 => ⟨fun e => h (by rw [e]; simp), h2⟩, fun h2 => h2.2⟩
theorem named1_any (x : ByteArray × ByteArray) (n : ByteArray) (B : Nat) (w : World) (hB : B < w.heap.size) (hc : w.cell? ⟨B, 0, none⟩ = some (.string n)) :
    Calls Tryz.prog 235 #[.agg #[.string x.1, .string x.2], .pointer (some ⟨B, 0, none⟩)] w fun e w' => e = .returned (.bool (x.1.toList == n.toList)) ∧ Below w.heap.size w w' := by
  obtain ⟨m, v⟩ := x
  go_enter Tryz.func235, Tryz.ntmps235
  go_wp2
  go_ret
  exact ⟨rfl, by go_grown⟩
theorem indexAttr_any (al : List (ByteArray × ByteArray)) (n : ByteArray) (B : Nat) (w : World) (A : Option Addr) (c b o lo hi : Nat) (hA : RowAt lo hi A al.length b o) (hh : hi ≤ w.heap.size) (hal : AsAt w b o al)
    (hB : B < w.heap.size) (hc : w.cell? ⟨B, 0, none⟩ = some (.string n)) :
    Calls Tryz.prog 234 #[.slice A al.length c, .func (.func 235) #[] #[.pointer (some ⟨B, 0, none⟩)]] w fun e w' => e = .returned (.int .i64 (idxAl al n 0)) ∧ Below w.heap.size w w' := by
  have hlen := hA.1
  unfold maxLen at hlen
  have HA := Lib.hid hA
  have HS := Lib.hid hal
  have HC := Lib.hid hc
  clear hA hal hc
  go_enter Tryz.func234, Tryz.ntmps234
  go_wp2
  go_loopw [8] (fun i wr => ∃ (k : Nat) (suf : List (ByteArray × ByteArray)), i = .int .i64 (k : Int) ∧ k + suf.length = al.length ∧ Hid (AsAt w b (o + k * 2) suf ∧ Below w.heap.size w wr ∧ idxAl al n 0 = idxAl suf n k)) (fun i wr => al.length - (intOf i).toNat)
  case atStart => exact ⟨0, al, rfl, by omega, Lib.hid ⟨by simpa using HS.out, Below.refl _ _, rfl⟩⟩
  case round =>
    obtain ⟨k, suf, rfl, hk, HH⟩ := hrel
    cases suf with
    | nil =>
      have hkl : k = al.length := by simpa using hk
      clear hk
      subst hkl
      go_wp2
      go_ret
      exact ⟨by rw [HH.out.2.2]; rfl, HH.out.2.1⟩
    | cons x r =>
      obtain ⟨⟨s1, s2, s3, s4, s5⟩, hB2, he⟩ := HH.out
      obtain ⟨rfl, hlo, hhi⟩ := HA.out.2 (by simp at hk; omega)
      have t1 := (hB2.cell (p := ⟨b, o + k * 2, none⟩) (by show b < _; omega)).trans s1
      have t2 := (hB2.cell (p := ⟨b, o + k * 2 + 1, none⟩) (by show b < _; omega)).trans s2
      have H5 := Lib.hid s5
      have HB := Lib.hid hB2
      have HE := Lib.hid he
      simp at hk
      clear HH s1 s2 s5 hB2 he
      cases hq : (x.1.toList == n.toList) with
      | true =>
        have HQ := Lib.hid hq
        clear hq
        go_wp2_with (go_at_call 235; go_loud (refine (named1_any x n B _ (Nat.lt_of_lt_of_le hB HB.out.size) ((HB.out.cell (p := ⟨B, 0, none⟩) hB).trans HC.out)).mono ?_; rintro e w' ⟨rfl, hB'⟩; rw [HQ.out]; have HB' := Lib.hid hB'; clear hB'))
        go_ret
        exact ⟨by rw [HE.out, idxAl, if_pos HQ.out]; rfl, HB.out.trans (HB'.out.mono HB.out.size)⟩
      | false =>
        have HQ := Lib.hid hq
        clear hq
        go_wp2_with (go_at_call 235; go_loud (refine (named1_any x n B _ (Nat.lt_of_lt_of_le hB HB.out.size) ((HB.out.cell (p := ⟨B, 0, none⟩) hB).trans HC.out)).mono ?_; rintro e w' ⟨rfl, hB'⟩; rw [HQ.out]; have HB' := Lib.hid hB'; clear hB'))
        go_roundw
        case rel => exact ⟨k + 1, r, by go_num, by omega, Lib.hid ⟨by rw [show o + (k + 1) * 2 = o + k * 2 + 2 by omega]; exact H5.out, HB.out.trans (HB'.out.mono HB.out.size), by rw [HE.out, idxAl, if_neg (by rw [HQ.out]; simp)]⟩⟩
        case measure => simp [intOf]; omega
theorem placeOfAttr_any (al : List (ByteArray × ByteArray)) (n : ByteArray) (w : World) (A : Option Addr) (c b o lo hi : Nat) (hA : RowAt lo hi A al.length b o) (hh : hi ≤ w.heap.size) (hal : AsAt w b o al) :
    Calls Tryz.prog 199 #[.slice A al.length c, .string n] w fun e w' => e = .returned (.int .i64 (idxAl al n 0)) ∧ Below w.heap.size w w' := by
  have hmf : ∀ (fn : Fn) (first cap : Array Value) (w : World), (Instr.makeFunc fn first cap).run Tryz.prog w = .ok (.func fn first cap) w := fun _ _ _ _ => rfl
  have HA := Lib.hid hA
  have HS := Lib.hid hal
  clear hA hal
  go_enter Tryz.func199, Tryz.ntmps199
  go_wp2_with (go_at_call 234; refine (indexAttr_any al n w.heap.size _ A c b o lo hi HA.out ?i1 ?i2 ?i3 ?i4).mono ?i5)
  case i1 => simp; omega
  case i2 => exact HS.out.but HA.out ((But.refl No w).alloc _) hh (fun _ h => h.elim)
  case i3 => simp
  case i4 => exact new_cell rfl
  case i5 =>
    rintro e w' ⟨rfl, hB'⟩
    have HB' := Lib.hid hB'
    clear hB'
    go_wp2
    go_ret
    exact ⟨rfl, ((Below.refl _ _).alloc (Nat.le_refl _) _).trans (HB'.out.mono (by simp))⟩
noncomputable def attrB (x : ByteArray × ByteArray) : Bool := namedB small tagB x.1 && decide (x.2.size ≤ 40)
theorem attrB_iff (x : ByteArray × ByteArray) : attrB x = true ↔ AttrIs x := by simp [attrB, AttrIs]
theorem attrOK_any (x : ByteArray × ByteArray) (w : World) (h1 : x.1.size ≤ maxLen) (h2 : x.2.size ≤ maxLen) :
    Calls Tryz.prog 198 #[.agg #[.string x.1, .string x.2]] w fun e w' => e = .returned (.bool (attrB x)) ∧ Below w.heap.size w w' := by
  obtain ⟨n, v⟩ := x
  simp only at h1 h2
  have H1 := Lib.hid h1
  clear h1
  unfold maxLen at h2
  cases hn : namedB small tagB n with
  | true =>
    have HN := Lib.hid hn
    clear hn
    go_enter Tryz.func198, Tryz.ntmps198
    go_wp2_with (go_at_call 68; refine (implTagOK_any n _ H1.out).mono ?_; rintro e w' ⟨rfl, rfl⟩; rw [HN.out])
    go_ret
    exact ⟨ret_bool (by simp [attrB, HN.out]; omega), by go_grown⟩
  | false =>
    have HN := Lib.hid hn
    clear hn
    go_enter Tryz.func198, Tryz.ntmps198
    go_wp2_with (go_at_call 68; refine (implTagOK_any n _ H1.out).mono ?_; rintro e w' ⟨rfl, rfl⟩; rw [HN.out])
    go_ret
    exact ⟨ret_bool (by simp [attrB, HN.out]), by go_grown⟩
end Go.Proofs.YtpennadfomnenaaGreatDoor
