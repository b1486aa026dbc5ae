import Derived.Test.YtgkkmoliobhpiaaGreatDoorDsA
import Derived.Test.YtgkkmoliobhpiaaGreatDoorTokA
import Derived.Test.YtgkkmoliobhpiaaGreatDoorTkB
import Derived.Deep.RegionHeld3
import Derived.Deep.RegionWith
namespace Go.Proofs.YtgkkmoliobhpiaaGreatDoor
open Go.ChangeShapes Go.WideShapes Go.ChangeAt Go.RowKit Go.Deep

/-- a token's seven cells -/
def tkCells (T : Tk) (r : Ds) : Ds := .atom (.int .i64 T.k) (.atom (.int .i64 (T.a : Int)) (.atom (.int .i64 (T.l : Int)) (.atom (.string T.n) (.atom (.string T.t) (.attrs T.al (.atom (.bool T.s) r))))))
def tkDs : List Tk → Ds
  | [] => .nil
  | T :: r => tkCells T (tkDs r)
theorem tkDs_app : ∀ P Q : List Tk, tkDs (P ++ Q) = (tkDs P).app (tkDs Q)
  | [], _ => rfl
  | T :: r, Q => by simp only [List.cons_append, tkDs, tkCells, Ds.app, tkDs_app r Q]
theorem tkDs_len : ∀ L : List Tk, (tkDs L).len = 7 * L.length
  | [] => rfl
  | T :: r => by simp only [tkDs, tkCells, Ds.len, tkDs_len r, List.length_cons]; omega
theorem tkDs_cons (T : Tk) (r : List Tk) : tkDs (T :: r) = (tkCells T .nil).app (tkDs r) := rfl
def stampTk (T : Tk) (m : Nat) : Tk := ⟨m, m + 1, m + 2, markT (m + 3), markT (m + 4), markAl T.al (m + 5), (((m + 5 + 2 * T.al.length : Nat) : Int) % 3 == 0)⟩
def cntT : List Tk → Nat
  | [] => 0
  | T :: r => 6 + 2 * T.al.length + cntT r
def markTks : List Tk → Nat → List Tk
  | [], _ => []
  | T :: r, m => stampTk T m :: markTks r (m + (6 + 2 * T.al.length))
theorem markTks_len : ∀ (L : List Tk) (m : Nat), (markTks L m).length = L.length
  | [], _ => rfl
  | T :: r, m => by simp [markTks, markTks_len r]
theorem cntT_app : ∀ P Q : List Tk, cntT (P ++ Q) = cntT P + cntT Q
  | [], Q => by simp [cntT]
  | T :: r, Q => by simp only [List.cons_append, cntT, cntT_app r Q]; omega
theorem markTks_snoc : ∀ (P : List Tk) (T : Tk) (m : Nat), markTks (P ++ [T]) m = markTks P m ++ [stampTk T (m + cntT P)]
  | [], _, _ => rfl
  | S :: r, T, m => by
    simp only [List.cons_append, markTks, markTks_snoc r, cntT]
    rw [show m + (6 + 2 * S.al.length) + cntT r = m + (6 + 2 * S.al.length + cntT r) by omega]

set_option maxHeartbeats 4000000 in
theorem markTokenS_any (L : List Tk) (m : Nat) (w : World) (A : Option Addr) (c : Nat) (bl0 : List Nat) (h1 : 1 ≤ m) (h2 : m + cntT L ≤ 1073741824) (hlen : L.length ≤ maxLen) (hK : DRow w A L.length (tkDs L) bl0) (hnd : bl0.Nodup) (hbl : ∀ k ∈ bl0, k < w.heap.size) :
    Calls Tryz.prog 17 #[.slice A L.length c, .int .i64 (m : Int)] w fun e w' => e = .returned (.int .i64 ((m + cntT L : Nat) : Int)) ∧ DRow w' A L.length (tkDs (markTks L m)) bl0 ∧ OnlyAt w w' bl0 := by
  rcases hK with ⟨h0, _, rfl⟩ | ⟨g, bl, rfl, rfl, hl⟩
  · obtain rfl := List.length_eq_zero_iff.1 h0
    simp only [List.length_nil]
    clear hlen h0 hnd hbl
    go_enter Tryz.func17, Tryz.ntmps17
    go_wp2
    refine wp_loop_rounds 1 ?_
    rw [rounds_succ]
    go_wp2
    go_ret
    exact ⟨rfl, Or.inl ⟨rfl, rfl, rfl⟩, But.refl _ _⟩
  · have HL := Lib.hid hl
    have HN := Lib.hid (And.intro hnd hbl)
    unfold maxLen at hlen
    clear hl hnd hbl
    go_enter Tryz.func17, Tryz.ntmps17
    go_wp2
    go_loopw [1, 5] (fun x i wr => ∃ (k mm : Nat) (pre suf : List Tk), x = .int .i64 (mm : Int) ∧ i = .int .i64 (k : Int) ∧ L = pre ++ suf ∧ pre.length = k ∧ mm = m + cntT pre ∧ Hid (DLay wr g 0 ((tkDs (markTks pre m)).app (tkDs suf)) bl ∧ OnlyAt w wr (g :: bl))) (fun x i wr => L.length - (intOf i).toNat)
    case atStart => exact ⟨0, m, [], L, rfl, rfl, rfl, rfl, by simp [cntT], Lib.hid ⟨HL.out, But.refl _ _⟩⟩
    case round =>
      obtain ⟨k, mm, pre, suf, rfl, rfl, hp, hk, hmm, HH⟩ := hrel
      have HP := Lib.hid hp
      cases suf with
      | nil =>
        have hkl : k = L.length := by rw [hp, List.append_nil, hk]
        have hm : mm = m + cntT L := by rw [hmm, hp, List.append_nil]
        clear hp hk hmm
        subst hkl
        subst hm
        go_wp2
        go_ret
        obtain ⟨i1, i2⟩ := HH.out
        have hp := HP.out
        rw [List.append_nil] at hp
        rw [show (tkDs ([] : List Tk)) = .nil from rfl, Ds.app_nil] at i1
        exact ⟨rfl, Or.inr ⟨g, bl, rfl, rfl, by rw [hp]; exact i1⟩, i2⟩
      | cons T r =>
        have hkl : k < L.length := by rw [hp, List.length_append, hk]; simp
        have hcnt : mm + 6 + 2 * T.al.length + cntT r = m + cntT L := by rw [hp, cntT_app, hmm]; simp only [cntT]; omega
        obtain ⟨i1, i2⟩ := HH.out
        rw [tkDs_cons] at i1
        obtain ⟨bp, bf, br, hbl, hin⟩ := DIn.enter i1 HN.out.1 (fun k hk => Nat.lt_of_lt_of_le (HN.out.2 k hk) i2.size)
        rw [tkDs_len, markTks_len, hk, show 7 * k = k * 7 by omega] at hin
        have hk1 : 1 ≤ mm := by omega
        have HK := Lib.hid (And.intro hk hmm)
        have HO := Lib.hid (And.intro i2 hbl)
        have hin0 : DIn (wr.setCell ⟨g, k * 7, none⟩ (.int .i64 (mm : Int))) _ _ _ _ _ _ _ _ := hin.put (j := 0) rfl (.int .i64 (mm : Int))
        have hin1 := hin0.put (j := 1) rfl (.int .i64 ((mm : Int) + 1))
        have c0 : wr.cell? ⟨g, k * 7, none⟩ = some _ := (hin.cell (j := 0) rfl).1
        have f0 : wr.frozen? ⟨g, k * 7, none⟩ = false := (hin.cell (j := 0) rfl).2
        have c1 := (hin0.cell (j := 1) rfl).1
        have f1 := (hin.cell (j := 1) rfl).2
        have c1' := (hin.cell (j := 1) rfl).1
        have c2' := (hin1.cell (j := 2) rfl).1
        have f2 := (hin.cell (j := 2) rfl).2
        have c2 := (hin.cell (j := 2) rfl).1
        have I2 := Lib.hid (hin1.put (j := 2) rfl (.int .i64 ((mm : Int) + 1 + 1)))
        have hg : g < wr.heap.size := hin.lt g (by simp)
        clear HH hp hk hmm i1 i2 hbl hin hin0 hin1
        go_wp2_with fail
        rw [show ((mm : Int) + 1 + 1 + 1) = ((mm + 3 : Nat) : Int) by omega]
        refine (markText_any (mm + 3) (by omega) (by omega) _).mono ?_
        rintro e w1 ⟨rfl, hB⟩
        have hN := I2.out.same hB
        have d3 := (hN.cell (j := 3) rfl).1
        have e3 := (hN.cell (j := 3) rfl).2
        have J := Lib.hid (hN.put (j := 3) rfl (.string (markT (mm + 3))))
        have O1 := Lib.hid (But.setCell (OnlyAt.then (l := g :: bl) ((((But.refl (fun k => k ∈ g :: bl) wr).setCell (p := ⟨g, k * 7, none⟩) (Or.inl (by simp)) (.int .i64 (mm : Int))).setCell (p := ⟨g, k * 7 + 1, none⟩) (Or.inl (by simp)) (.int .i64 ((mm : Int) + 1))).setCell (p := ⟨g, k * 7 + 2, none⟩) (Or.inl (by simp)) (.int .i64 ((mm : Int) + 1 + 1))) (OnlyAt.low hB _)) (p := ⟨g, k * 7 + 3, none⟩) (Or.inl (by simp)) (.string (markT (mm + 3))))
        clear hB hN
        go_wp2_with fail
        rw [show ((mm : Int) + 3 + 1) = ((mm + 4 : Nat) : Int) by omega]
        refine (markText_any (mm + 4) (by omega) (by omega) _).mono ?_
        rintro e w2 ⟨rfl, hB⟩
        have hN := J.out.same hB
        have d4 := (hN.cell (j := 4) rfl).1
        have e4 := (hN.cell (j := 4) rfl).2
        have hP := hN.put (j := 4) rfl (.string (markT (mm + 4)))
        obtain ⟨A4, ca, ba, ⟨h5, h5l, h5m, h5r, h5i⟩, hlens⟩ := hP.attrs (j := 5) rfl
        have d5 := h5.1
        have J2 := Lib.hid h5r
        have JL := Lib.hid hlens
        have JI := Lib.hid h5i
        have O2 := Lib.hid (But.setCell (OnlyAt.then (l := g :: bl) O1.out (OnlyAt.low hB _)) (p := ⟨g, k * 7 + 4, none⟩) (Or.inl (by simp)) (.string (markT (mm + 4))))
        clear hB hN hP h5 h5l h5m h5r h5i hlens
        go_wp2_with fail
        rw [show ((mm : Int) + 4 + 1) = ((mm + 5 : Nat) : Int) by omega]
        refine (markAttrS_any T.al (mm + 5) _ A4 ca ba (by omega) (by omega) J2.out).mono ?_
        rintro e w3 ⟨rfl, ha, hB⟩
        have hN := JL.out w3 (markAl T.al (mm + 5)) (markAl_len _ _) hB ha
        have d6 := (hN.cell (j := 6) rfl).1
        have e6 := (hN.cell (j := 6) rfl).2
        have J3 := Lib.hid (hN.put (j := 6) rfl (.bool (((mm + 5 + 2 * T.al.length : Nat) : Int) % 3 == 0)))
        have O3 := Lib.hid (But.setCell (OnlyAt.then (l := g :: bl) O2.out (OnlyAt.sub hB fun q hq => by rw [HO.out.2]; simp [JI.out q hq])) (p := ⟨g, k * 7 + 6, none⟩) (Or.inl (by simp)) (.bool (((mm + 5 + 2 * T.al.length : Nat) : Int) % 3 == 0)))
        clear hB ha hN d5 d4 e4 d3 e3 c0 f0 c1 f1 c1' c2' f2 c2
        go_wp2_with fail
        have eb : ((mm + 5 + 2 * T.al.length : Nat) : Int) = (mm : Int) + 5 + 2 * (T.al.length : Int) := by omega
        rw [← eb]
        refine ⟨⟨k + 1, mm + 6 + 2 * T.al.length, pre ++ [T], r, by go_num, by go_num, by rw [HP.out, List.append_assoc]; rfl, by rw [List.length_append, HK.out.1]; rfl, by rw [cntT_app, HK.out.2]; simp only [cntT]; omega, Lib.hid ⟨?_, OnlyAt.then HO.out.1 O3.out⟩⟩, by simp only [intOf]; omega⟩
        have J4 := J3.out
        rw [show ((mm : Int) + 1 + 1) = ((mm + 2 : Nat) : Int) by omega, show ((mm : Int) + 1) = ((mm + 1 : Nat) : Int) by omega] at J4
        rw [markTks_snoc, tkDs_app, Ds.app_assoc, HO.out.2, ← HK.out.2]
        exact J4.leave
end Go.Proofs.YtgkkmoliobhpiaaGreatDoor
namespace Go.Proofs.YtgkkmoliobhpiaaGreatDoor
open Go.ChangeShapes Go.WideShapes Go.ChangeAt Go.RowKit Go.Deep

theorem AlRow.rd {w : World} {A : Option Addr} {c : Nat} {al : List (ByteArray × ByteArray)} {ba : List Nat} (h : AlRow w A al ba) (h1 : al.length ≤ c) (h2 : al.length ≤ maxLen) : ∃ b, RowC 0 w.heap.size A al.length c b 0 ∧ AsAt w b 0 al := by
  rcases h with ⟨e1, e2⟩ | ⟨a, e1, e2, e3⟩
  · subst e1
    exact ⟨0, ⟨h1, h2, fun h => absurd h (Nat.lt_irrefl _)⟩, trivial⟩
  · refine ⟨a, ⟨h1, h2, fun hp => ⟨e1, Nat.zero_le _, ?_⟩⟩, e3.at⟩
    cases al with
    | nil => simp at hp
    | cons x r => exact e3.1.lt
theorem DLay.tk {w : World} {g o : Nat} {T : Tk} {r : Ds} {bl : List Nat} (h : DLay w g o (tkCells T r) bl) :
    ∃ A c ba br, (w.cell? ⟨g, o, none⟩ = some (.int .i64 T.k) ∧ w.cell? ⟨g, o + 1, none⟩ = some (.int .i64 (T.a : Int)) ∧ w.cell? ⟨g, o + 2, none⟩ = some (.int .i64 (T.l : Int)) ∧ w.cell? ⟨g, o + 3, none⟩ = some (.string T.n) ∧ w.cell? ⟨g, o + 4, none⟩ = some (.string T.t) ∧
      w.cell? ⟨g, o + 5, none⟩ = some (.slice A T.al.length c) ∧ w.cell? ⟨g, o + 6, none⟩ = some (.bool T.s)) ∧ (∃ b, RowC 0 w.heap.size A T.al.length c b 0 ∧ AsAt w b 0 T.al) ∧ g < w.heap.size ∧ DLay w g (o + 7) r br ∧ bl = ba ++ br := by
  obtain ⟨s0, s1, s2, s3, s4, A, c, ba, br, e, ⟨s5, l1, l2, ar⟩, s6, sr⟩ := h
  exact ⟨A, c, ba, br, ⟨s0.1, s1.1, s2.1, s3.1, s4.1, s5.1, s6.1⟩, ar.rd l1 l2, s0.lt, sr, e⟩
theorem heldAttrS_at (i : Int) (al : List (ByteArray × ByteArray)) (m : Nat) (hi : i = (m : Int)) (w : World) (A : Option Addr) (c b o lo hi' : Nat) (h1 : 1 ≤ m) (h2 : m + 2 * al.length ≤ 1073741824) (hA : RowAt lo hi' A al.length b o) (hh : hi' ≤ w.heap.size) (hal : AsAt w b o (markAl al m)) :
    Calls Tryz.prog 31 #[.slice A al.length c, .int .i64 i] w fun e w' => e = .returned (.int .i64 ((m + 2 * al.length : Nat) : Int)) ∧ Below w.heap.size w w' := by
  subst hi; exact heldAttrS_any al m w A c b o lo hi' h1 h2 hA hh hal

set_option maxHeartbeats 4000000 in
theorem heldTokenS_any (L : List Tk) (m : Nat) (w : World) (A : Option Addr) (c : Nat) (bl : List Nat) (h1 : 1 ≤ m) (h2 : m + cntT L ≤ 1073741824) (hlen : L.length ≤ maxLen) (hK : DRow w A L.length (tkDs (markTks L m)) bl) :
    Calls Tryz.prog 18 #[.slice A L.length c, .int .i64 (m : Int)] w fun e w' => e = .returned (.int .i64 ((m + cntT L : Nat) : Int)) ∧ Below w.heap.size w w' := by
  rcases hK with ⟨h0, _, rfl⟩ | ⟨g, b', rfl, rfl, hl⟩
  · obtain rfl := List.length_eq_zero_iff.1 h0
    simp only [List.length_nil]
    have HB := Lib.hid (Below.refl w.heap.size w)
    clear hlen h0
    go_enter Tryz.func18, Tryz.ntmps18
    go_wp2
    refine wp_loop_rounds 1 ?_
    rw [rounds_succ]
    go_wp2
    go_ret
    exact ⟨rfl, HB.out⟩
  · have HL := Lib.hid hl
    unfold maxLen at hlen
    clear hl
    go_enter Tryz.func18, Tryz.ntmps18
    go_wp2
    go_loopw [1, 5] (fun x i wr => ∃ (k mm : Nat) (suf : List Tk), x = .int .i64 (mm : Int) ∧ i = .int .i64 (k : Int) ∧ k + suf.length = L.length ∧ mm + cntT suf = m + cntT L ∧ 1 ≤ mm ∧ Hid ((∃ bl, DLay w g (k * 7) (tkDs (markTks suf mm)) bl) ∧ Below w.heap.size w wr)) (fun x i wr => L.length - (intOf i).toNat)
    case atStart => exact ⟨0, m, L, rfl, rfl, by omega, rfl, h1, Lib.hid ⟨⟨b', by simpa using HL.out⟩, Below.refl _ _⟩⟩
    case round =>
      obtain ⟨k, mm, suf, rfl, rfl, hk, hmm, hm1, HH⟩ := hrel
      cases suf with
      | nil =>
        have hkl : k = L.length := by simpa using hk
        have hml : mm = m + cntT L := by simpa [cntT] using hmm
        clear hk hmm
        subst hkl
        subst hml
        go_wp2
        go_ret
        exact ⟨rfl, HH.out.2⟩
      | cons T r =>
        obtain ⟨⟨bl, hd⟩, hB⟩ := HH.out
        obtain ⟨A4, c4, ba, br, ⟨s0, s1, s2, s3, s4, s5, s6⟩, ⟨b4, r4, a4⟩, hb, sr, _⟩ := DLay.tk hd
        simp only [stampTk] at s0 s1 s2 s3 s4 s5 s6 r4 a4
        rw [markAl_len] at s5 r4
        simp only [List.length_cons] at hk
        simp only [cntT] at hmm
        have hkl : k < L.length := by omega
        have t0 := (hB.cell (p := ⟨g, k * 7, none⟩) hb).trans s0
        have t1 := (hB.cell (p := ⟨g, k * 7 + 1, none⟩) hb).trans s1
        have t2 := (hB.cell (p := ⟨g, k * 7 + 2, none⟩) hb).trans s2
        have t3 := (hB.cell (p := ⟨g, k * 7 + 3, none⟩) hb).trans s3
        have e1 : (((mm + 1 : Nat) : Int) != (mm : Int) + 1) = false := by simp
        have e2 : (((mm + 2 : Nat) : Int) != (mm : Int) + 1 + 1) = false := by simp; omega
        have HC := Lib.hid (And.intro s3 (And.intro s4 (And.intro s5 s6)))
        have H4 := Lib.hid (And.intro r4 a4)
        have HR := Lib.hid sr
        have HB := Lib.hid hB
        clear HH s0 s1 s2 s3 s4 s5 s6 sr hB r4 a4 hd
        go_wp2_with fail
        have hbr : g < wr.heap.size := Nat.lt_of_lt_of_le hb HB.out.size
        go_region_held3 (fun w' => w'.cell? ⟨g, k * 7 + 3, none⟩ = some (.string (markT (mm + 3)))) (first | exact u3 | go_keep) (first | (go_at_call 32; refine (markText_at (mm + 3) _ (by omega) (by omega) (by omega) _).mono ?_; rintro e w1 ⟨rfl, hB1⟩; have u3 := (hB1.cell (p := ⟨g, k * 7 + 3, none⟩) hbr).trans t3; have B1 := Lib.hid (HB.out.drew.trans (hB1.mono HB.out.size)); clear hB1))
        have hb1 : g < w1.heap.size := Nat.lt_of_lt_of_le hb B1.out.size
        have v4 := (B1.out.cell (p := ⟨g, k * 7 + 4, none⟩) hb).trans HC.out.2.1
        go_wp2_with fail
        go_region_held3 (fun w' => w'.cell? ⟨g, k * 7 + 4, none⟩ = some (.string (markT (mm + 4)))) (first | exact u4 | go_keep) (first | (go_at_call 32; refine (markText_at (mm + 4) _ (by omega) (by omega) (by omega) _).mono ?_; rintro e w2 ⟨rfl, hB2⟩; have u4 := (hB2.cell (p := ⟨g, k * 7 + 4, none⟩) hb1).trans v4; have B2 := Lib.hid (B1.out.drew.trans (hB2.mono B1.out.size)); clear hB2))
        have v5 := (B2.out.cell (p := ⟨g, k * 7 + 5, none⟩) hb).trans HC.out.2.2.1
        clear t0 t1 t2 t3 v4 u3 u4 e1 e2
        go_wp2_with fail
        refine (heldAttrS_at _ T.al (mm + 5) (by omega) _ A4 c4 b4 0 0 w.heap.size (by omega) (by omega) H4.out.1.2 B2.out.size (AsAt.but (al := markAl T.al (mm + 5)) (by rw [markAl_len]; exact H4.out.1.2) H4.out.2 (But.of_below (C := No) B2.out) (Nat.le_refl _) (fun _ h => False.elim h))).mono ?_
        rintro e w3 ⟨rfl, hB3⟩
        have B3 := Lib.hid (B2.out.trans (hB3.mono B2.out.size))
        have v6 := (B3.out.cell (p := ⟨g, k * 7 + 6, none⟩) hb).trans HC.out.2.2.2
        have hnn : (0 : Int) ≤ ((mm + 5 + 2 * T.al.length : Nat) : Int) := by omega
        clear hB3 v5
        go_wp2_with fail
        exact ⟨⟨k + 1, mm + (6 + 2 * T.al.length), r, congrArg (Value.int .i64) (by omega), by go_num, by omega, by omega, by omega, Lib.hid ⟨⟨br, by rw [show (k + 1) * 7 = k * 7 + 7 by omega]; exact HR.out⟩, B3.out⟩⟩, by simp only [intOf]; omega⟩

set_option maxHeartbeats 4000000 in
theorem eqTokenS_same (L : List Tk) (w : World) (A A' : Option Addr) (c c' : Nat) (bl bl' : List Nat) (hlen : L.length ≤ maxLen) (hK : DRow w A L.length (tkDs L) bl) (hK' : DRow w A' L.length (tkDs L) bl') :
    Calls Tryz.prog 16 #[.slice A L.length c, .slice A' L.length c'] w fun e w' => e = .returned (.bool true) ∧ Below w.heap.size w w' := by
  have HB := Lib.hid (Below.refl w.heap.size w)
  rcases hK with ⟨h0, _, rfl⟩ | ⟨g, b1, rfl, rfl, hl⟩
  · obtain rfl := List.length_eq_zero_iff.1 h0
    simp only [List.length_nil]
    clear hlen h0 hK'
    go_enter Tryz.func16, Tryz.ntmps16
    go_wp2
    refine wp_loop_rounds 1 ?_
    rw [rounds_succ]
    go_wp2
    go_ret
    exact ⟨rfl, HB.out⟩
  · rcases hK' with ⟨h0, _, rfl⟩ | ⟨g', b1', rfl, rfl, hl'⟩
    · obtain rfl := List.length_eq_zero_iff.1 h0
      simp only [List.length_nil]
      clear hlen h0 hl
      go_enter Tryz.func16, Tryz.ntmps16
      go_wp2
      refine wp_loop_rounds 1 ?_
      rw [rounds_succ]
      go_wp2
      go_ret
      exact ⟨rfl, HB.out⟩
    · have HL := Lib.hid (And.intro hl hl')
      unfold maxLen at hlen
      clear hl hl'
      go_enter Tryz.func16, Tryz.ntmps16
      go_wp2
      go_loopw [5] (fun i wr => ∃ (k : Nat) (suf : List Tk), i = .int .i64 (k : Int) ∧ k + suf.length = L.length ∧ Hid ((∃ bl, DLay w g (k * 7) (tkDs suf) bl) ∧ (∃ bl, DLay w g' (k * 7) (tkDs suf) bl) ∧ Below w.heap.size w wr)) (fun i wr => L.length - (intOf i).toNat)
      case atStart => exact ⟨0, L, rfl, by omega, Lib.hid ⟨⟨b1, by simpa using HL.out.1⟩, ⟨b1', by simpa using HL.out.2⟩, Below.refl _ _⟩⟩
      case round =>
        obtain ⟨k, suf, rfl, hk, HH⟩ := hrel
        cases suf with
        | nil =>
          have hkl : k = L.length := by simpa using hk
          clear hk
          subst hkl
          go_wp2
          go_ret
          exact ⟨rfl, HH.out.2.2⟩
        | cons T r =>
          obtain ⟨⟨bl, hd⟩, ⟨bl', hd'⟩, hB⟩ := HH.out
          obtain ⟨A4, c4, ba, br, ⟨s0, s1, s2, s3, s4, s5, s6⟩, ⟨b4, r4, a4⟩, hb, sr, _⟩ := DLay.tk hd
          obtain ⟨A4', c4', ba', br', ⟨s0', s1', s2', s3', s4', s5', s6'⟩, ⟨b4', r4', a4'⟩, hb', sr', _⟩ := DLay.tk hd'
          simp only [List.length_cons] at hk
          have hkl : k < L.length := by omega
          have t0 := (hB.cell (p := ⟨g, k * 7, none⟩) hb).trans s0
          have t1 := (hB.cell (p := ⟨g, k * 7 + 1, none⟩) hb).trans s1
          have t2 := (hB.cell (p := ⟨g, k * 7 + 2, none⟩) hb).trans s2
          have t3 := (hB.cell (p := ⟨g, k * 7 + 3, none⟩) hb).trans s3
          have t4 := (hB.cell (p := ⟨g, k * 7 + 4, none⟩) hb).trans s4
          have t5 := (hB.cell (p := ⟨g, k * 7 + 5, none⟩) hb).trans s5
          have t6 := (hB.cell (p := ⟨g, k * 7 + 6, none⟩) hb).trans s6
          have q0 := (hB.cell (p := ⟨g', k * 7, none⟩) hb').trans s0'
          have q1 := (hB.cell (p := ⟨g', k * 7 + 1, none⟩) hb').trans s1'
          have q2 := (hB.cell (p := ⟨g', k * 7 + 2, none⟩) hb').trans s2'
          have q3 := (hB.cell (p := ⟨g', k * 7 + 3, none⟩) hb').trans s3'
          have q4 := (hB.cell (p := ⟨g', k * 7 + 4, none⟩) hb').trans s4'
          have q5 := (hB.cell (p := ⟨g', k * 7 + 5, none⟩) hb').trans s5'
          have q6 := (hB.cell (p := ⟨g', k * 7 + 6, none⟩) hb').trans s6'
          have H4 := Lib.hid (And.intro (And.intro r4 a4) (And.intro r4' a4'))
          have HR := Lib.hid (And.intro sr sr')
          have HB2 := Lib.hid hB
          clear HH s0 s1 s2 s3 s4 s5 s6 sr hB r4 a4 hd s0' s1' s2' s3' s4' s5' s6' sr' r4' a4' hd' hb hb'
          go_wp2
          go_region_with (go_at_call 13; refine (eqToken_same T.k T.a T.l T.n T.t T.al T.s _ A4 A4' c4 c4' b4 0 b4' 0 0 w.heap.size 0 w.heap.size H4.out.1.1.2 ?_ ?_ H4.out.2.1.2 ?_ ?_).mono ?_; exact AsAt.but (al := T.al) H4.out.1.1.2 H4.out.1.2 (But.of_below (C := No) HB2.out.drew) (Nat.le_refl _) (fun _ h => False.elim h); exact HB2.out.drew.size; exact AsAt.but (al := T.al) H4.out.2.1.2 H4.out.2.2 (But.of_below (C := No) HB2.out.drew) (Nat.le_refl _) (fun _ h => False.elim h); exact HB2.out.drew.size; rintro e w1 ⟨rfl, hB1⟩; have B1 : Hid (Below w.heap.size w w1) := Lib.hid (HB2.out.drew.trans (hB1.mono HB2.out.drew.size)); clear hB1)
          all_goals
            go_wp2
            go_roundw
            case rel => exact ⟨k + 1, r, by go_num, by omega, Lib.hid ⟨⟨br, by rw [show (k + 1) * 7 = k * 7 + 7 by omega]; exact HR.out.1⟩, ⟨br', by rw [show (k + 1) * 7 = k * 7 + 7 by omega]; exact HR.out.2⟩, B1.out⟩⟩
            case measure => simp [intOf]; omega
end Go.Proofs.YtgkkmoliobhpiaaGreatDoor
