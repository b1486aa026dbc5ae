import Derived.Test.YtgkkmoliobhpiaaGreatDoorDsA
import Derived.Test.YtgkkmoliobhpiaaGreatDoorTDsA
import Derived.Test.YtgkkmoliobhpiaaGreatDoorLawNext
import Derived.Test.YtgkkmoliobhpiaaGreatDoorSwitch
namespace Go.Proofs.YtgkkmoliobhpiaaGreatDoor
open Go.ChangeShapes Go.WideShapes Go.ChangeAt Go.RowKit Go.Deep

theorem scan_le {s : ByteArray} : ∀ (k i : Nat) (al : List (ByteArray × ByteArray)) (f : Bool), i ≤ s.size → i ≤ (scan s k i al f).1 ∧ (scan s k i al f).1 ≤ s.size := by
  intro k
  induction k with
  | zero => intro i al f h; exact ⟨Nat.le_refl _, h⟩
  | succ k ih =>
    intro i al f h
    rw [scan]
    split
    · exact ⟨Nat.le_refl _, h⟩
    · rename_i hn
      have hlt : i < s.size := by
        rcases Nat.lt_or_ge i s.size with h1 | h1
        · exact h1
        · exact absurd (Or.inl (show byteAt s i = -1 from dif_neg (by omega))) hn
      split
      · have := ih (i + 1) al (byteAt s i == 47) hlt; exact ⟨by omega, this.2⟩
      · have h1 := attr_le hlt
        have := ih (attrOf s i).2.2 (keepA al (attrOf s i).1 (attrOf s i).2.1) false h1.2.1
        exact ⟨by omega, this.2⟩
theorem openOf_len {s : ByteArray} {a : Nat} (ha : a < s.size) : 1 ≤ (openOf s a).l ∧ a + (openOf s a).l ≤ s.size := by
  have hn := runAt_le inName s (a + 1) ha
  have h := scan_le s.size (a + 1 + runAt inName s (a + 1)) [] false hn
  unfold openOf
  dsimp only
  split
  · exact ⟨by show 1 ≤ s.size - a; omega, by show a + (s.size - a) ≤ s.size; omega⟩
  · rename_i hlt
    split
    · exact ⟨by show 1 ≤ (scan s s.size (a + 1 + runAt inName s (a + 1)) [] false).1 + 1 - a; omega, by show a + ((scan s s.size (a + 1 + runAt inName s (a + 1)) [] false).1 + 1 - a) ≤ s.size; omega⟩
    · exact ⟨by show 1 ≤ (scan s s.size (a + 1 + runAt inName s (a + 1)) [] false).1 + 1 - a; omega, by show a + ((scan s s.size (a + 1 + runAt inName s (a + 1)) [] false).1 + 1 - a) ≤ s.size; omega⟩
theorem wordsTk_len {s : ByteArray} {a : Nat} (ha : a < s.size) : 1 ≤ (wordsTk s a).l ∧ a + (wordsTk s a).l ≤ s.size := by
  have := runAt_le inWord s (a + 1) ha
  exact ⟨by show 1 ≤ 1 + _; omega, by show a + (1 + _) ≤ _; omega⟩
theorem commentTk_len {s what : ByteArray} {a i : Nat} (hi : a < i) (hs : i ≤ s.size) : 1 ≤ (commentTk s what a i).l ∧ a + (commentTk s what a i).l ≤ s.size := by
  have h := find_le s what i hs
  show 1 ≤ commentLen s what a i ∧ a + commentLen s what a i ≤ s.size
  unfold commentLen
  split
  · rename_i hk; have := h.2.2 hk; omega
  · omega
theorem closeTk_len {s : ByteArray} {a : Nat} (ha : a + 2 ≤ s.size) : 1 ≤ (closeTk s a).l ∧ a + (closeTk s a).l ≤ s.size := by
  have hn := runAt_le inName s (a + 2) ha
  have h := find_le s gtS (a + 2 + runAt inName s (a + 2)) hn
  have hz : gtS.size = 1 := rfl
  unfold closeTk
  dsimp only
  split
  · rename_i hk
    have := h.2.2 hk
    split
    · exact ⟨by show 1 ≤ (findTo s gtS (a + 2 + runAt inName s (a + 2))).1 + 1 - a; omega, by show a + ((findTo s gtS (a + 2 + runAt inName s (a + 2))).1 + 1 - a) ≤ s.size; omega⟩
    · exact ⟨by show 1 ≤ (findTo s gtS (a + 2 + runAt inName s (a + 2))).1 + 1 - a; omega, by show a + ((findTo s gtS (a + 2 + runAt inName s (a + 2))).1 + 1 - a) ≤ s.size; omega⟩
  · exact ⟨by show 1 ≤ s.size - a; omega, by show a + (s.size - a) ≤ s.size; omega⟩
theorem nextOf_len {s raw : ByteArray} {a : Nat} (ha : a < s.size) : 1 ≤ (nextOf s a raw).l ∧ a + (nextOf s a raw).l ≤ s.size := by
  have hre := rawEnd_le s raw a (Nat.le_of_lt ha)
  unfold nextOf
  split
  · exact ⟨by show 1 ≤ rawEnd s raw a - a; omega, by show a + (rawEnd s raw a - a) ≤ s.size; omega⟩
  · unfold markTk
    split
    · exact wordsTk_len ha
    · rename_i h1
      have h2 : a + 1 < s.size := by omega
      split
      · exact openOf_len ha
      · split
        · exact closeTk_len h2
        · split
          · rename_i h; exact commentTk_len (by omega) h.1
          · split
            · exact commentTk_len (by omega) h2
            · exact wordsTk_len ha
theorem nextOf_name {s raw : ByteArray} {a : Nat} : (nextOf s a raw).n.size ≤ s.size := by
  have h0 : (⟨#[]⟩ : ByteArray).size ≤ s.size := Nat.zero_le _
  unfold nextOf markTk
  repeat' split
  all_goals first
    | exact h0
    | (unfold openOf; dsimp only; repeat' split
       all_goals first | exact h0 | exact nameOf_size _ _)
    | (unfold closeTk; dsimp only; repeat' split
       all_goals first | exact h0 | exact nameOf_size _ _)
/-- the raw element that a token begins -/
def rawOf (T : Tk) : ByteArray := if T.k = 2 ∧ inL rawL T.n = true then T.n else ⟨#[]⟩
noncomputable def toksF (s : ByteArray) : Nat → Nat → ByteArray → List Tk
  | 0, _, _ => []
  | k + 1, a, raw => if a < s.size then nextOf s a raw :: toksF s k (a + (nextOf s a raw).l) (rawOf (nextOf s a raw)) else []
theorem toksF_ext {s : ByteArray} : ∀ (k k' a : Nat) (raw : ByteArray), s.size - a ≤ k → s.size - a ≤ k' → toksF s k a raw = toksF s k' a raw := by
  intro k
  induction k with
  | zero =>
    intro k' a raw h1 _
    cases k' with
    | zero => rfl
    | succ k' => rw [toksF, toksF, if_neg (by omega)]
  | succ k ih =>
    intro k' a raw h1 h2
    by_cases ha : a < s.size
    · obtain ⟨j, rfl⟩ : ∃ j, k' = j + 1 := ⟨k' - 1, by omega⟩
      have hl := nextOf_len (raw := raw) ha
      rw [toksF, toksF, if_pos ha, if_pos ha, ih j _ _ (by omega) (by omega)]
    · rw [toksF, if_neg ha]
      cases k' with
      | zero => rfl
      | succ k' => rw [toksF, if_neg ha]
/-- the tokens of a text from a place on -/
noncomputable def toks (s : ByteArray) (a : Nat) (raw : ByteArray) : List Tk := toksF s (s.size - a) a raw
theorem toks_end {s raw : ByteArray} {a : Nat} (h : s.size ≤ a) : toks s a raw = [] := by unfold toks; rw [show s.size - a = 0 by omega]; rfl
theorem toks_next {s raw : ByteArray} {a : Nat} (h : a < s.size) : toks s a raw = nextOf s a raw :: toks s (a + (nextOf s a raw).l) (rawOf (nextOf s a raw)) := by
  have hl := nextOf_len (raw := raw) h
  unfold toks
  rw [toksF_ext (s.size - a) (s.size - a - 1 + 1) a raw (by omega) (by omega), toksF, if_pos h]
  rw [toksF_ext _ (s.size - (a + (nextOf s a raw).l)) _ _ (by omega) (by omega)]
noncomputable def toksCode (s : ByteArray) : Int := if 65536 < s.size then 2 else if 4096 < (toks s 0 ⟨#[]⟩).length then 6 else 0
noncomputable def toksOut (s : ByteArray) : List Tk := if toksCode s = 0 then toks s 0 ⟨#[]⟩ else []
theorem toksOut_le (s : ByteArray) : (toksOut s).length ≤ 4096 := by
  unfold toksOut
  by_cases h : toksCode s = 0
  · rw [if_pos h]
    unfold toksCode at h
    by_cases h1 : 65536 < s.size
    · rw [if_pos h1] at h; cases h
    · rw [if_neg h1] at h
      by_cases h2 : 4096 < (toks s 0 ⟨#[]⟩).length
      · rw [if_pos h2] at h; cases h
      · omega
  · rw [if_neg h]; exact Nat.zero_le _
/-- a token of one's own, laid behind a row -/
theorem tk_vals {w : World} {M : Nat} {A : Option Addr} {c : Nat} {T : Tk} (h : AOwn M w A c T.al) : ∃ ba, DVals w [.int .i64 T.k, .int .i64 (T.a : Int), .int .i64 (T.l : Int), .string T.n, .string T.t, .slice A T.al.length c, .bool T.s] (tkDs [T]) ba ∧ ba.Nodup ∧ ∀ k ∈ ba, M ≤ k ∧ k < w.heap.size := by
  obtain ⟨ba, h1, h2, h3, h4, h5⟩ := h
  exact ⟨ba, ⟨_, rfl, _, rfl, _, rfl, _, rfl, _, rfl, A, c, ba, [], _, rfl, by simp, ⟨h1, h2, h3⟩, _, rfl, rfl, rfl⟩, h4, h5⟩
theorem infoToken : (Tryz.prog.info? 29).map (fun i => (i.zero, i.size, i.bytes)) = some (some (.agg #[.int .i64 0, .int .i64 0, .int .i64 0, .string ⟨#[]⟩, .string ⟨#[]⟩, .slice none 0 0, .bool false]), 7, 88) := by kernel_rfl
end Go.Proofs.YtgkkmoliobhpiaaGreatDoor
namespace Go.Proofs.YtgkkmoliobhpiaaGreatDoor
open Go.ChangeShapes Go.WideShapes Go.ChangeAt Go.RowKit Go.Deep

/-- a token put behind a row that may grow -/
theorem wpList_push_tk {ops : Array Oper} {rest : List Oper} {o : Oper} {a : Act} {Q : Exit → Act → World → Prop} {w w1 w3 : World} (hgd : o.guard = none) (s x : Operand)
    (ho : o.op = .call { callee := .builtin .append, args := #[s, x], argTypes := #[24, 24] })
    (M g0 : Nat) (v : Value) (L : List Tk) (T : Tk) (A : Option Addr) (c : Nat) (hv : a.eval s = v) (hG : DG w M 29 7 v L.length (tkDs L)) (hO : AOwn w.heap.size w1 A c T.al) (hB : Below w.heap.size w w1) (hM : M ≤ w.heap.size) (h3 : Below w1.heap.size w1 w3) (hL : L.length ≤ 4096)
    (hx : a.eval x = .slice (some ⟨g0, 0, none⟩) 1 1) (hc : ∀ j u, ([.int .i64 T.k, .int .i64 (T.a : Int), .int .i64 (T.l : Int), .string T.n, .string T.t, .slice A T.al.length c, .bool T.s] : List Value)[j]? = some u → w3.cell? ((⟨g0, 0, none⟩ : Addr).add j) = some u)
    (h : ∀ v' w', DG w' M 29 7 v' (L.length + 1) (tkDs (L ++ [T])) → Below M w3 w' → (∀ k, w.heap.size ≤ k → k < w3.heap.size → w'.heap[k]? = w3.heap[k]?) → wpList Tryz.prog ops Q rest (a.put o.dst v') w') : wpList Tryz.prog ops Q (o :: rest) a w3 := by
  obtain ⟨i0, hi0, hz0, hz1, hz2⟩ := info_of infoToken
  obtain ⟨xs, bl, hx0, hD, hn, hl⟩ := hG
  obtain ⟨ba, hV, hbn, hbl⟩ := tk_vals hO
  have hlt : ∀ q, v.ownBlock = some q → M ≤ q ∧ q < w.heap.size := fun q hq => World.ownsRow.lt hx0 q hq
  have hx1 := ownsRow_below hx0 hB
  have hD1 := hD.same fun k hk => hB.block k (hl k hk).2.1
  have hMw3 : M ≤ w3.heap.size := Nat.le_trans hM (Nat.le_trans hB.size h3.size)
  refine wpList_append_own_at w3 hgd s x 24 ho M 29 i0 _ 7 88 Tryz.underlying24 hi0 hz0 hz1 hz2 rfl (by omega) v L.length xs hv (ownsRow_below hx1 h3) ⟨g0, 0, none⟩ 1 1 _ hx rfl hc (by intro u hu; simp only [List.mem_cons, List.not_mem_nil, or_false] at hu; rcases hu with rfl | rfl | rfl | rfl | rfl | rfl | rfl <;> rfl) (by unfold maxLen; omega) (by omega) hMw3 ?_
  intro v' w' hown hgrow _ hat
  refine h v' w' ?_ ((Below.refl M w3).grown hgrow hMw3 fun q hq => (hlt q hq).1) fun k h1 h2 => hgrow.block k h2 fun e => by have := hlt k e.symm; omega
  rw [tkDs_app]
  exact DG.push hx1 hD1 hn (fun k hk => ⟨(hl k hk).1, Nat.lt_of_lt_of_le (hl k hk).2.1 hB.size, (hl k hk).2.2⟩) hV hbn (fun k hk => ⟨Nat.le_trans hM (hbl k hk).1, (hbl k hk).2, fun e => by have := hlt k e.symm; have := (hbl k hk).1; omega, fun hc => by have := (hl k hc).2.1; have := (hbl k hk).1; omega⟩) h3 hown hgrow hat
/-- tokens and a code that are handed back -/
def ToksPost (s : ByteArray) (w : World) (e : Ending) (w' : World) : Prop := (∃ v, e = .returned (.tuple #[v, .int .i64 (toksCode s)]) ∧ DG w' w.heap.size 29 7 v (toksOut s).length (tkDs (toksOut s))) ∧ Below w.heap.size w w'
theorem toks_post {s : ByteArray} {w w' : World} {v : Value} {z : Int} {L : List Tk} (hz : toksCode s = z) (hL : toksOut s = L) (hG : DG w' w.heap.size 29 7 v L.length (tkDs L)) (hB : Below w.heap.size w w') : ToksPost s w (.returned (.tuple #[v, .int .i64 z])) w' := by
  subst hz; subst hL; exact ⟨⟨v, rfl, hG⟩, hB⟩
theorem toks_long {s : ByteArray} (h : 65536 < s.size) : toksCode s = 2 ∧ toksOut s = [] := by
  have h1 : toksCode s = 2 := if_pos h
  exact ⟨h1, if_neg (by rw [h1]; decide)⟩
theorem toks_many {s : ByteArray} (h : s.size ≤ 65536) (hm : 4096 < (toks s 0 ⟨#[]⟩).length) : toksCode s = 6 ∧ toksOut s = [] := by
  have h1 : toksCode s = 6 := by unfold toksCode; rw [if_neg (by omega), if_pos hm]
  exact ⟨h1, if_neg (by rw [h1]; decide)⟩
theorem toks_fine {s : ByteArray} (h : s.size ≤ 65536) (hm : (toks s 0 ⟨#[]⟩).length ≤ 4096) : toksCode s = 0 ∧ toksOut s = toks s 0 ⟨#[]⟩ := by
  have h1 : toksCode s = 0 := by unfold toksCode; rw [if_neg (by omega), if_neg (by omega)]
  exact ⟨h1, if_pos h1⟩

set_option maxHeartbeats 2000000 in
set_option maxRecDepth 100000 in
theorem specToks_any (s : ByteArray) (hs0 : s.size ≤ 1048576) (w : World) :
    Calls Tryz.prog 8 #[.string s] w (ToksPost s w) := by
  have HB0 := Lib.hid (Below.refl w.heap.size w)
  by_cases hs : s.size ≤ 65536
  · go_enter Tryz.func8, Tryz.ntmps8
    go_wp2
    go_loopw [4, 5, 6] (fun v rv av wr => ∃ (L : List Tk) (a : Nat) (raw : ByteArray), av = .int .i64 (a : Int) ∧ rv = .string raw ∧ a ≤ s.size ∧ raw.size ≤ 65536 ∧ L.length ≤ 4096 ∧ Hid (toks s 0 ⟨#[]⟩ = L ++ toks s a raw) ∧ Hid (DG wr w.heap.size 29 7 v L.length (tkDs L)) ∧ Hid (Below w.heap.size w wr)) (fun _ _ av _ => s.size - (intOf av).toNat)
    case atStart => exact ⟨[], 0, ⟨#[]⟩, rfl, rfl, Nat.zero_le _, Nat.zero_le _, Nat.zero_le _, Lib.hid rfl, Lib.hid (DG.lit0 (Nat.le_refl _) rfl), Lib.hid ((Below.refl w.heap.size w).alloc (Nat.le_refl _) _)⟩
    case round =>
      obtain ⟨L, a, raw, rfl, rfl, ha, hr, hL, HT, HD, HB⟩ := hrel
      obtain ⟨Av, cv, bv, rfl, hcv, _, _, _⟩ := HD.out.form
      by_cases hlt : a < s.size
      · have HN := Lib.hid (fun w => l04Next_any s raw a hs hlt hr w)
        have hl := nextOf_len (raw := raw) hlt
        have hnm := nextOf_name (s := s) (raw := raw) (a := a)
        have HNX := Lib.hid (toks_next (raw := raw) hlt)
        generalize nextOf s a raw = T at HN hl hnm HNX
        obtain ⟨k, ta, l, n, t, al, f⟩ := T
        simp only at hl hnm HNX
        have hM := HB.out.size
        by_cases hfull : L.length = 4096
        · have HM := Lib.hid (toks_many hs (by rw [HT.out, HNX.out]; simp; omega))
          have hfi : ((L.length : Nat) : Int) = 4096 := by omega
          go_wp2_with (go_at_call 23; refine (HN.out _).mono ?_; rintro e w1 ⟨⟨A, c, rfl, hO⟩, hB⟩; unfold Tk.val; dsimp only; have HO := Lib.hid hO; have B1 := Lib.hid hB; clear hO hB)
          have hG : DG ((w1.alloc (.cells #[.int .i64 k, .int .i64 (ta : Int), .int .i64 (l : Int), .string n, .string t, .slice A al.length c, .bool f] 29)).alloc (.cells #[] 29)) w.heap.size 29 7 (.slice (some ⟨w1.heap.size + 1, 0, none⟩) 0 0) 0 .nil := by
            have := DG.lit0 (w := w1.alloc (.cells #[.int .i64 k, .int .i64 (ta : Int), .int .i64 (l : Int), .string n, .string t, .slice A al.length c, .bool f] 29)) (M := w.heap.size) (ty := 29) (te := 29) (size := 7) (Nat.le_trans hM (Nat.le_trans B1.out.size (by simp))) rfl
            simpa using this
          go_ret2
          exact toks_post HM.out.1 HM.out.2 hG ((HB.out.trans (B1.out.mono hM)).trans ((((Below.refl w.heap.size w1).alloc (Nat.le_trans hM B1.out.size) _)).alloc (by have := B1.out.size; simp; omega) _))
        · have hne : ((L.length : Nat) : Int) ≠ 4096 := by omega
          have hne2 : (((L.length : Nat) : Int) == 4096) = false := by simpa using hne
          clear hfull
          have HNE := Lib.hid hne
          clear hne
          cases hk2 : (k == 2) with
          | false =>
            have HRO : Hid (rawOf (⟨k, ta, l, n, t, al, f⟩ : Tk) = ⟨#[]⟩) := Lib.hid (if_neg fun h => by have h1 : k = 2 := h.1; rw [h1] at hk2; revert hk2; decide)
            go_wp2_with (first
              | (at_builtin; have hM1 : w.heap.size ≤ w1.heap.size := Nat.le_trans hM B1.out.size; have HNEW : Hid (∀ j u, ([.int .i64 k, .int .i64 (ta : Int), .int .i64 (l : Int), .string n, .string t, .slice A al.length c, .bool f] : List Value)[j]? = some u → ((w1.alloc (.cells #[.int .i64 k, .int .i64 (ta : Int), .int .i64 (l : Int), .string n, .string t, .slice A al.length c, .bool f] 29)).alloc (.cells #[.int .i64 k, .int .i64 (ta : Int), .int .i64 (l : Int), .string n, .string t, .slice A al.length c, .bool f] 29)).cell? ((⟨w1.heap.size + 1, 0, none⟩ : Addr).add j) = some u) := Lib.hid (by have := cells_new (w1.alloc (.cells #[.int .i64 k, .int .i64 (ta : Int), .int .i64 (l : Int), .string n, .string t, .slice A al.length c, .bool f] 29)) [.int .i64 k, .int .i64 (ta : Int), .int .i64 (l : Int), .string n, .string t, .slice A al.length c, .bool f] 29; simpa using this); refine wpList_push_tk rfl (.tmp 25) (.tmp 27) rfl w.heap.size (w1.heap.size + 1) _ L (⟨k, ta, l, n, t, al, f⟩ : Tk) A c rfl HD.out HO.out B1.out hM (((Below.refl w1.heap.size w1).alloc (Nat.le_refl _) _).alloc (by simp) _) hL rfl HNEW.out ?_; intro v' w4 hG hB4 hK; have HG := Lib.hid hG; have B4 := Lib.hid (HB.out.trans ((B1.out.mono hM).trans ((((Below.refl w.heap.size w1).alloc hM1 _).alloc (by simp; omega) _).trans hB4))); have hKx := (hK w1.heap.size (B1.out.size) (by simp; omega)); have x2 : w4.cell? ⟨w1.heap.size, 2, none⟩ = some (.int .i64 (l : Int)) := (World.cell?_of_block (a := ⟨w1.heap.size, 2, none⟩) hKx).trans (by simp); have x0 : w4.cell? ⟨w1.heap.size, 0, none⟩ = some (.int .i64 k) := (World.cell?_of_block (a := ⟨w1.heap.size, 0, none⟩) hKx).trans (by simp); have x3 : w4.cell? ⟨w1.heap.size, 3, none⟩ = some (.string n) := (World.cell?_of_block (a := ⟨w1.heap.size, 3, none⟩) hKx).trans (by simp); clear hG hB4 hK hKx)
              | (go_at_call 23; refine (HN.out _).mono ?_; rintro e w1 ⟨⟨A, c, rfl, hO⟩, hB⟩; unfold Tk.val; dsimp only; have HO := Lib.hid hO; have B1 := Lib.hid hB; clear hO hB))
            go_roundw
            case rel => exact ⟨L ++ [(⟨k, ta, l, n, t, al, f⟩ : Tk)], a + l, ⟨#[]⟩, by go_num, rfl, hl.2, Nat.zero_le _, by have := HNE.out; simp; omega, Lib.hid (by rw [HT.out, HNX.out, HRO.out, List.append_assoc]; rfl), Lib.hid (by rw [List.length_append]; exact HG.out), B4⟩
            case measure => simp [intOf]; omega
          | true =>
            cases hin : inL rawL n with
            | true =>
              have HRO : Hid (rawOf (⟨k, ta, l, n, t, al, f⟩ : Tk) = n) := Lib.hid (if_pos ⟨by simpa using hk2, hin⟩)
              have HIN := Lib.hid hin
              clear hin
              go_wp2_with (first
                | (at_builtin; have hM1 : w.heap.size ≤ w1.heap.size := Nat.le_trans hM B1.out.size; have HNEW : Hid (∀ j u, ([.int .i64 k, .int .i64 (ta : Int), .int .i64 (l : Int), .string n, .string t, .slice A al.length c, .bool f] : List Value)[j]? = some u → ((w1.alloc (.cells #[.int .i64 k, .int .i64 (ta : Int), .int .i64 (l : Int), .string n, .string t, .slice A al.length c, .bool f] 29)).alloc (.cells #[.int .i64 k, .int .i64 (ta : Int), .int .i64 (l : Int), .string n, .string t, .slice A al.length c, .bool f] 29)).cell? ((⟨w1.heap.size + 1, 0, none⟩ : Addr).add j) = some u) := Lib.hid (by have := cells_new (w1.alloc (.cells #[.int .i64 k, .int .i64 (ta : Int), .int .i64 (l : Int), .string n, .string t, .slice A al.length c, .bool f] 29)) [.int .i64 k, .int .i64 (ta : Int), .int .i64 (l : Int), .string n, .string t, .slice A al.length c, .bool f] 29; simpa using this); refine wpList_push_tk rfl (.tmp 25) (.tmp 27) rfl w.heap.size (w1.heap.size + 1) _ L (⟨k, ta, l, n, t, al, f⟩ : Tk) A c rfl HD.out HO.out B1.out hM (((Below.refl w1.heap.size w1).alloc (Nat.le_refl _) _).alloc (by simp) _) hL rfl HNEW.out ?_; intro v' w4 hG hB4 hK; have HG := Lib.hid hG; have B4 := Lib.hid (HB.out.trans ((B1.out.mono hM).trans ((((Below.refl w.heap.size w1).alloc hM1 _).alloc (by simp; omega) _).trans hB4))); have hKx := (hK w1.heap.size (B1.out.size) (by simp; omega)); have x2 : w4.cell? ⟨w1.heap.size, 2, none⟩ = some (.int .i64 (l : Int)) := (World.cell?_of_block (a := ⟨w1.heap.size, 2, none⟩) hKx).trans (by simp); have x0 : w4.cell? ⟨w1.heap.size, 0, none⟩ = some (.int .i64 k) := (World.cell?_of_block (a := ⟨w1.heap.size, 0, none⟩) hKx).trans (by simp); have x3 : w4.cell? ⟨w1.heap.size, 3, none⟩ = some (.string n) := (World.cell?_of_block (a := ⟨w1.heap.size, 3, none⟩) hKx).trans (by simp); clear hG hB4 hK hKx)
                | (go_at_call 23; refine (HN.out _).mono ?_; rintro e w1 ⟨⟨A, c, rfl, hO⟩, hB⟩; unfold Tk.val; dsimp only; have HO := Lib.hid hO; have B1 := Lib.hid hB; clear hO hB)
                | (go_at_call 24; refine (l01Raw_any n _).mono ?_; rintro e w5 ⟨rfl, hB5⟩; rw [HIN.out]; have HG := Lib.hid (HG.out.next hB5); have B4 := Lib.hid (B4.out.trans (hB5.mono B4.out.size)); have x3 := (hB5.cell (p := ⟨w1.heap.size, 3, none⟩) (World.block_lt_of_cell? w4 _ x3)).trans x3; clear hB5))
              go_roundw
              case rel => exact ⟨L ++ [(⟨k, ta, l, n, t, al, f⟩ : Tk)], a + l, n, by go_num, rfl, hl.2, by omega, by have := HNE.out; simp; omega, Lib.hid (by rw [HT.out, HNX.out, HRO.out, List.append_assoc]; rfl), Lib.hid (by rw [List.length_append]; exact HG.out), B4⟩
              case measure => simp [intOf]; omega
            | false =>
              have HRO : Hid (rawOf (⟨k, ta, l, n, t, al, f⟩ : Tk) = ⟨#[]⟩) := Lib.hid (if_neg fun h => by rw [hin] at h; exact absurd h.2 (by decide))
              have HIN := Lib.hid hin
              clear hin
              go_wp2_with (first
                | (at_builtin; have hM1 : w.heap.size ≤ w1.heap.size := Nat.le_trans hM B1.out.size; have HNEW : Hid (∀ j u, ([.int .i64 k, .int .i64 (ta : Int), .int .i64 (l : Int), .string n, .string t, .slice A al.length c, .bool f] : List Value)[j]? = some u → ((w1.alloc (.cells #[.int .i64 k, .int .i64 (ta : Int), .int .i64 (l : Int), .string n, .string t, .slice A al.length c, .bool f] 29)).alloc (.cells #[.int .i64 k, .int .i64 (ta : Int), .int .i64 (l : Int), .string n, .string t, .slice A al.length c, .bool f] 29)).cell? ((⟨w1.heap.size + 1, 0, none⟩ : Addr).add j) = some u) := Lib.hid (by have := cells_new (w1.alloc (.cells #[.int .i64 k, .int .i64 (ta : Int), .int .i64 (l : Int), .string n, .string t, .slice A al.length c, .bool f] 29)) [.int .i64 k, .int .i64 (ta : Int), .int .i64 (l : Int), .string n, .string t, .slice A al.length c, .bool f] 29; simpa using this); refine wpList_push_tk rfl (.tmp 25) (.tmp 27) rfl w.heap.size (w1.heap.size + 1) _ L (⟨k, ta, l, n, t, al, f⟩ : Tk) A c rfl HD.out HO.out B1.out hM (((Below.refl w1.heap.size w1).alloc (Nat.le_refl _) _).alloc (by simp) _) hL rfl HNEW.out ?_; intro v' w4 hG hB4 hK; have HG := Lib.hid hG; have B4 := Lib.hid (HB.out.trans ((B1.out.mono hM).trans ((((Below.refl w.heap.size w1).alloc hM1 _).alloc (by simp; omega) _).trans hB4))); have hKx := (hK w1.heap.size (B1.out.size) (by simp; omega)); have x2 : w4.cell? ⟨w1.heap.size, 2, none⟩ = some (.int .i64 (l : Int)) := (World.cell?_of_block (a := ⟨w1.heap.size, 2, none⟩) hKx).trans (by simp); have x0 : w4.cell? ⟨w1.heap.size, 0, none⟩ = some (.int .i64 k) := (World.cell?_of_block (a := ⟨w1.heap.size, 0, none⟩) hKx).trans (by simp); have x3 : w4.cell? ⟨w1.heap.size, 3, none⟩ = some (.string n) := (World.cell?_of_block (a := ⟨w1.heap.size, 3, none⟩) hKx).trans (by simp); clear hG hB4 hK hKx)
                | (go_at_call 23; refine (HN.out _).mono ?_; rintro e w1 ⟨⟨A, c, rfl, hO⟩, hB⟩; unfold Tk.val; dsimp only; have HO := Lib.hid hO; have B1 := Lib.hid hB; clear hO hB)
                | (go_at_call 24; refine (l01Raw_any n _).mono ?_; rintro e w5 ⟨rfl, hB5⟩; rw [HIN.out]; have HG := Lib.hid (HG.out.next hB5); have B4 := Lib.hid (B4.out.trans (hB5.mono B4.out.size)); have x3 := (hB5.cell (p := ⟨w1.heap.size, 3, none⟩) (World.block_lt_of_cell? w4 _ x3)).trans x3; clear hB5))
              go_roundw
              case rel => exact ⟨L ++ [(⟨k, ta, l, n, t, al, f⟩ : Tk)], a + l, ⟨#[]⟩, by go_num, rfl, hl.2, Nat.zero_le _, by have := HNE.out; simp; omega, Lib.hid (by rw [HT.out, HNX.out, HRO.out, List.append_assoc]; rfl), Lib.hid (by rw [List.length_append]; exact HG.out), B4⟩
              case measure => simp [intOf]; omega
      · obtain rfl : a = s.size := by omega
        have HF := Lib.hid (toks_fine hs (by rw [HT.out, toks_end (Nat.le_refl _)]; simpa using hL))
        have HF2 : Hid (toksOut s = L) := Lib.hid (by rw [HF.out.2, HT.out, toks_end (Nat.le_refl _), List.append_nil])
        go_wp2
        go_ret2
        exact toks_post HF.out.1 HF2.out HD.out HB.out
  · have HM := Lib.hid (toks_long (s := s) (by omega))
    have hgt : (65536 : Int) < (s.size : Int) := by omega
    go_enter Tryz.func8, Tryz.ntmps8
    go_wp2
    go_ret2
    exact toks_post HM.out.1 HM.out.2 (DG.lit0 (Nat.le_refl _) rfl) ((Below.refl w.heap.size w).alloc (Nat.le_refl _) _)
end Go.Proofs.YtgkkmoliobhpiaaGreatDoor
namespace Go.Proofs.YtgkkmoliobhpiaaGreatDoor
open Go.ChangeShapes Go.WideShapes Go.ChangeAt Go.RowKit Go.Deep

set_option maxHeartbeats 2000000 in
set_option maxRecDepth 100000 in
theorem implToks_any (s : ByteArray) (hs0 : s.size ≤ 1048576) (w : World) (hE : Env2 w) :
    Calls Tryz.prog 7 #[.string s] w (ToksPost s w) := by
  have HE := Lib.hid hE
  clear hE
  have HB0 := Lib.hid (Below.refl w.heap.size w)
  by_cases hs : s.size ≤ 65536
  · go_enter Tryz.func7, Tryz.ntmps7
    go_wp2
    go_loopw [4, 5, 6] (fun v rv av wr => ∃ (L : List Tk) (a : Nat) (raw : ByteArray), av = .int .i64 (a : Int) ∧ rv = .string raw ∧ a ≤ s.size ∧ raw.size ≤ 65536 ∧ L.length ≤ 4096 ∧ Hid (toks s 0 ⟨#[]⟩ = L ++ toks s a raw) ∧ Hid (DG wr w.heap.size 29 7 v L.length (tkDs L)) ∧ Hid (Below w.heap.size w wr)) (fun _ _ av _ => s.size - (intOf av).toNat)
    case atStart => exact ⟨[], 0, ⟨#[]⟩, rfl, rfl, Nat.zero_le _, Nat.zero_le _, Nat.zero_le _, Lib.hid rfl, Lib.hid DG.nil, HB0⟩
    case round =>
      obtain ⟨L, a, raw, rfl, rfl, ha, hr, hL, HT, HD, HB⟩ := hrel
      obtain ⟨Av, cv, bv, rfl, hcv, _, _, _⟩ := HD.out.form
      by_cases hlt : a < s.size
      · have HN := Lib.hid (fun w hE => readToken_any s raw a hs hr hlt w hE)
        have hl := nextOf_len (raw := raw) hlt
        have hnm := nextOf_name (s := s) (raw := raw) (a := a)
        have HNX := Lib.hid (toks_next (raw := raw) hlt)
        generalize nextOf s a raw = T at HN hl hnm HNX
        obtain ⟨k, ta, l, n, t, al, f⟩ := T
        simp only at hl hnm HNX
        have hM := HB.out.size
        by_cases hfull : L.length = 4096
        · have HM := Lib.hid (toks_many hs (by rw [HT.out, HNX.out]; simp; omega))
          have hfi : ((L.length : Nat) : Int) = 4096 := by omega
          go_wp2
          go_ret2
          exact toks_post HM.out.1 HM.out.2 DG.nil HB.out
        · have hne : ((L.length : Nat) : Int) ≠ 4096 := by omega
          have hne2 : (((L.length : Nat) : Int) == 4096) = false := by simpa using hne
          clear hfull
          have HNE := Lib.hid hne
          clear hne
          cases hk2 : (k == 2) with
          | false =>
            have HRO : Hid (rawOf (⟨k, ta, l, n, t, al, f⟩ : Tk) = ⟨#[]⟩) := Lib.hid (if_neg fun h => by have h1 : k = 2 := h.1; rw [h1] at hk2; revert hk2; decide)
            go_wp2_with (first
              | (at_builtin; have hM1 : w.heap.size ≤ w1.heap.size := Nat.le_trans hM B1.out.size; have HNEW : Hid (∀ j u, ([.int .i64 k, .int .i64 (ta : Int), .int .i64 (l : Int), .string n, .string t, .slice A al.length c, .bool f] : List Value)[j]? = some u → ((w1.alloc (.cells #[.int .i64 k, .int .i64 (ta : Int), .int .i64 (l : Int), .string n, .string t, .slice A al.length c, .bool f] 29)).alloc (.cells #[.int .i64 k, .int .i64 (ta : Int), .int .i64 (l : Int), .string n, .string t, .slice A al.length c, .bool f] 29)).cell? ((⟨w1.heap.size + 1, 0, none⟩ : Addr).add j) = some u) := Lib.hid (by have := cells_new (w1.alloc (.cells #[.int .i64 k, .int .i64 (ta : Int), .int .i64 (l : Int), .string n, .string t, .slice A al.length c, .bool f] 29)) [.int .i64 k, .int .i64 (ta : Int), .int .i64 (l : Int), .string n, .string t, .slice A al.length c, .bool f] 29; simpa using this); refine wpList_push_tk rfl (.tmp 22) (.tmp 24) rfl w.heap.size (w1.heap.size + 1) _ L (⟨k, ta, l, n, t, al, f⟩ : Tk) A c rfl HD.out HO.out B1.out hM (((Below.refl w1.heap.size w1).alloc (Nat.le_refl _) _).alloc (by simp) _) hL rfl HNEW.out ?_; intro v' w4 hG hB4 hK; have HG := Lib.hid hG; have B4 := Lib.hid (HB.out.trans ((B1.out.mono hM).trans ((((Below.refl w.heap.size w1).alloc hM1 _).alloc (by simp; omega) _).trans hB4))); have hKx := (hK w1.heap.size (B1.out.size) (by simp; omega)); have x2 : w4.cell? ⟨w1.heap.size, 2, none⟩ = some (.int .i64 (l : Int)) := (World.cell?_of_block (a := ⟨w1.heap.size, 2, none⟩) hKx).trans (by simp); have x0 : w4.cell? ⟨w1.heap.size, 0, none⟩ = some (.int .i64 k) := (World.cell?_of_block (a := ⟨w1.heap.size, 0, none⟩) hKx).trans (by simp); have x3 : w4.cell? ⟨w1.heap.size, 3, none⟩ = some (.string n) := (World.cell?_of_block (a := ⟨w1.heap.size, 3, none⟩) hKx).trans (by simp); clear hG hB4 hK hKx)
              | (go_at_call 21; refine (HN.out _ (HE.out.below HB.out)).mono ?_; rintro e w1 ⟨⟨A, c, rfl, hO⟩, hB⟩; unfold Tk.val; dsimp only; have HO := Lib.hid hO; have B1 := Lib.hid hB; clear hO hB))
            go_roundw
            case rel => exact ⟨L ++ [(⟨k, ta, l, n, t, al, f⟩ : Tk)], a + l, ⟨#[]⟩, by go_num, rfl, hl.2, Nat.zero_le _, by have := HNE.out; simp; omega, Lib.hid (by rw [HT.out, HNX.out, HRO.out, List.append_assoc]; rfl), Lib.hid (by rw [List.length_append]; exact HG.out), B4⟩
            case measure => simp [intOf]; omega
          | true =>
            cases hin : inL rawL n with
            | true =>
              have HRO : Hid (rawOf (⟨k, ta, l, n, t, al, f⟩ : Tk) = n) := Lib.hid (if_pos ⟨by simpa using hk2, hin⟩)
              have HIN := Lib.hid hin
              clear hin
              go_wp2_with (first
                | (at_builtin; have hM1 : w.heap.size ≤ w1.heap.size := Nat.le_trans hM B1.out.size; have HNEW : Hid (∀ j u, ([.int .i64 k, .int .i64 (ta : Int), .int .i64 (l : Int), .string n, .string t, .slice A al.length c, .bool f] : List Value)[j]? = some u → ((w1.alloc (.cells #[.int .i64 k, .int .i64 (ta : Int), .int .i64 (l : Int), .string n, .string t, .slice A al.length c, .bool f] 29)).alloc (.cells #[.int .i64 k, .int .i64 (ta : Int), .int .i64 (l : Int), .string n, .string t, .slice A al.length c, .bool f] 29)).cell? ((⟨w1.heap.size + 1, 0, none⟩ : Addr).add j) = some u) := Lib.hid (by have := cells_new (w1.alloc (.cells #[.int .i64 k, .int .i64 (ta : Int), .int .i64 (l : Int), .string n, .string t, .slice A al.length c, .bool f] 29)) [.int .i64 k, .int .i64 (ta : Int), .int .i64 (l : Int), .string n, .string t, .slice A al.length c, .bool f] 29; simpa using this); refine wpList_push_tk rfl (.tmp 22) (.tmp 24) rfl w.heap.size (w1.heap.size + 1) _ L (⟨k, ta, l, n, t, al, f⟩ : Tk) A c rfl HD.out HO.out B1.out hM (((Below.refl w1.heap.size w1).alloc (Nat.le_refl _) _).alloc (by simp) _) hL rfl HNEW.out ?_; intro v' w4 hG hB4 hK; have HG := Lib.hid hG; have B4 := Lib.hid (HB.out.trans ((B1.out.mono hM).trans ((((Below.refl w.heap.size w1).alloc hM1 _).alloc (by simp; omega) _).trans hB4))); have hKx := (hK w1.heap.size (B1.out.size) (by simp; omega)); have x2 : w4.cell? ⟨w1.heap.size, 2, none⟩ = some (.int .i64 (l : Int)) := (World.cell?_of_block (a := ⟨w1.heap.size, 2, none⟩) hKx).trans (by simp); have x0 : w4.cell? ⟨w1.heap.size, 0, none⟩ = some (.int .i64 k) := (World.cell?_of_block (a := ⟨w1.heap.size, 0, none⟩) hKx).trans (by simp); have x3 : w4.cell? ⟨w1.heap.size, 3, none⟩ = some (.string n) := (World.cell?_of_block (a := ⟨w1.heap.size, 3, none⟩) hKx).trans (by simp); clear hG hB4 hK hKx)
                | (go_at_call 21; refine (HN.out _ (HE.out.below HB.out)).mono ?_; rintro e w1 ⟨⟨A, c, rfl, hO⟩, hB⟩; unfold Tk.val; dsimp only; have HO := Lib.hid hO; have B1 := Lib.hid hB; clear hO hB)
                | (go_at_call 22; refine (implIsRaw_any n _).mono ?_; rintro e w5 ⟨rfl, rfl⟩; rw [HIN.out]))
              go_roundw
              case rel => exact ⟨L ++ [(⟨k, ta, l, n, t, al, f⟩ : Tk)], a + l, n, by go_num, rfl, hl.2, by omega, by have := HNE.out; simp; omega, Lib.hid (by rw [HT.out, HNX.out, HRO.out, List.append_assoc]; rfl), Lib.hid (by rw [List.length_append]; exact HG.out), B4⟩
              case measure => simp [intOf]; omega
            | false =>
              have HRO : Hid (rawOf (⟨k, ta, l, n, t, al, f⟩ : Tk) = ⟨#[]⟩) := Lib.hid (if_neg fun h => by rw [hin] at h; exact absurd h.2 (by decide))
              have HIN := Lib.hid hin
              clear hin
              go_wp2_with (first
                | (at_builtin; have hM1 : w.heap.size ≤ w1.heap.size := Nat.le_trans hM B1.out.size; have HNEW : Hid (∀ j u, ([.int .i64 k, .int .i64 (ta : Int), .int .i64 (l : Int), .string n, .string t, .slice A al.length c, .bool f] : List Value)[j]? = some u → ((w1.alloc (.cells #[.int .i64 k, .int .i64 (ta : Int), .int .i64 (l : Int), .string n, .string t, .slice A al.length c, .bool f] 29)).alloc (.cells #[.int .i64 k, .int .i64 (ta : Int), .int .i64 (l : Int), .string n, .string t, .slice A al.length c, .bool f] 29)).cell? ((⟨w1.heap.size + 1, 0, none⟩ : Addr).add j) = some u) := Lib.hid (by have := cells_new (w1.alloc (.cells #[.int .i64 k, .int .i64 (ta : Int), .int .i64 (l : Int), .string n, .string t, .slice A al.length c, .bool f] 29)) [.int .i64 k, .int .i64 (ta : Int), .int .i64 (l : Int), .string n, .string t, .slice A al.length c, .bool f] 29; simpa using this); refine wpList_push_tk rfl (.tmp 22) (.tmp 24) rfl w.heap.size (w1.heap.size + 1) _ L (⟨k, ta, l, n, t, al, f⟩ : Tk) A c rfl HD.out HO.out B1.out hM (((Below.refl w1.heap.size w1).alloc (Nat.le_refl _) _).alloc (by simp) _) hL rfl HNEW.out ?_; intro v' w4 hG hB4 hK; have HG := Lib.hid hG; have B4 := Lib.hid (HB.out.trans ((B1.out.mono hM).trans ((((Below.refl w.heap.size w1).alloc hM1 _).alloc (by simp; omega) _).trans hB4))); have hKx := (hK w1.heap.size (B1.out.size) (by simp; omega)); have x2 : w4.cell? ⟨w1.heap.size, 2, none⟩ = some (.int .i64 (l : Int)) := (World.cell?_of_block (a := ⟨w1.heap.size, 2, none⟩) hKx).trans (by simp); have x0 : w4.cell? ⟨w1.heap.size, 0, none⟩ = some (.int .i64 k) := (World.cell?_of_block (a := ⟨w1.heap.size, 0, none⟩) hKx).trans (by simp); have x3 : w4.cell? ⟨w1.heap.size, 3, none⟩ = some (.string n) := (World.cell?_of_block (a := ⟨w1.heap.size, 3, none⟩) hKx).trans (by simp); clear hG hB4 hK hKx)
                | (go_at_call 21; refine (HN.out _ (HE.out.below HB.out)).mono ?_; rintro e w1 ⟨⟨A, c, rfl, hO⟩, hB⟩; unfold Tk.val; dsimp only; have HO := Lib.hid hO; have B1 := Lib.hid hB; clear hO hB)
                | (go_at_call 22; refine (implIsRaw_any n _).mono ?_; rintro e w5 ⟨rfl, rfl⟩; rw [HIN.out]))
              go_roundw
              case rel => exact ⟨L ++ [(⟨k, ta, l, n, t, al, f⟩ : Tk)], a + l, ⟨#[]⟩, by go_num, rfl, hl.2, Nat.zero_le _, by have := HNE.out; simp; omega, Lib.hid (by rw [HT.out, HNX.out, HRO.out, List.append_assoc]; rfl), Lib.hid (by rw [List.length_append]; exact HG.out), B4⟩
              case measure => simp [intOf]; omega
      · obtain rfl : a = s.size := by omega
        have HF := Lib.hid (toks_fine hs (by rw [HT.out, toks_end (Nat.le_refl _)]; simpa using hL))
        have HF2 : Hid (toksOut s = L) := Lib.hid (by rw [HF.out.2, HT.out, toks_end (Nat.le_refl _), List.append_nil])
        go_wp2
        go_ret2
        exact toks_post HF.out.1 HF2.out HD.out HB.out
  · have HM := Lib.hid (toks_long (s := s) (by omega))
    have hgt : (65536 : Int) < (s.size : Int) := by omega
    go_enter Tryz.func7, Tryz.ntmps7
    go_wp2
    go_ret2
    exact toks_post HM.out.1 HM.out.2 DG.nil HB0.out
end Go.Proofs.YtgkkmoliobhpiaaGreatDoor
namespace Go.Proofs.YtgkkmoliobhpiaaGreatDoor
open Go.ChangeShapes Go.WideShapes Go.ChangeAt Go.RowKit Go.Deep

theorem toksF_six {s : ByteArray} : ∀ (k a : Nat) (raw : ByteArray), cntT (toksF s k a raw) ≤ 18 * (toksF s k a raw).length
  | 0, _, _ => Nat.zero_le _
  | k + 1, a, raw => by
    rw [toksF]
    split
    · have := nextOf_six s a raw
      have ih := toksF_six (s := s) k (a + (nextOf s a raw).l) (rawOf (nextOf s a raw))
      simp only [cntT, List.length_cons]
      omega
    · exact Nat.zero_le _
theorem toksOut_cnt (s : ByteArray) : 1 + cntT (toksOut s) ≤ 1073741824 := by
  have h1 := toksOut_le s
  have h2 : cntT (toksOut s) ≤ 18 * (toksOut s).length := by
    unfold toksOut
    split
    · exact toksF_six _ _ _
    · exact Nat.zero_le _
  omega
/-- a row of tokens in blocks from lo up to hi -/
def TR (w : World) (A : Option Addr) (c : Nat) (L : List Tk) (bl : List Nat) (lo hi : Nat) : Prop := L.length ≤ c ∧ DRow w A L.length (tkDs L) bl ∧ bl.Nodup ∧ (∀ k ∈ bl, lo ≤ k ∧ k < hi) ∧ hi ≤ w.heap.size
theorem TR.but {C : Nat → Prop} {w w' : World} {A : Option Addr} {c : Nat} {L : List Tk} {bl : List Nat} {lo hi : Nat} (h : TR w A c L bl lo hi) (hB : But C w w') (hC : ∀ k, C k → k < lo ∨ hi ≤ k) : TR w' A c L bl lo hi := by
  obtain ⟨h1, h2, h3, h4, h5⟩ := h
  exact ⟨h1, h2.same fun k hk => hB.block k (by have := h4 k hk; omega) (fun c => by have := hC k c; have := h4 k hk; omega), h3, h4, Nat.le_trans h5 hB.size⟩
theorem TR.next {w w' : World} {A : Option Addr} {c : Nat} {L : List Tk} {bl : List Nat} {lo hi : Nat} (h : TR w A c L bl lo hi) (hB : Below w.heap.size w w') : TR w' A c L bl lo hi := h.but (But.of_below (C := No) hB) fun _ h => h.elim
theorem TR.of {w : World} {M : Nat} {v : Value} {L : List Tk} (h : DG w M 29 7 v L.length (tkDs L)) : ∃ A c bl, v = .slice A L.length c ∧ TR w A c L bl M w.heap.size := by
  obtain ⟨A, c, bl, h1, h2, h3, h4, h5⟩ := h.form
  exact ⟨A, c, bl, h1, h2, h3, h4, h5, Nat.le_refl _⟩
theorem markTokenS_1 (L : List Tk) (w : World) (A : Option Addr) (c : Nat) (bl : List Nat) (h2 : 1 + cntT L ≤ 1073741824) (hlen : L.length ≤ maxLen) (hK : DRow w A L.length (tkDs L) bl) (hnd : bl.Nodup) (hbl : ∀ k ∈ bl, k < w.heap.size) :
    Calls Tryz.prog 17 #[.slice A L.length c, .int .i64 1] w fun e w' => e = .returned (.int .i64 ((1 + cntT L : Nat) : Int)) ∧ DRow w' A L.length (tkDs (markTks L 1)) bl ∧ OnlyAt w w' bl :=
  markTokenS_any L 1 w A c bl (Nat.le_refl _) h2 hlen hK hnd hbl
theorem heldTokenS_1 (L : List Tk) (w : World) (A : Option Addr) (c : Nat) (bl : List Nat) (h2 : 1 + cntT L ≤ 1073741824) (hlen : L.length ≤ maxLen) (hK : DRow w A L.length (tkDs (markTks L 1)) bl) :
    Calls Tryz.prog 18 #[.slice A L.length c, .int .i64 1] w fun e w' => e = .returned (.int .i64 ((1 + cntT L : Nat) : Int)) ∧ Below w.heap.size w w' :=
  heldTokenS_any L 1 w A c bl (Nat.le_refl _) h2 hlen hK
/-- a marked row of tokens -/
def TM (w : World) (A : Option Addr) (L : List Tk) (bl : List Nat) (lo hi : Nat) : Prop := DRow w A L.length (tkDs (markTks L 1)) bl ∧ (∀ k ∈ bl, lo ≤ k ∧ k < hi) ∧ hi ≤ w.heap.size
theorem TM.next {w w' : World} {A : Option Addr} {L : List Tk} {bl : List Nat} {lo hi : Nat} (h : TM w A L bl lo hi) (hB : Below w.heap.size w w') : TM w' A L bl lo hi :=
  ⟨h.1.same fun k hk => hB.block k (Nat.lt_of_lt_of_le (h.2.1 k hk).2 h.2.2), h.2.1, Nat.le_trans h.2.2 hB.size⟩

set_option maxHeartbeats 2000000 in
set_option maxRecDepth 100000 in
theorem lawTokensOf_walk (s : ByteArray) (w : World) (hE : Env2 w) :
    Calls Tryz.prog 5 #[.string s] w fun e w' => e = .returned (.bool true) ∧ Below w.heap.size w w' := by
  have HB0 := Lib.hid (Below.refl w.heap.size w)
  by_cases h1 : s.size ≤ 1048576
  · have HSp := Lib.hid (specToks_any s h1)
    have HIm := Lib.hid (fun w hE => implToks_any s h1 w hE)
    have hcc := Lib.hid (toksOut_cnt s)
    have hll := toksOut_le s
    have HE := Lib.hid hE
    unfold ToksPost at HSp HIm
    generalize toksOut s = L at HSp HIm hcc hll
    generalize toksCode s = nc at HSp HIm
    have hlm : Hid (L.length ≤ maxLen) := Lib.hid (by unfold maxLen; omega)
    have hnn : (0 : Int) ≤ ((1 + cntT L : Nat) : Int) := by omega
    clear hE
    go_enter Tryz.func5, Tryz.ntmps5
    go_wp2_with fail
    refine (HSp.out _).mono ?_
    rintro e w1 ⟨⟨v, rfl, hG⟩, hB⟩
    obtain ⟨A0, c0, bl0, rfl, hr⟩ := TR.of hG
    have R0 : Hid (TR w1 A0 c0 L bl0 w.heap.size w1.heap.size) := Lib.hid hr
    have B1 := Lib.hid hB
    clear hG hr hB
    go_wp2_with fail
    refine (HIm.out _ (HE.out.below B1.out)).mono ?_
    rintro e w2 ⟨⟨v, rfl, hG⟩, hB⟩
    obtain ⟨A1, c1, bl1, rfl, hr⟩ := TR.of hG
    have R1 : Hid (TR w2 A1 c1 L bl1 w1.heap.size w2.heap.size) := Lib.hid hr
    have R0 := Lib.hid (R0.out.next hB)
    have B2 := Lib.hid (B1.out.trans (hB.mono B1.out.size))
    clear hG hr hB
    go_wp2_with fail
    refine (eqTokenS_same L w2 A1 A0 c1 c0 bl1 bl0 hlm.out R1.out.2.1 R0.out.2.1).mono ?_
    rintro e w3 ⟨rfl, hB⟩
    have R1 := Lib.hid (R1.out.next hB)
    have R0 := Lib.hid (R0.out.next hB)
    have B3 := Lib.hid (B2.out.trans (hB.mono B2.out.size))
    clear hB
    go_wp2_with fail
    refine (markTokenS_1 L w3 A1 c1 bl1 hcc.out hlm.out R1.out.2.1 R1.out.2.2.1 (fun k hk => Nat.lt_of_lt_of_le (R1.out.2.2.2.1 k hk).2 R1.out.2.2.2.2)).mono ?_
    rintro e w4 ⟨rfl, hR, hO⟩
    have hin := R1.out.2.2.2.1
    have R0 := Lib.hid (R0.out.but hO fun k hk => Or.inr (hin k hk).1)
    have M1 : Hid (TM w4 A1 L bl1 w1.heap.size w2.heap.size) := Lib.hid ⟨hR, hin, Nat.le_trans R1.out.2.2.2.2 hO.size⟩
    have B4 := Lib.hid (B3.out.trans (hO.below (B := w.heap.size) (fun k hk => by have := (hin k hk).1; have := B1.out.size; omega) B3.out.size))
    clear hR hO hin R1
    go_wp2_with fail
    refine (heldTokenS_1 L w4 A1 c1 bl1 hcc.out hlm.out M1.out.1).mono ?_
    rintro e w5 ⟨rfl, hB⟩
    have M1 := Lib.hid (M1.out.next hB)
    have R0 := Lib.hid (R0.out.next hB)
    have B5 := Lib.hid (B4.out.trans (hB.mono B4.out.size))
    clear hB
    go_wp2_with fail
    refine (HIm.out _ (HE.out.below B5.out)).mono ?_
    rintro e w6 ⟨⟨v, rfl, hG⟩, hB⟩
    obtain ⟨A2, c2, bl2, rfl, hr⟩ := TR.of hG
    have R2 : Hid (TR w6 A2 c2 L bl2 w5.heap.size w6.heap.size) := Lib.hid hr
    have R0 := Lib.hid (R0.out.next hB)
    have M1 := Lib.hid (M1.out.next hB)
    have B6 := Lib.hid (B5.out.trans (hB.mono B5.out.size))
    clear hG hr hB
    go_wp2_with fail
    refine (eqTokenS_same L w6 A2 A0 c2 c0 bl2 bl0 hlm.out R2.out.2.1 R0.out.2.1).mono ?_
    rintro e w7 ⟨rfl, hB⟩
    have M1 := Lib.hid (M1.out.next hB)
    have B7 := Lib.hid (B6.out.trans (hB.mono B6.out.size))
    clear hB
    go_wp2_with fail
    refine (heldTokenS_1 L w7 A1 c1 bl1 hcc.out hlm.out M1.out.1).mono ?_
    rintro e w8 ⟨rfl, hB⟩
    have B8 := Lib.hid (B7.out.trans (hB.mono B7.out.size))
    clear hB
    go_wp2_with fail
    go_ret
    exact ⟨rfl, B8.out⟩
  · go_enter Tryz.func5, Tryz.ntmps5
    go_wp2
    go_ret
    exact ⟨rfl, HB0.out⟩
end Go.Proofs.YtgkkmoliobhpiaaGreatDoor
