import Derived.Test.YtgkpoimapmdogaaTo
import Derived.Deep.RegionWith
import Derived.Deep.Draws
namespace Go.Proofs.Ytgkpoimapmdogaa
open Go.ChangeShapes Go.WideShapes Go.ChangeAt Go.RowKit Go.Deep

/-- opens from ⟨b, o⟩ on: a name, a space -/
def OsAt (w : World) (b : Nat) : Nat → List (ByteArray × Int) → Prop
  | _, [] => True
  | o, x :: r => w.cell? ⟨b, o, none⟩ = some (.string x.1) ∧ w.cell? ⟨b, o + 1, none⟩ = some (.int .i64 x.2) ∧ x.1.size ≤ maxLen ∧ OsAt w b (o + 2) r
theorem OsAt.carry {w w' : World} {b : Nat} : ∀ {l : List (ByteArray × Int)} {o : Nat}, OsAt w b o l → (∀ j, j < 2 * l.length → w'.cell? ⟨b, o + j, none⟩ = w.cell? ⟨b, o + j, none⟩) → OsAt w' b o l
  | [], _, _, _ => trivial
  | x :: r, o, ⟨h1, h2, h3, h5⟩, hs => ⟨(hs 0 (by simp)).trans h1, (hs 1 (by simp; omega)).trans h2, h3, OsAt.carry h5 fun j hj => by
      have := hs (2 + j) (by simp; omega)
      rwa [← Nat.add_assoc] at this⟩
theorem OsAt.app {w : World} {b : Nat} : ∀ {p q : List (ByteArray × Int)} {o : Nat}, OsAt w b o p → OsAt w b (o + 2 * p.length) q → OsAt w b o (p ++ q)
  | [], _, _, _, h => by simpa using h
  | x :: p, q, o, ⟨h1, h2, h3, h5⟩, h => ⟨h1, h2, h3, OsAt.app h5 (by simp at h; rw [show o + 2 + 2 * p.length = o + 2 * (p.length + 1) by omega]; exact h)⟩
theorem OsAt.left {w : World} {b : Nat} : ∀ {p q : List (ByteArray × Int)} {o : Nat}, OsAt w b o (p ++ q) → OsAt w b o p
  | [], _, _, _ => trivial
  | x :: p, q, o, ⟨h1, h2, h3, h5⟩ => ⟨h1, h2, h3, OsAt.left h5⟩
theorem OsAt.get {w : World} {b : Nat} : ∀ {l : List (ByteArray × Int)} {o : Nat}, OsAt w b o l → ∀ k (h : k < l.length), w.cell? ⟨b, o + k * 2, none⟩ = some (.string l[k].1) ∧ w.cell? ⟨b, o + k * 2 + 1, none⟩ = some (.int .i64 l[k].2) ∧ l[k].1.size ≤ maxLen
  | [], _, _, k, h => absurd h (Nat.not_lt_zero _)
  | x :: r, o, ⟨h1, h2, h3, _⟩, 0, _ => ⟨by simpa using h1, by simpa using h2, by simpa using h3⟩
  | x :: r, o, ⟨_, _, _, h5⟩, k + 1, h => by
    have := OsAt.get h5 k (by simpa using h)
    simpa [show o + 2 + k * 2 = o + (k + 1) * 2 by omega] using this
/-- opens that stand somewhere -/
def OsIn (w : World) (A : Option Addr) (b o : Nat) (l : List (ByteArray × Int)) : Prop := RowAt 0 w.heap.size A l.length b o ∧ OsAt w b o l
theorem OsIn.next {w w' : World} {A : Option Addr} {b o : Nat} {l : List (ByteArray × Int)} (h : OsIn w A b o l) (hB : Below w.heap.size w w') : OsIn w' A b o l := by
  refine ⟨h.1.mono (Nat.le_refl _) hB.size, ?_⟩
  cases l with
  | nil => trivial
  | cons x r => exact h.2.carry fun j _ => hB.cell (p := ⟨b, o + j, none⟩) (by have := (h.1.2 (by simp)).2.2; show b < _; omega)
theorem OsIn.drew {w : World} {A : Option Addr} {b o : Nat} {l : List (ByteArray × Int)} (h : OsIn w A b o l) : OsIn w.drew A b o l := h.next (Below.refl _ _).drew
/-- .. the k-th -/
theorem OsIn.get {w : World} {A : Option Addr} {b o : Nat} {l : List (ByteArray × Int)} (h : OsIn w A b o l) (k : Nat) (hk : k < l.length) : A = some ⟨b, o, none⟩ ∧ b < w.heap.size ∧ w.cell? ⟨b, o + k * 2, none⟩ = some (.string l[k].1) ∧ w.cell? ⟨b, o + k * 2 + 1, none⟩ = some (.int .i64 l[k].2) ∧ l[k].1.size ≤ maxLen :=
  ⟨(h.1.2 (by omega)).1, (h.1.2 (by omega)).2.2, h.2.get k hk⟩
theorem OsIn.take {w : World} {A : Option Addr} {b o : Nat} {l : List (ByteArray × Int)} (h : OsIn w A b o l) (k : Nat) : OsIn w A b o (l.take k) := by
  refine ⟨⟨by have := h.1.1; simp; omega, fun hk => h.1.2 (by simp at hk; omega)⟩, ?_⟩
  have := h.2
  rw [← List.take_append_drop k l] at this
  exact this.left

def osSize : List (ByteArray × Int) → Nat
  | [] => 0
  | x :: r => x.1.size + osSize r

theorem szOpen_any (x : ByteArray × Int) (l : Nat) (w : World) (hl : l ≤ 1048576) (h1 : x.1.size ≤ maxLen) :
    Calls Try.prog 31 #[.agg #[.string x.1, .int .i64 x.2], .int .i64 (l : Int)] w fun e w' => e = .returned (.int .i64 (left l x.1.size)) ∧ Below w.heap.size w w' := by
  obtain ⟨n, v⟩ := x
  simp only at h1 ⊢
  unfold maxLen at h1
  have hg := (Below.refl w.heap.size w).alloc (Nat.le_refl _) (.cells #[.string n, .int .i64 v] 49)
  by_cases c1 : n.size ≤ l
  · have HL := Lib.hid (left_le c1)
    go_enter Try.func31, Try.ntmps31
    go_wp2
    go_ret
    exact ⟨by rw [HL.out]; go_num, hg⟩
  · have HL := Lib.hid (left_gt c1)
    go_enter Try.func31, Try.ntmps31
    go_wp2
    go_ret
    exact ⟨by rw [HL.out]; rfl, hg⟩

theorem szOpenS_any (al : List (ByteArray × Int)) (l : Nat) (w : World) (A : Option Addr) (c b o : Nat) (hl : l ≤ 1048576) (hal : OsIn w A b o al) :
    Calls Try.prog 15 #[.slice A al.length c, .int .i64 (l : Int)] w fun e w' => e = .returned (.int .i64 (left l (al.length + osSize al))) ∧ Below w.heap.size w w' := by
  have hA := hal.1
  have hlen := hA.1
  unfold maxLen at hlen
  have HS := Lib.hid hal.2
  by_cases c1 : al.length ≤ l
  · have HA := Lib.hid hA
    clear hA hal
    go_enter Try.func15, Try.ntmps15
    go_wp2
    go_loopw [1, 5] (fun x i wr => ∃ (k m : Nat) (suf : List (ByteArray × Int)), x = .int .i64 (m : Int) ∧ i = .int .i64 (k : Int) ∧ k + suf.length = al.length ∧ m ≤ l ∧ l + osSize suf = m + (al.length + osSize al) ∧ Hid (OsAt w b (o + k * 2) suf ∧ Below w.heap.size w wr)) (fun x i wr => al.length - (intOf i).toNat)
    case atStart => exact ⟨0, l - al.length, al, by go_num, rfl, by omega, by omega, by omega, Lib.hid ⟨by simpa using HS.out, Below.refl _ _⟩⟩
    case round =>
      obtain ⟨k, m, suf, rfl, rfl, hk, hm, hs, HH⟩ := hrel
      cases suf with
      | nil =>
        have hkl : k = al.length := by simpa using hk
        have HL := Lib.hid (show left l (al.length + osSize al) = (m : Int) by simp only [osSize] at hs; rw [left_le (by omega)]; omega)
        clear hk hs
        subst hkl
        go_wp2
        go_ret
        exact ⟨by rw [HL.out]; rfl, HH.out.2⟩
      | cons x r =>
        obtain ⟨⟨s1, s2, s3, s5⟩, hB⟩ := HH.out
        simp only [List.length_cons, osSize] at hk hs
        obtain ⟨rfl, hlo, hhi⟩ := HA.out.2 (by omega)
        have t1 := (hB.cell (p := ⟨b, o + k * 2, none⟩) (by show b < _; omega)).trans s1
        have t2 := (hB.cell (p := ⟨b, o + k * 2 + 1, none⟩) (by show b < _; omega)).trans s2
        have H5 := Lib.hid s5
        have HB := Lib.hid hB
        clear HH s1 s2 s5 hB
        by_cases c2 : x.1.size ≤ m
        · have HE := Lib.hid (left_le c2)
          go_wp2_with (go_at_call 31; go_loud (refine (szOpen_any x m _ (by omega) s3).mono ?_; rintro e w' ⟨rfl, hB'⟩; rw [HE.out]; have HB' := Lib.hid hB'; clear hB'))
          go_roundw
          case rel => exact ⟨k + 1, m - x.1.size, r, by go_num, by go_num, by omega, by omega, by omega, Lib.hid ⟨by rw [show o + (k + 1) * 2 = o + k * 2 + 2 by omega]; exact H5.out, HB.out.trans (HB'.out.mono HB.out.size)⟩⟩
          case measure => simp [intOf]; omega
        · have HE := Lib.hid (left_gt c2)
          have HL := Lib.hid (show left l (al.length + osSize al) = -1 by rw [left_gt (by omega)])
          go_wp2_with (go_at_call 31; go_loud (refine (szOpen_any x m _ (by omega) s3).mono ?_; rintro e w' ⟨rfl, hB'⟩; rw [HE.out]; have HB' := Lib.hid hB'; clear hB'))
          go_ret
          exact ⟨by rw [HL.out]; rfl, HB.out.trans (HB'.out.mono HB.out.size)⟩
  · have HL := Lib.hid (left_gt (l := l) (n := al.length + osSize al) (by omega))
    clear hal hA
    go_enter Try.func15, Try.ntmps15
    go_wp2
    go_ret
    exact ⟨by rw [HL.out]; rfl, Below.refl _ _⟩

theorem make_opens (n : Nat) (hn : n ≤ 1048576) (w : World) : (Instr.makeSlice 23 (.int .i64 (n : Int)) (.int .i64 (n : Int))).run Try.prog w = .ok (.slice (some ⟨w.heap.size, 0, none⟩) n n) (w.alloc (.cells (madeCells #[.string ⟨#[]⟩, .int .i64 0] (n * 2)) 31)) := by
  have hinfo : (Try.prog.info? 31).map (fun i => (i.zero, i.size, i.bytes)) = some (some (.agg #[.string ⟨#[]⟩, .int .i64 0]), 2, 24) := by kernel_rfl
  obtain ⟨i, hi, hzz⟩ := Option.map_eq_some_iff.1 hinfo
  simp only [Prod.mk.injEq] at hzz
  obtain ⟨hz, hs, hb⟩ := hzz
  have := run_make (P := Try.prog) w 23 31 i _ Try.underlying23 hi hz .i64 .i64 n n (by omega) (Int.le_refl _) (by rw [hb]; omega) (by omega)
  simp only [Int.toNat_natCast, hs] at this
  exact this

theorem toOpen_any (x : ByteArray × Int) (w : World) (h1 : x.1.size ≤ maxLen) :
    Calls Try.prog 32 #[.agg #[.string x.1, .int .i64 x.2]] w fun e w' => e = .returned (.agg #[.string x.1, .int .i64 x.2]) ∧ Below w.heap.size w w' := by
  obtain ⟨n, v⟩ := x
  simp only at h1 ⊢
  go_enter Try.func32, Try.ntmps32
  go_wp2
  (try simp only [Exit.inBlock, Exit.then])
  refine bodyPost_ret (v := .agg #[.string n, .int .i64 v]) (by simp [results, Try.results32, go_sem]) rfl ⟨rfl, ?_⟩
  go_grown

theorem toOpenS_any (al : List (ByteArray × Int)) (w : World) (A : Option Addr) (c b o : Nat) (hl : al.length ≤ 1048576) (hal : OsIn w A b o al) :
    Calls Try.prog 16 #[.slice A al.length c] w fun e w' => e = .returned (.slice (some ⟨w.heap.size, 0, none⟩) al.length al.length) ∧ Below w.heap.size w w' ∧ OsIn w' (some ⟨w.heap.size, 0, none⟩) w.heap.size 0 al := by
  have HA := Lib.hid hal.1
  have HS := Lib.hid hal.2
  have hmk := make_opens al.length hl
  have hml : al.length ≤ maxLen := hal.1.1
  have HML := Lib.hid hml
  clear hal hml
  go_enter Try.func16, Try.ntmps16
  go_wp2
  go_loopw [4] (fun i wr => ∃ (k : Nat) (pre suf : List (ByteArray × Int)), i = .int .i64 (k : Int) ∧ al = pre ++ suf ∧ pre.length = k ∧
    Hid (OsAt w b (o + k * 2) suf ∧ Below w.heap.size w wr ∧ w.heap.size < wr.heap.size ∧ OsAt wr w.heap.size 0 pre ∧ Room wr w.heap.size (al.length * 2))) (fun i wr => al.length - (intOf i).toNat)
  case atStart => exact ⟨0, [], al, rfl, rfl, rfl, Lib.hid ⟨by simpa using HS.out, (Below.refl _ _).alloc (Nat.le_refl _) _, by simp, trivial, room_made _ _ _ _⟩⟩
  case round =>
    obtain ⟨k, pre, suf, rfl, hp, hk, HH⟩ := hrel
    have HP := Lib.hid hp
    cases suf with
    | nil =>
      have hkl : k = al.length := by rw [hp]; simp [hk]
      clear hp hk
      subst hkl
      go_wp2
      go_ret
      exact ⟨rfl, HH.out.2.1, ⟨HML.out, fun _ => ⟨rfl, Nat.zero_le _, HH.out.2.2.1⟩⟩, by have := HH.out.2.2.2.1; rw [HP.out]; simpa using this⟩
    | cons x r =>
      have hkl : k < al.length := by rw [hp]; simp [hk]
      obtain ⟨⟨s1, s2, s3, s5⟩, hB, hg, hpre, hroom⟩ := HH.out
      obtain ⟨rfl, hlo, hhi⟩ := HA.out.2 (by omega)
      have t1 := (hB.cell (p := ⟨b, o + k * 2, none⟩) (by show b < _; omega)).trans s1
      have t2 := (hB.cell (p := ⟨b, o + k * 2 + 1, none⟩) (by show b < _; omega)).trans s2
      have H5 := Lib.hid s5
      have HB := Lib.hid hB
      have HK := Lib.hid hk
      have HPR := Lib.hid hpre
      have HRO := Lib.hid hroom
      clear HH s1 s2 s5 hB hp hk hpre hroom
      go_wp2_with (go_at_call 32; go_loud (refine (toOpen_any x _ s3).mono ?_; rintro e w' ⟨rfl, hB'⟩; obtain ⟨⟨v0, e0⟩, f0⟩ := (HRO.out.below hB' hg) (k * 2) (by omega); obtain ⟨⟨v1, e1⟩, f1⟩ := (HRO.out.below hB' hg) (k * 2 + 1) (by omega); have HB' := Lib.hid hB'; clear hB'))
      go_roundw
      case rel =>
        have hB' := HB'.out
        have hg' : w.heap.size < w'.heap.size := Nat.lt_of_lt_of_le hg hB'.size
        have hP' := HPR.out.carry (w' := w') fun j _ => hB'.cell (p := ⟨_, _, none⟩) hg
        refine ⟨k + 1, pre ++ [x], r, by go_num, by rw [HP.out]; simp, by simp [HK.out], Lib.hid ⟨by rw [show o + (k + 1) * 2 = o + k * 2 + 2 by omega]; exact H5.out, ((HB.out.trans (hB'.mono HB.out.size)).setCell (p := ⟨_, _, none⟩) (Nat.le_refl _) _).setCell (p := ⟨_, _, none⟩) (Nat.le_refl _) _, by simpa using hg', ?_, ((HRO.out.below hB' hg).set _ _).set _ _⟩⟩
        refine OsAt.app (hP'.carry fun j hj => ?_) ⟨?_, ?_, s3, trivial⟩
        · have := HK.out
          rw [World.cell?_setCell_other (h := by simp <;> omega), World.cell?_setCell_other (h := by simp <;> omega)]
        · have := HK.out
          rw [World.cell?_setCell_other (h := by simp <;> omega), show 0 + 2 * pre.length = k * 2 by omega]
          exact World.cell?_setCell_same _ _ _ e0
        · have := HK.out
          rw [show 0 + 2 * pre.length + 1 = k * 2 + 1 by omega]
          exact World.cell?_setCell_same (u := v1) _ _ _ (by rw [World.cell?_setCell_other (h := by simp)]; exact e1)
      case measure => simp [intOf]; omega

theorem eqOpen_same (x : ByteArray × Int) (w : World) :
    Calls Try.prog 33 #[.agg #[.string x.1, .int .i64 x.2], .agg #[.string x.1, .int .i64 x.2]] w fun e w' => e = .returned (.bool true) ∧ Below w.heap.size w w' := by
  obtain ⟨n, v⟩ := x
  go_enter Try.func33, Try.ntmps33
  go_wp2
  go_ret
  exact ⟨rfl, by go_grown⟩

theorem eqOpenS_same (al : List (ByteArray × Int)) (w : World) (A A' : Option Addr) (c c' b b' o o' : Nat) (h : OsIn w A b o al) (h' : OsIn w A' b' o' al) :
    Calls Try.prog 17 #[.slice A al.length c, .slice A' al.length c'] w fun e w' => e = .returned (.bool true) ∧ Below w.heap.size w w' := by
  have hlen := h.1.1
  unfold maxLen at hlen
  have HA := Lib.hid h.1
  have HS := Lib.hid h.2
  have HA' := Lib.hid h'.1
  have HS' := Lib.hid h'.2
  clear h h'
  go_enter Try.func17, Try.ntmps17
  go_wp2
  go_loopw [5] (fun i wr => ∃ (k : Nat) (suf : List (ByteArray × Int)), i = .int .i64 (k : Int) ∧ k + suf.length = al.length ∧ Hid (OsAt w b (o + k * 2) suf ∧ OsAt w b' (o' + k * 2) suf ∧ Below w.heap.size w wr)) (fun i wr => al.length - (intOf i).toNat)
  case atStart => exact ⟨0, al, rfl, by omega, Lib.hid ⟨by simpa using HS.out, by simpa using HS'.out, Below.refl _ _⟩⟩
  case round =>
    obtain ⟨k, suf, rfl, hk, HH⟩ := hrel
    cases suf with
    | nil =>
      have hkl : k = al.length := by simpa using hk
      clear hk
      subst hkl
      go_wp2
      go_ret
      exact ⟨rfl, HH.out.2.2⟩
    | cons x r =>
      obtain ⟨⟨s1, s2, s3, s5⟩, ⟨s1', s2', _, s5'⟩, hB⟩ := HH.out
      obtain ⟨rfl, hlo, hhi⟩ := HA.out.2 (by simp at hk; omega)
      obtain ⟨rfl, hlo', hhi'⟩ := HA'.out.2 (by simp at hk; omega)
      have t1 := (hB.cell (p := ⟨b, o + k * 2, none⟩) (by show b < _; omega)).trans s1
      have t2 := (hB.cell (p := ⟨b, o + k * 2 + 1, none⟩) (by show b < _; omega)).trans s2
      have t1' := (hB.cell (p := ⟨b', o' + k * 2, none⟩) (by show b' < _; omega)).trans s1'
      have t2' := (hB.cell (p := ⟨b', o' + k * 2 + 1, none⟩) (by show b' < _; omega)).trans s2'
      have H5 := Lib.hid s5
      have H5' := Lib.hid s5'
      have HB := Lib.hid hB
      simp at hk
      clear HH s1 s2 s5 s1' s2' s5' hB
      go_wp2
      go_region_with (go_at_call 33; go_loud (refine (eqOpen_same x _).mono ?_; rintro e w' ⟨rfl, hB'⟩; have HB' := Lib.hid hB'; clear hB'))
      all_goals (
        go_wp2
        go_roundw
        case rel => exact ⟨k + 1, r, by go_num, by omega, Lib.hid ⟨by rw [show o + (k + 1) * 2 = o + k * 2 + 2 by omega]; exact H5.out, by rw [show o' + (k + 1) * 2 = o' + k * 2 + 2 by omega]; exact H5'.out, HB.out.drew.trans (HB'.out.mono HB.out.size)⟩⟩
        case measure => simp [intOf]; omega)
end Go.Proofs.Ytgkpoimapmdogaa
