
import Derived.Test.YtbcbmgeoaejlmaaWalk2
namespace Go.Proofs.Ytbcbmgeoaejlmaa
open Go.ChangeShapes Go.WideShapes Go.ChangeAt Go.RowKit Go.Deep

/-- the place of the first attribute of that name, from place k on -/
def idxAl : List (ByteArray × ByteArray) → ByteArray → Nat → Int
  | [], _, _ => -1
  | x :: r, n, k => if (x.1.toList == n.toList) = true then (k : Int) else idxAl r n (k + 1)
theorem idxAl_neg : ∀ (al : List (ByteArray × ByteArray)) (n : ByteArray) (k : Nat), idxAl al n k = -1 ∨ 0 ≤ idxAl al n k
  | [], _, _ => Or.inl rfl
  | x :: r, n, k => by
    rw [idxAl]; split
    · right; omega
    · exact idxAl_neg r n (k + 1)
theorem idxAl_none : ∀ (al : List (ByteArray × ByteArray)) (n : ByteArray) (k : Nat), idxAl al n k = -1 ↔ ∀ x ∈ al, x.1 ≠ n
  | [], _, _ => by simp [idxAl]
  | x :: r, n, k => by
    rw [idxAl]
    split
    · rename_i h
      refine ⟨fun e => by omega, fun h2 => absurd (str_ext (by simpa using h)) (h2 x (by simp))⟩
    · rename_i h
      rw [idxAl_none r n (k + 1)]
      simp only [List.mem_cons, forall_eq_or_imp]
      exact ⟨fun h2 => ⟨fun e => h (by rw [e]; simp), h2⟩, fun h2 => h2.2⟩

theorem named1_any (x : ByteArray × ByteArray) (n : ByteArray) (B : Nat) (w : World) (hB : B < w.heap.size) (hc : w.cell? ⟨B, 0, none⟩ = some (.string n)) :
    Calls Try.prog 197 #[.agg #[.string x.1, .string x.2], .pointer (some ⟨B, 0, none⟩)] w fun e w' => e = .returned (.bool (x.1.toList == n.toList)) ∧ Below w.heap.size w w' := by
  obtain ⟨m, v⟩ := x
  go_enter Try.func197, Try.ntmps197
  go_wp2
  go_ret
  exact ⟨rfl, by go_grown⟩

theorem indexAttr_any (al : List (ByteArray × ByteArray)) (n : ByteArray) (B : Nat) (w : World) (A : Option Addr) (c b o lo hi : Nat) (hA : RowAt lo hi A al.length b o) (hh : hi ≤ w.heap.size) (hal : AsAt w b o al)
    (hB : B < w.heap.size) (hc : w.cell? ⟨B, 0, none⟩ = some (.string n)) :
    Calls Try.prog 185 #[.slice A al.length c, .func (.func 197) #[] #[.pointer (some ⟨B, 0, none⟩)]] w fun e w' => e = .returned (.int .i64 (idxAl al n 0)) ∧ Below w.heap.size w w' := by
  have hlen := hA.1
  unfold maxLen at hlen
  have HA := Lib.hid hA
  have HS := Lib.hid hal
  have HC := Lib.hid hc
  clear hA hal hc
  go_enter Try.func185, Try.ntmps185
  go_wp2
  go_loopw [8] (fun i wr => ∃ (k : Nat) (suf : List (ByteArray × ByteArray)), i = .int .i64 (k : Int) ∧ k + suf.length = al.length ∧ Hid (AsAt w b (o + k * 2) suf ∧ Below w.heap.size w wr ∧ idxAl al n 0 = idxAl suf n k)) (fun i wr => al.length - (intOf i).toNat)
  case atStart => exact ⟨0, al, rfl, by omega, Lib.hid ⟨by simpa using HS.out, Below.refl _ _, rfl⟩⟩
  case round =>
    obtain ⟨k, suf, rfl, hk, HH⟩ := hrel
    cases suf with
    | nil =>
      have hkl : k = al.length := by simpa using hk
      clear hk
      subst hkl
      go_wp2
      go_ret
      exact ⟨by rw [HH.out.2.2]; rfl, HH.out.2.1⟩
    | cons x r =>
      obtain ⟨⟨s1, s2, s3, s4, s5⟩, hB2, he⟩ := HH.out
      obtain ⟨rfl, hlo, hhi⟩ := HA.out.2 (by simp at hk; omega)
      have t1 := (hB2.cell (p := ⟨b, o + k * 2, none⟩) (by show b < _; omega)).trans s1
      have t2 := (hB2.cell (p := ⟨b, o + k * 2 + 1, none⟩) (by show b < _; omega)).trans s2
      have H5 := Lib.hid s5
      have HB := Lib.hid hB2
      have HE := Lib.hid he
      simp at hk
      clear HH s1 s2 s5 hB2 he
      cases hq : (x.1.toList == n.toList) with
      | true =>
        have HQ := Lib.hid hq
        clear hq
        go_wp2_with (go_at_call 197; go_loud (refine (named1_any x n B _ (Nat.lt_of_lt_of_le hB HB.out.size) ((HB.out.cell (p := ⟨B, 0, none⟩) hB).trans HC.out)).mono ?_; rintro e w' ⟨rfl, hB'⟩; rw [HQ.out]; have HB' := Lib.hid hB'; clear hB'))
        go_ret
        exact ⟨by rw [HE.out, idxAl, if_pos HQ.out]; rfl, HB.out.trans (HB'.out.mono HB.out.size)⟩
      | false =>
        have HQ := Lib.hid hq
        clear hq
        go_wp2_with (go_at_call 197; go_loud (refine (named1_any x n B _ (Nat.lt_of_lt_of_le hB HB.out.size) ((HB.out.cell (p := ⟨B, 0, none⟩) hB).trans HC.out)).mono ?_; rintro e w' ⟨rfl, hB'⟩; rw [HQ.out]; have HB' := Lib.hid hB'; clear hB'))
        go_roundw
        case rel => exact ⟨k + 1, r, by go_num, by omega, Lib.hid ⟨by rw [show o + (k + 1) * 2 = o + k * 2 + 2 by omega]; exact H5.out, HB.out.trans (HB'.out.mono HB.out.size), by rw [HE.out, idxAl, if_neg (by rw [HQ.out]; simp)]⟩⟩
        case measure => simp [intOf]; omega

theorem placeOfAttr_any (al : List (ByteArray × ByteArray)) (n : ByteArray) (w : World) (A : Option Addr) (c b o lo hi : Nat) (hA : RowAt lo hi A al.length b o) (hh : hi ≤ w.heap.size) (hal : AsAt w b o al) :
    Calls Try.prog 186 #[.slice A al.length c, .string n] w fun e w' => e = .returned (.int .i64 (idxAl al n 0)) ∧ Below w.heap.size w w' := by
  have hmf : ∀ (fn : Fn) (first cap : Array Value) (w : World), (Instr.makeFunc fn first cap).run Try.prog w = .ok (.func fn first cap) w := fun _ _ _ _ => rfl
  have HA := Lib.hid hA
  have HS := Lib.hid hal
  clear hA hal
  go_enter Try.func186, Try.ntmps186
  go_wp2_with (go_at_call 185; refine (indexAttr_any al n w.heap.size _ A c b o lo hi HA.out ?i1 ?i2 ?i3 ?i4).mono ?i5)
  case i1 => simp; omega
  case i2 => exact HS.out.but HA.out ((But.refl No w).alloc _) hh (fun _ h => h.elim)
  case i3 => simp
  case i4 => exact new_cell rfl
  case i5 =>
    rintro e w' ⟨rfl, hB'⟩
    have HB' := Lib.hid hB'
    clear hB'
    go_wp2
    go_ret
    exact ⟨rfl, ((Below.refl _ _).alloc (Nat.le_refl _) _).trans (HB'.out.mono (by simp))⟩

noncomputable def attrB (x : ByteArray × ByteArray) : Bool := namedB small tagB x.1 && decide (x.2.size ≤ 40)
theorem attrB_iff (x : ByteArray × ByteArray) : attrB x = true ↔ AttrIs x := by simp [attrB, AttrIs]
theorem attrOK_any (x : ByteArray × ByteArray) (w : World) (h1 : x.1.size ≤ maxLen) (h2 : x.2.size ≤ maxLen) :
    Calls Try.prog 68 #[.agg #[.string x.1, .string x.2]] w fun e w' => e = .returned (.bool (attrB x)) ∧ Below w.heap.size w w' := by
  obtain ⟨n, v⟩ := x
  simp only at h1 h2
  have H1 := Lib.hid h1
  clear h1
  unfold maxLen at h2
  cases hn : namedB small tagB n with
  | true =>
    have HN := Lib.hid hn
    clear hn
    go_enter Try.func68, Try.ntmps68
    go_wp2_with (go_at_call 129; refine (implTagOK_any n _ H1.out).mono ?_; rintro e w' ⟨rfl, rfl⟩; rw [HN.out])
    go_ret
    exact ⟨ret_bool (by simp [attrB, HN.out]; omega), by go_grown⟩
  | false =>
    have HN := Lib.hid hn
    clear hn
    go_enter Try.func68, Try.ntmps68
    go_wp2_with (go_at_call 129; refine (implTagOK_any n _ H1.out).mono ?_; rintro e w' ⟨rfl, rfl⟩; rw [HN.out])
    go_ret
    exact ⟨ret_bool (by simp [attrB, HN.out]), by go_grown⟩
end Go.Proofs.Ytbcbmgeoaejlmaa
