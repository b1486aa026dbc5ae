import Derived.Handy
import Derived.Test.YthdkkpbhijlpaaaGreatS24
set_option linter.unusedVariables false
namespace Go.Proofs.YthdkkpbhijlpaaaGreat
open Go.ChangeShapes Go.WideShapes Go.ChangeAt Go.RowKit Go.Deep
variable {σ : Type}

theorem boxes_new (w : World) (C : Nat → Prop) (hi g : Nat) (cap : Array Value) (hh : hi ≤ w.heap.size) (hC : ∀ k, C k → k < w.heap.size) (t1 t2 : TypeId) :
    Boxes ((w.alloc (.cells #[.func (.func g) #[] cap] t1)).alloc (.cells #[.func (.func 160) #[] #[.pointer (some ⟨w.heap.size, 0, none⟩), .pointer (some ⟨w.heap.size + 1, 0, none⟩)]] t2)) C hi w.heap.size (w.heap.size + 1) g cap := by
  refine ⟨⟨hh, by simp; omega, fun c => absurd (hC _ c) (Nat.lt_irrefl _), ?_⟩, by omega, by simp, fun c => by have := hC _ c; omega, ?_⟩
  · have : (w.alloc (.cells #[.func (.func g) #[] cap] t1)).heap.size = w.heap.size + 1 := by simp
    rw [World.cell?_alloc_lt _ _ _ (by show w.heap.size < _; rw [this]; omega)]
    exact new_cell rfl
  · have : (w.alloc (.cells #[.func (.func g) #[] cap] t1)).heap.size = w.heap.size + 1 := by simp
    have h := new_cell (w := w.alloc (.cells #[.func (.func g) #[] cap] t1)) (cs := #[.func (.func 160) #[] #[.pointer (some ⟨w.heap.size, 0, none⟩), .pointer (some ⟨w.heap.size + 1, 0, none⟩)]]) (t := t2) (j := 0) rfl
    rwa [this] at h
set_option maxHeartbeats 400000 in
theorem walk2_any (g : Nat) (cap : Array Value) (lo hi : Nat) (ok : σ → List NP → Prop) (st : σ → List NP → σ × Bool) (Inv : σ → (Nat → Prop) → World → Prop) (V : Vis2 Tryz.prog g cap lo hi ok st Inv) (eg : ∀ args w, (callFunc g args).run Tryz.prog w = .ok (.enter g args) w) (F : Fo)
    (s : σ) (C : Nat → Prop) (w : World) (A : Option Addr) (c b o : Nat) (hd : F.nodes ≤ 1048576) (hp : travP2 ok st F [] 0 s) (hI : Inv s C w) (hh : hi ≤ w.heap.size) (hA : RowAt lo hi A F.len b o) (hF : FoAt w lo hi b o F) :
    Calls Tryz.prog 98 #[.slice A F.len c, .func (.func g) #[] cap] w (Gone2 st Inv s C [] F 0 w) := by
  have hmf : ∀ (fn : Fn) (first cap : Array Value) (w : World), (Instr.makeFunc fn first cap).run Tryz.prog w = .ok (.func fn first cap) w := fun _ _ _ _ => rfl
  have HA := Lib.hid hA
  have HF := Lib.hid hF
  have HI := Lib.hid hI
  have HV := Lib.hid V
  have HP := Lib.hid hp
  clear hA hF hI V hp
  go_enter Tryz.func98, Tryz.ntmps98
  go_wp2_with (go_at_call 160; refine (walk1_any g cap lo hi ok st Inv HV.out eg F [] s C _ A none c b o _ _ (by simpa using hd) HP.out ?i1 ?i2 HA.out ?i3 rfl ?i4).mono ?i5)
  case i1 => exact HV.out.keep _ _ _ _ HI.out (((Kin.refl _).alloc _ _ (by decide)).alloc _ _ (by decide))
  case i2 => simp; omega
  case i3 => exact HF.out.but HA.out (((But.refl C w).alloc _).alloc _) hh (fun k hk => (HV.out.own _ _ _ HI.out k hk).1)
  case i4 => exact boxes_new w C hi g cap hh (fun k hk => (HV.out.own _ _ _ HI.out k hk).2) _ _
  case i5 =>
    rintro e w' ⟨D, rfl, i1, b1, d1⟩
    have K := Lib.hid (And.intro i1 (And.intro b1 d1))
    clear i1 b1 d1
    go_wp2
    go_ret
    exact ⟨D, rfl, K.out.1, (((But.refl C w).alloc _).alloc _).trans K.out.2.1 (fun _ h => Or.inl h), fun k hk => (K.out.2.2 k hk).imp id fun h => by simp at h; omega⟩
theorem walk_any (g : Nat) (cap : Array Value) (lo hi : Nat) (ok : σ → List Nd → Prop) (st : σ → List Nd → σ × Bool) (Inv : σ → (Nat → Prop) → World → Prop) (V : Vis Tryz.prog g cap lo hi ok st Inv) (eg : ∀ args w, (callFunc g args).run Tryz.prog w = .ok (.enter g args) w) (F : Fo)
    (s : σ) (C : Nat → Prop) (w : World) (A : Option Addr) (c b o : Nat) (hd : F.nodes ≤ 1048576) (hp : travP ok st F [] s) (hI : Inv s C w) (hh : hi ≤ w.heap.size) (hA : RowAt lo hi A F.len b o) (hF : FoAt w lo hi b o F) :
    Calls Tryz.prog 98 #[.slice A F.len c, .func (.func g) #[] cap] w (Gone st Inv s C [] F w) := by
  refine (walk2_any g cap lo hi (bare ok) (bare st) Inv V.two eg F s C w A c b o hd ((travP2_bare ok st F [] 0 s).2 hp) hI hh hA hF).mono ?_
  rintro e w' ⟨D, h1, h2, h3, h4⟩
  rw [trav2_bare] at h1 h2
  exact ⟨D, h1, h2, h3, h4⟩
end Go.Proofs.YthdkkpbhijlpaaaGreat
namespace Go.Proofs.YthdkkpbhijlpaaaGreat
open Go.ChangeShapes Go.WideShapes Go.ChangeAt Go.RowKit Go.Deep

/-- the place of the first attribute of that name, from place k on -/
def idxAl : List (ByteArray × ByteArray) → ByteArray → Nat → Int
  | [], _, _ => -1
  | x :: r, n, k => if (x.1.toList == n.toList) = true then (k : Int) else idxAl r n (k + 1)
theorem idxAl_neg : ∀ (al : List (ByteArray × ByteArray)) (n : ByteArray) (k : Nat), idxAl al n k = -1 ∨ 0 ≤ idxAl al n k
  | [], _, _ => Or.inl rfl
  | x :: r, n, k => by
    rw [idxAl]; split
    · right; omega
    · exact idxAl_neg r n (k + 1)
theorem idxAl_none : ∀ (al : List (ByteArray × ByteArray)) (n : ByteArray) (k : Nat), idxAl al n k = -1 ↔ ∀ x ∈ al, x.1 ≠ n
  | [], _, _ => by simp [idxAl]
  | x :: r, n, k => by
    rw [idxAl]
    split
    · rename_i h
      refine ⟨fun e => by omega, fun h2 => absurd (str_ext (by simpa using h)) (h2 x (by simp))⟩
    · rename_i h
      rw [idxAl_none r n (k + 1)]
      simp only [List.mem_cons, forall_eq_or_imp]
      exact ⟨fun h2 => ⟨fun e => h (by rw [e]; simp), h2⟩, fun h2 => h2.2⟩
theorem named1_any (x : ByteArray × ByteArray) (n : ByteArray) (B : Nat) (w : World) (hB : B < w.heap.size) (hc : w.cell? ⟨B, 0, none⟩ = some (.string n)) :
    Calls Tryz.prog 204 #[.agg #[.string x.1, .string x.2], .pointer (some ⟨B, 0, none⟩)] w fun e w' => e = .returned (.bool (x.1.toList == n.toList)) ∧ Below w.heap.size w w' := by
  obtain ⟨m, v⟩ := x
  go_enter Tryz.func204, Tryz.ntmps204
  go_wp2
  go_ret
  exact ⟨rfl, by go_grown⟩
theorem indexAttr_any (al : List (ByteArray × ByteArray)) (n : ByteArray) (B : Nat) (w : World) (A : Option Addr) (c b o lo hi : Nat) (hA : RowAt lo hi A al.length b o) (hh : hi ≤ w.heap.size) (hal : AsAt w b o al)
    (hB : B < w.heap.size) (hc : w.cell? ⟨B, 0, none⟩ = some (.string n)) :
    Calls Tryz.prog 203 #[.slice A al.length c, .func (.func 204) #[] #[.pointer (some ⟨B, 0, none⟩)]] w fun e w' => e = .returned (.int .i64 (idxAl al n 0)) ∧ Below w.heap.size w w' := by
  have hlen := hA.1
  unfold maxLen at hlen
  have HA := Lib.hid hA
  have HS := Lib.hid hal
  have HC := Lib.hid hc
  clear hA hal hc
  go_enter Tryz.func203, Tryz.ntmps203
  go_wp2
  go_loopw [8] (fun i wr => ∃ (k : Nat) (suf : List (ByteArray × ByteArray)), i = .int .i64 (k : Int) ∧ k + suf.length = al.length ∧ Hid (AsAt w b (o + k * 2) suf ∧ Below w.heap.size w wr ∧ idxAl al n 0 = idxAl suf n k)) (fun i wr => al.length - (intOf i).toNat)
  case atStart => exact ⟨0, al, rfl, by omega, Lib.hid ⟨by simpa using HS.out, Below.refl _ _, rfl⟩⟩
  case round =>
    obtain ⟨k, suf, rfl, hk, HH⟩ := hrel
    cases suf with
    | nil =>
      have hkl : k = al.length := by simpa using hk
      clear hk
      subst hkl
      go_wp2
      go_ret
      exact ⟨by rw [HH.out.2.2]; rfl, HH.out.2.1⟩
    | cons x r =>
      obtain ⟨⟨s1, s2, s3, s4, s5⟩, hB2, he⟩ := HH.out
      obtain ⟨rfl, hlo, hhi⟩ := HA.out.2 (by simp at hk; omega)
      have t1 := (hB2.cell (p := ⟨b, o + k * 2, none⟩) (by show b < _; omega)).trans s1
      have t2 := (hB2.cell (p := ⟨b, o + k * 2 + 1, none⟩) (by show b < _; omega)).trans s2
      have H5 := Lib.hid s5
      have HB := Lib.hid hB2
      have HE := Lib.hid he
      simp at hk
      clear HH s1 s2 s5 hB2 he
      cases hq : (x.1.toList == n.toList) with
      | true =>
        have HQ := Lib.hid hq
        clear hq
        go_wp2_with (go_at_call 204; go_loud (refine (named1_any x n B _ (Nat.lt_of_lt_of_le hB HB.out.size) ((HB.out.cell (p := ⟨B, 0, none⟩) hB).trans HC.out)).mono ?_; rintro e w' ⟨rfl, hB'⟩; rw [HQ.out]; have HB' := Lib.hid hB'; clear hB'))
        go_ret
        exact ⟨by rw [HE.out, idxAl, if_pos HQ.out]; rfl, HB.out.trans (HB'.out.mono HB.out.size)⟩
      | false =>
        have HQ := Lib.hid hq
        clear hq
        go_wp2_with (go_at_call 204; go_loud (refine (named1_any x n B _ (Nat.lt_of_lt_of_le hB HB.out.size) ((HB.out.cell (p := ⟨B, 0, none⟩) hB).trans HC.out)).mono ?_; rintro e w' ⟨rfl, hB'⟩; rw [HQ.out]; have HB' := Lib.hid hB'; clear hB'))
        go_roundw
        case rel => exact ⟨k + 1, r, by go_num, by omega, Lib.hid ⟨by rw [show o + (k + 1) * 2 = o + k * 2 + 2 by omega]; exact H5.out, HB.out.trans (HB'.out.mono HB.out.size), by rw [HE.out, idxAl, if_neg (by rw [HQ.out]; simp)]⟩⟩
        case measure => simp [intOf]; omega
theorem placeOfAttr_any (al : List (ByteArray × ByteArray)) (n : ByteArray) (w : World) (A : Option Addr) (c b o lo hi : Nat) (hA : RowAt lo hi A al.length b o) (hh : hi ≤ w.heap.size) (hal : AsAt w b o al) :
    Calls Tryz.prog 193 #[.slice A al.length c, .string n] w fun e w' => e = .returned (.int .i64 (idxAl al n 0)) ∧ Below w.heap.size w w' := by
  have hmf : ∀ (fn : Fn) (first cap : Array Value) (w : World), (Instr.makeFunc fn first cap).run Tryz.prog w = .ok (.func fn first cap) w := fun _ _ _ _ => rfl
  have HA := Lib.hid hA
  have HS := Lib.hid hal
  clear hA hal
  go_enter Tryz.func193, Tryz.ntmps193
  go_wp2_with (go_at_call 203; refine (indexAttr_any al n w.heap.size _ A c b o lo hi HA.out ?i1 ?i2 ?i3 ?i4).mono ?i5)
  case i1 => simp; omega
  case i2 => exact HS.out.but HA.out ((But.refl No w).alloc _) hh (fun _ h => h.elim)
  case i3 => simp
  case i4 => exact new_cell rfl
  case i5 =>
    rintro e w' ⟨rfl, hB'⟩
    have HB' := Lib.hid hB'
    clear hB'
    go_wp2
    go_ret
    exact ⟨rfl, ((Below.refl _ _).alloc (Nat.le_refl _) _).trans (HB'.out.mono (by simp))⟩
noncomputable def attrB (x : ByteArray × ByteArray) : Bool := namedB small tagB x.1 && decide (x.2.size ≤ 40)
theorem attrB_iff (x : ByteArray × ByteArray) : attrB x = true ↔ AttrIs x := by simp [attrB, AttrIs]
theorem attrOK_any (x : ByteArray × ByteArray) (w : World) (h1 : x.1.size ≤ maxLen) (h2 : x.2.size ≤ maxLen) :
    Calls Tryz.prog 192 #[.agg #[.string x.1, .string x.2]] w fun e w' => e = .returned (.bool (attrB x)) ∧ Below w.heap.size w w' := by
  obtain ⟨n, v⟩ := x
  simp only at h1 h2
  have H1 := Lib.hid h1
  clear h1
  unfold maxLen at h2
  cases hn : namedB small tagB n with
  | true =>
    have HN := Lib.hid hn
    clear hn
    go_enter Tryz.func192, Tryz.ntmps192
    go_wp2_with (go_at_call 110; refine (implTagOK_any n _ H1.out).mono ?_; rintro e w' ⟨rfl, rfl⟩; rw [HN.out])
    go_ret
    exact ⟨ret_bool (by simp [attrB, HN.out]; omega), by go_grown⟩
  | false =>
    have HN := Lib.hid hn
    clear hn
    go_enter Tryz.func192, Tryz.ntmps192
    go_wp2_with (go_at_call 110; refine (implTagOK_any n _ H1.out).mono ?_; rintro e w' ⟨rfl, rfl⟩; rw [HN.out])
    go_ret
    exact ⟨ret_bool (by simp [attrB, HN.out]), by go_grown⟩
end Go.Proofs.YthdkkpbhijlpaaaGreat
