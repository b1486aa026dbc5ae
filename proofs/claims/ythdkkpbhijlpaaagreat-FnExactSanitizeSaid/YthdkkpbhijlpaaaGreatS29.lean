import Derived.Test.YthdkkpbhijlpaaaGreatS28
set_option linter.unusedVariables false
namespace Go.Proofs.YthdkkpbhijlpaaaGreat
open Go.ChangeShapes Go.WideShapes Go.ChangeAt Go.RowKit Go.Deep

theorem visOK (cb lo hi : Nat) : Vis Tryz.prog 122 #[.pointer (some ⟨cb, 0, none⟩)] lo hi always stOK (CountAt cb hi) where
  own := fun _ _ _ h k hk => by rw [(h.1 k).1 hk]; exact ⟨h.2.1, h.2.2.1⟩
  keep := fun _ _ _ _ h hB => h.keep hB.but
  call := fun s C w q ch hne hl _ hI hS hh => by
    cases ch with
    | nil => exact absurd rfl hne
    | cons x r => exact visitOK_any cb lo hi s C w q x r hl hI hS hh
theorem count_new (w : World) (hi : Nat) (c : Int) (t : TypeId) (hh : hi ≤ w.heap.size) : CountAt w.heap.size hi c (fun k => k = w.heap.size) (w.alloc (.cells #[.int .i64 c] t)) :=
  ⟨fun _ => Iff.rfl, hh, by simp, new_cell rfl, by simp⟩
theorem implTreeOK_any (F : Fo) (w : World) (A : Option Addr) (c b o lo hi : Nat) (hd : F.nodes ≤ 1048576) (hh : hi ≤ w.heap.size) (hA : RowAt lo hi A F.len b o) (hF : FoAt w lo hi b o F) :
    Calls Tryz.prog 75 #[.slice A F.len c] w fun e w' => e = .returned (.bool (goodB F)) ∧ Below w.heap.size w w' := by
  have hmf : ∀ (fn : Fn) (first cap : Array Value) (w : World), (Instr.makeFunc fn first cap).run Tryz.prog w = .ok (.func fn first cap) w := fun _ _ _ _ => rfl
  have HA := Lib.hid hA
  have HF := Lib.hid hF
  clear hA hF
  go_enter Tryz.func75, Tryz.ntmps75
  go_wp2_with (go_at_call 98; refine (walk_any 122 #[.pointer (some ⟨w.heap.size, 0, none⟩)] lo hi always stOK (CountAt w.heap.size hi) (visOK w.heap.size lo hi) (enters_of Tryz.func122 (by kernel_rfl) rfl) F 0 (fun k => k = w.heap.size) _ A c b o hd (travP_always _ _ _ _) ?i1 ?i2 HA.out ?i3).mono ?i4)
  case i1 => exact count_new w hi 0 _ hh
  case i2 => simp; omega
  case i3 => exact HF.out.but HA.out ((But.refl No w).alloc _) hh (fun _ h => h.elim)
  case i4 =>
    rintro e w' ⟨D, rfl, i1, b1, d1⟩
    rw [trav_good]
    have K := Lib.hid b1
    clear i1 b1 d1
    go_wp2
    go_ret
    exact ⟨rfl, ((Below.refl _ _).alloc (Nat.le_refl _) _).trans (K.out.below (B := w.heap.size) (fun k hk => by rw [hk]; exact Nat.le_refl _) (by simp))⟩
end Go.Proofs.YthdkkpbhijlpaaaGreat
namespace Go.Proofs.YthdkkpbhijlpaaaGreat
open Go.ChangeShapes Go.WideShapes Go.ChangeAt Go.RowKit Go.Deep

def PlainIs (x : Nd) (kl : Nat) : Prop := NodeIs x ∧ (x.k ≠ 1 → kl = 0)
open Classical in
noncomputable def plainB (x : Nd) (kl : Nat) : Bool := decide (PlainIs x kl)
theorem plainB_iff (x : Nd) (kl : Nat) : plainB x kl = true ↔ PlainIs x kl := by simp [plainB]
theorem plainB_f {x : Nd} {kl : Nat} (h : ¬ PlainIs x kl) : false = plainB x kl := by
  cases e : plainB x kl with
  | false => rfl
  | true => exact absurd ((plainB_iff x kl).1 e) h
theorem plain_elem {x : Nd} {kl : Nat} (h : x.k = 1) (hn : namedB small tagB x.n = true) (h0 : 0 ≤ x.sp ∧ x.sp ≤ 2) (ht : x.t.size = 0) : alB x.al = plainB x kl := by
  rw [nodeB_elem h hn h0.1 h0.2 ht, Bool.eq_iff_iff, plainB_iff, show (nodeB x = true) = NodeIs x by simp [nodeB]]
  exact ⟨fun hx => ⟨hx, fun e => absurd h e⟩, fun hx => hx.1⟩
theorem plain_words {x : Nd} {kl : Nat} (h : x.k = 2 ∧ 0 < x.t.size ∨ x.k = 3) (hw : WordsIs x) : ((kl : Int) == 0) = plainB x kl := by
  rw [Bool.eq_iff_iff, plainB_iff]
  simp only [beq_iff_eq]
  constructor
  · intro e
    exact ⟨by rcases h with ⟨a, b⟩ | a; exact Or.inr (Or.inl ⟨a, b, hw⟩); exact Or.inr (Or.inr ⟨a, hw⟩), fun _ => by omega⟩
  · intro hx
    have : kl = 0 := hx.2 (by rcases h with ⟨a, _⟩ | a <;> omega)
    omega
theorem not_words {x : Nd} {kl : Nat} (h : x.k = 2 ∨ x.k = 3) (hw : ¬ (WordsIs x ∧ (x.k = 2 → 0 < x.t.size))) : ¬ PlainIs x kl := by
  rintro ⟨(⟨a, _⟩ | ⟨a, b, c⟩ | ⟨a, c⟩), _⟩
  · omega
  · exact hw ⟨c, fun _ => b⟩
  · exact hw ⟨c, fun e => by omega⟩
set_option maxHeartbeats 2000000 in
theorem l03Plain_any (k sp : Int) (n t : ByteArray) (al : List (ByteArray × ByteArray)) (kl : Nat) (w : World) (A K : Option Addr) (c kc b' o' lo hi : Nat)
    (z2 : n.size ≤ maxLen) (z3 : t.size ≤ maxLen) (hR : RowAt lo hi A al.length b' o') (hal : AsAt w b' o' al) (hk : kl ≤ maxLen) (hh : hi ≤ w.heap.size) :
    Calls Tryz.prog 149 #[.agg #[.int .i64 k, .int .i64 sp, .string n, .string t, .slice A al.length c, .slice K kl kc]] w fun e w' => e = .returned (.bool (plainB ⟨k, sp, n, t, al⟩ kl)) ∧ Below w.heap.size w w' := by
  have hl := hR.1
  have HR := Lib.hid hR
  have HA := Lib.hid hal
  have HZ := Lib.hid z2
  clear hR hal z2
  unfold maxLen at z3 hl
  have _hk := hk
  by_cases k1 : k = 1
  · subst k1
    by_cases hn : namedB small tagB n = true
    · have Hn := Lib.hid hn
      clear hn
      by_cases hs : (decide (0 ≤ sp) && decide (sp ≤ 2)) = true
      · have Hs := Lib.hid hs
        clear hs
        by_cases h3 : t.size = 0
        · have ht := is_nil (s := t) (by omega)
          have H3 := Lib.hid h3
          clear h3
          go_enter Tryz.func149, Tryz.ntmps149
          go_wp2_with (first | (go_at_call 163; refine (l01Tag_any n _ HZ.out).mono ?_; rintro e w' ⟨rfl, rfl⟩; rw [Hn.out]) | (go_at_call 186; refine (l01In_any _ _ _ _).mono ?_; rintro e w' ⟨rfl, rfl⟩; rw [Hs.out]) | (go_at_call 187; refine (l03Attrs_any al _ A c b' o' lo hi HR.out ?q1 ?q2).mono ?q3))
          case q1 => simp; omega
          case q2 => exact HA.out.but HR.out ((But.refl No w).alloc _) hh (fun _ h => h.elim)
          case q3 =>
            rintro e w' ⟨rfl, hB'⟩
            have KB := Lib.hid hB'
            clear hB'
            go_wp2
            go_ret
            exact ⟨ret_bool (plain_elem (x := ⟨1, sp, n, t, al⟩) rfl Hn.out (by simpa using Hs.out) H3.out), ((Below.refl _ _).alloc (Nat.le_refl _) _).trans (KB.out.mono (by simp))⟩
        · have ht := ne_nil (s := t) (by omega)
          have ht2 := ne_empty (s := t) (by omega)
          have H3 := Lib.hid h3
          clear h3
          go_enter Tryz.func149, Tryz.ntmps149
          go_wp2_with (first | (go_at_call 163; refine (l01Tag_any n _ HZ.out).mono ?_; rintro e w' ⟨rfl, rfl⟩; rw [Hn.out]) | (go_at_call 186; refine (l01In_any _ _ _ _).mono ?_; rintro e w' ⟨rfl, rfl⟩; rw [Hs.out]))
          go_ret
          exact ⟨ret_bool (plainB_f fun h => not_elem (x := ⟨1, sp, n, t, al⟩) rfl (fun h => H3.out h.2.2.2.1) h.1), by go_grown⟩
      · have Hs := Lib.hid (show (decide (0 ≤ sp) && decide (sp ≤ 2)) = false by simpa using hs)
        clear hs
        go_enter Tryz.func149, Tryz.ntmps149
        go_wp2_with (first | (go_at_call 163; refine (l01Tag_any n _ HZ.out).mono ?_; rintro e w' ⟨rfl, rfl⟩; rw [Hn.out]) | (go_at_call 186; refine (l01In_any _ _ _ _).mono ?_; rintro e w' ⟨rfl, rfl⟩; rw [Hs.out]))
        go_ret
        exact ⟨ret_bool (plainB_f fun h => not_elem (x := ⟨1, sp, n, t, al⟩) rfl (fun h => by have h1 := Hs.out; have h2 : 0 ≤ sp := h.2.1; have h3 : sp ≤ 2 := h.2.2.1; simp [h2, h3] at h1) h.1), by go_grown⟩
    · have Hn := Lib.hid (show namedB small tagB n = false by simpa using hn)
      clear hn
      go_enter Tryz.func149, Tryz.ntmps149
      go_wp2_with (go_at_call 163; refine (l01Tag_any n _ HZ.out).mono ?_; rintro e w' ⟨rfl, rfl⟩; rw [Hn.out])
      go_ret
      exact ⟨ret_bool (plainB_f fun h => not_elem (x := ⟨1, sp, n, t, al⟩) rfl (fun h => by have h1 := Hn.out; have h2 : namedB small tagB n = true := h.1; rw [h1] at h2; simp at h2) h.1), by go_grown⟩
  · have k1' : (k == 1) = false := by simpa using k1
    by_cases k2 : k = 2
    · subst k2
      clear k1 k1'
      by_cases h3 : n.size = 0
      · have hnn := is_nil (s := n) (by omega)
        have H3 := Lib.hid h3
        clear h3
        by_cases h2 : sp = 0
        · subst h2
          by_cases hs : (decide ((1 : Int) ≤ t.size) && decide ((t.size : Int) ≤ 120)) = true
          · have Hs := Lib.hid hs
            clear hs
            by_cases h4 : al.length = 0
            · have H4 := Lib.hid h4
              have h4' : ((al.length : Int) == 0) = true := by simp [h4]
              clear h4
              go_enter Tryz.func149, Tryz.ntmps149
              go_wp2_with (go_at_call 186; refine (l01In_any _ _ _ _).mono ?_; rintro e w' ⟨rfl, rfl⟩; rw [Hs.out])
              go_ret
              exact ⟨ret_bool (by have hs := Hs.out; simp at hs; exact plain_words (x := ⟨2, 0, n, t, al⟩) (Or.inl ⟨rfl, by show 0 < t.size; omega⟩) ⟨by show t.size ≤ 120; omega, rfl, H3.out, H4.out⟩), by go_grown⟩
            · have H4 := Lib.hid h4
              have h4' : ((al.length : Int) == 0) = false := by simp; intro e; simp [e] at h4
              clear h4
              go_enter Tryz.func149, Tryz.ntmps149
              go_wp2_with (go_at_call 186; refine (l01In_any _ _ _ _).mono ?_; rintro e w' ⟨rfl, rfl⟩; rw [Hs.out])
              go_ret
              exact ⟨ret_bool (plainB_f (not_words (x := ⟨2, 0, n, t, al⟩) (Or.inl rfl) fun h => H4.out h.1.2.2.2)), by go_grown⟩
          · have Hs := Lib.hid (show (decide ((1 : Int) ≤ t.size) && decide ((t.size : Int) ≤ 120)) = false by simpa using hs)
            clear hs
            go_enter Tryz.func149, Tryz.ntmps149
            go_wp2_with (go_at_call 186; refine (l01In_any _ _ _ _).mono ?_; rintro e w' ⟨rfl, rfl⟩; rw [Hs.out])
            go_ret
            exact ⟨ret_bool (plainB_f (not_words (x := ⟨2, 0, n, t, al⟩) (Or.inl rfl) fun h => by have h1 := Hs.out; have h2 : t.size ≤ 120 := h.1.1; have h3 : 0 < t.size := h.2 rfl; simp at h1; omega)), by go_grown⟩
        · have h2' : (sp == 0) = false := by simpa using h2
          have H2 := Lib.hid h2
          clear h2
          go_enter Tryz.func149, Tryz.ntmps149
          go_wp2
          go_ret
          exact ⟨ret_bool (plainB_f (not_words (x := ⟨2, sp, n, t, al⟩) (Or.inl rfl) fun h => H2.out h.1.2.1)), by go_grown⟩
      · have hnn := ne_nil (s := n) (by omega)
        have hnn2 := ne_empty (s := n) (by omega)
        have H3 := Lib.hid h3
        clear h3
        go_enter Tryz.func149, Tryz.ntmps149
        go_wp2
        go_ret
        exact ⟨ret_bool (plainB_f (not_words (x := ⟨2, sp, n, t, al⟩) (Or.inl rfl) fun h => H3.out h.1.2.2.1)), by go_grown⟩
    · have k2' : (k == 2) = false := by simpa using k2
      by_cases k3 : k = 3
      · subst k3
        clear k1 k2 k1' k2'
        by_cases h3 : n.size = 0
        · have hnn := is_nil (s := n) (by omega)
          have H3 := Lib.hid h3
          clear h3
          by_cases h2 : sp = 0
          · subst h2
            by_cases hs : t.size ≤ 120
            · by_cases h4 : al.length = 0
              · have H4 := Lib.hid h4
                have h4' : ((al.length : Int) == 0) = true := by simp [h4]
                clear h4
                go_enter Tryz.func149, Tryz.ntmps149
                go_wp2
                go_ret
                exact ⟨ret_bool (plain_words (x := ⟨3, 0, n, t, al⟩) (Or.inr rfl) ⟨hs, rfl, H3.out, H4.out⟩), by go_grown⟩
              · have H4 := Lib.hid h4
                have h4' : ((al.length : Int) == 0) = false := by simp; intro e; simp [e] at h4
                clear h4
                go_enter Tryz.func149, Tryz.ntmps149
                go_wp2
                go_ret
                exact ⟨ret_bool (plainB_f (not_words (x := ⟨3, 0, n, t, al⟩) (Or.inr rfl) fun h => H4.out h.1.2.2.2)), by go_grown⟩
            · have Hs := Lib.hid hs
              have hs' : decide ((t.size : Int) ≤ 120) = false := by simp; omega
              clear hs
              go_enter Tryz.func149, Tryz.ntmps149
              go_wp2
              go_ret
              exact ⟨ret_bool (plainB_f (not_words (x := ⟨3, 0, n, t, al⟩) (Or.inr rfl) fun h => Hs.out h.1.1)), by go_grown⟩
          · have h2' : (sp == 0) = false := by simpa using h2
            have H2 := Lib.hid h2
            clear h2
            go_enter Tryz.func149, Tryz.ntmps149
            go_wp2
            go_ret
            exact ⟨ret_bool (plainB_f (not_words (x := ⟨3, sp, n, t, al⟩) (Or.inr rfl) fun h => H2.out h.1.2.1)), by go_grown⟩
        · have hnn := ne_nil (s := n) (by omega)
          have hnn2 := ne_empty (s := n) (by omega)
          have H3 := Lib.hid h3
          clear h3
          go_enter Tryz.func149, Tryz.ntmps149
          go_wp2
          go_ret
          exact ⟨ret_bool (plainB_f (not_words (x := ⟨3, sp, n, t, al⟩) (Or.inr rfl) fun h => H3.out h.1.2.2.1)), by go_grown⟩
      · have k3' : (k == 3) = false := by simpa using k3
        have HK := Lib.hid (And.intro k1 (And.intro k2 k3))
        clear k1 k2 k3
        go_enter Tryz.func149, Tryz.ntmps149
        go_wp2
        go_ret
        exact ⟨ret_bool (plainB_f (by obtain ⟨a, b, d⟩ := HK.out; rintro ⟨(⟨e, _⟩ | ⟨e, _⟩ | ⟨e, _⟩), _⟩; exact a e; exact b e; exact d e)), by go_grown⟩
end Go.Proofs.YthdkkpbhijlpaaaGreat
namespace Go.Proofs.YthdkkpbhijlpaaaGreat
open Go.ChangeShapes Go.WideShapes Go.ChangeAt Go.RowKit Go.Deep

def HoldsIs (x : Nd) (kids : Fo) : Prop := x.k = 1 → x.sp = 0 → (inL voidL x.n = true → kids.len = 0) ∧ (inL voidL x.n = false → inL rawL x.n = true → kids.texts)
open Classical in
noncomputable def holdsB (x : Nd) (kids : Fo) : Bool := decide (HoldsIs x kids)
theorem holdsB_iff (x : Nd) (kids : Fo) : holdsB x kids = true ↔ HoldsIs x kids := by simp [holdsB]
theorem holdsB_t {x : Nd} {kids : Fo} (h : HoldsIs x kids) : true = holdsB x kids := ((holdsB_iff x kids).2 h).symm
theorem holdsB_f {x : Nd} {kids : Fo} (h : ¬ HoldsIs x kids) : false = holdsB x kids := by
  cases e : holdsB x kids with
  | false => rfl
  | true => exact absurd ((holdsB_iff x kids).1 e) h
set_option maxHeartbeats 2000000 in
theorem l03Holds_any (k sp : Int) (n t : ByteArray) (al : List (ByteArray × ByteArray)) (kids : Fo) (w : World) (A K : Option Addr) (c kc kb ko lo hi : Nat)
    (hK : RowAt lo hi K kids.len kb ko) (hk : FoAt w lo hi kb ko kids) (hh : hi ≤ w.heap.size) :
    Calls Tryz.prog 150 #[.agg #[.int .i64 k, .int .i64 sp, .string n, .string t, .slice A al.length c, .slice K kids.len kc]] w fun e w' => e = .returned (.bool (holdsB ⟨k, sp, n, t, al⟩ kids)) ∧ Below w.heap.size w w' := by
  have hlen := hK.1
  unfold maxLen at hlen
  have HK := Lib.hid hK
  have HS := Lib.hid hk
  clear hK hk
  by_cases k1 : k = 1
  · subst k1
    by_cases s0 : sp = 0
    · subst s0
      cases hv : inL voidL n with
      | true =>
        have HV := Lib.hid hv
        clear hv
        go_enter Tryz.func150, Tryz.ntmps150
        go_wp2_with (go_at_call 188; refine (l01Void_any n _).mono ?_; rintro e w1 ⟨rfl, hB1⟩; rw [HV.out]; have d2 := (hB1.cell (p := ⟨w.heap.size, 2, none⟩) (by simp)).trans (new_cell (j := 2) rfl); have d5 := (hB1.cell (p := ⟨w.heap.size, 5, none⟩) (by simp)).trans (new_cell (j := 5) rfl); have KB := Lib.hid hB1; clear hB1)
        go_ret
        exact ⟨ret_bool (by
          rw [Bool.eq_iff_iff, holdsB_iff]
          simp only [beq_iff_eq]
          exact ⟨fun e _ _ => ⟨fun _ => by omega, fun f => by have h1 := HV.out; rw [h1] at f; simp at f⟩, fun h => by have := (h rfl rfl).1 HV.out; omega⟩), ((Below.refl _ _).alloc (Nat.le_refl _) _).trans (KB.out.mono (by simp))⟩
      | false =>
        have HV := Lib.hid hv
        clear hv
        cases hw : inL rawL n with
        | true =>
          have HW := Lib.hid hw
          clear hw
          go_enter Tryz.func150, Tryz.ntmps150
          go_wp2_with (go_at_call 188; refine (l01Void_any n _).mono ?_; rintro e w1 ⟨rfl, hB1⟩; rw [HV.out]; have d2 := (hB1.cell (p := ⟨w.heap.size, 2, none⟩) (by simp)).trans (new_cell (j := 2) rfl); have d5 := (hB1.cell (p := ⟨w.heap.size, 5, none⟩) (by simp)).trans (new_cell (j := 5) rfl); have KB := Lib.hid hB1; clear hB1)
          go_loopw [3] (fun i wr => ∃ (k : Nat) (suf : Fo), i = .int .i64 (k : Int) ∧ k + suf.len = kids.len ∧ Hid (FoAt w lo hi kb (ko + k * 6) suf ∧ Below (w.heap.size + 1) (w.alloc (.cells #[.int .i64 1, .int .i64 0, .string n, .string t, .slice A al.length c, .slice K kids.len kc] 71)) wr ∧ (kids.texts ↔ suf.texts))) (fun i wr => kids.len - (intOf i).toNat)
          case atStart => exact ⟨0, kids, rfl, by omega, Lib.hid ⟨by simpa using HS.out, KB.out.mono (by simp), Iff.rfl⟩⟩
          case round =>
            obtain ⟨k, suf, rfl, hk, HH⟩ := hrel
            cases suf with
            | nil =>
              have hkl : k = kids.len := by simpa [Fo.len] using hk
              clear hk
              subst hkl
              obtain ⟨_, hB, hT⟩ := HH.out
              have d5 := (hB.cell (p := ⟨w.heap.size, 5, none⟩) (by show w.heap.size < w.heap.size + 1; omega)).trans (new_cell (j := 5) rfl)
              have HB := Lib.hid hB
              clear hB
              go_wp2
              go_ret
              exact ⟨ret_bool (holdsB_t fun _ _ => ⟨fun v => by have h1 := HV.out; rw [h1] at v; simp at v, fun _ r => hT.2 trivial⟩), ((Below.refl _ _).alloc (Nat.le_refl _) _).trans (HB.out.mono (by omega))⟩
            | cons xk xs xn xt xa xkids r =>
              obtain ⟨⟨⟨s0, _⟩, _, _, sr⟩, hB, hT⟩ := HH.out
              obtain ⟨rfl, hlo, hhi⟩ := HK.out.2 (by simp [Fo.len] at hk; omega)
              have hlt : k < kids.len := by simp [Fo.len] at hk; omega
              have d5 := (hB.cell (p := ⟨w.heap.size, 5, none⟩) (by show w.heap.size < w.heap.size + 1; omega)).trans (new_cell (j := 5) rfl)
              have d2 := (hB.cell (p := ⟨w.heap.size, 2, none⟩) (by show w.heap.size < w.heap.size + 1; omega)).trans (new_cell (j := 2) rfl)
              have t0 := ((hB.cell (p := ⟨kb, ko + k * 6, none⟩) (by show kb < w.heap.size + 1; omega)).trans (((Below.refl _ w).alloc (Nat.le_refl _) _).cell (p := ⟨kb, ko + k * 6, none⟩) (by show kb < w.heap.size; omega))).trans s0
              have HSZ := Lib.hid (And.intro (show w.heap.size < wr.heap.size by have := hB.size; simp at this; omega) (show kb < wr.heap.size by have := hB.size; simp at this; omega))
              have HB := Lib.hid hB
              have HS2 := Lib.hid (And.intro sr hT)
              clear HH hB hT s0 sr
              by_cases h2 : xk = 2
              · have HX := Lib.hid h2
                subst h2
                go_wp2_with (go_at_call 155; refine (l01Raw_any n _).mono ?_; rintro e w2 ⟨rfl, hB2⟩; rw [HW.out]; have d5' := (hB2.cell (p := ⟨w.heap.size, 5, none⟩) HSZ.out.1).trans d5; have t0' := (hB2.cell (p := ⟨kb, ko + k * 6, none⟩) HSZ.out.2).trans t0; have KB2 := Lib.hid hB2; clear hB2)
                go_roundw
                case rel => exact ⟨k + 1, r, by go_num, by simp [Fo.len] at hk; omega, Lib.hid ⟨by rw [show ko + (k + 1) * 6 = ko + k * 6 + 6 by omega]; exact HS2.out.1, HB.out.trans (KB2.out.mono HSZ.out.1), HS2.out.2.trans ⟨fun a => a.2, fun a => ⟨rfl, a⟩⟩⟩⟩
                case measure => simp [intOf]; omega
              · have h2' : (xk != 2) = true := by simpa using h2
                have HX := Lib.hid h2
                clear h2
                go_wp2_with (go_at_call 155; refine (l01Raw_any n _).mono ?_; rintro e w2 ⟨rfl, hB2⟩; rw [HW.out]; have d5' := (hB2.cell (p := ⟨w.heap.size, 5, none⟩) HSZ.out.1).trans d5; have t0' := (hB2.cell (p := ⟨kb, ko + k * 6, none⟩) HSZ.out.2).trans t0; have KB2 := Lib.hid hB2; clear hB2)
                go_ret
                exact ⟨ret_bool (holdsB_f fun h => HX.out (HS2.out.2.1 ((h rfl rfl).2 HV.out HW.out)).1), ((Below.refl _ _).alloc (Nat.le_refl _) _).trans ((HB.out.trans (KB2.out.mono HSZ.out.1)).mono (by omega))⟩
        | false =>
          have HW := Lib.hid hw
          clear hw
          go_enter Tryz.func150, Tryz.ntmps150
          go_wp2_with (go_at_call 188; refine (l01Void_any n _).mono ?_; rintro e w1 ⟨rfl, hB1⟩; rw [HV.out]; have d2 := (hB1.cell (p := ⟨w.heap.size, 2, none⟩) (by simp)).trans (new_cell (j := 2) rfl); have d5 := (hB1.cell (p := ⟨w.heap.size, 5, none⟩) (by simp)).trans (new_cell (j := 5) rfl); have KB := Lib.hid hB1; clear hB1)
          go_loopw [3] (fun i wr => ∃ (k : Nat) (suf : Fo), i = .int .i64 (k : Int) ∧ k + suf.len = kids.len ∧ Hid (FoAt w lo hi kb (ko + k * 6) suf ∧ Below (w.heap.size + 1) (w.alloc (.cells #[.int .i64 1, .int .i64 0, .string n, .string t, .slice A al.length c, .slice K kids.len kc] 71)) wr ∧ True)) (fun i wr => kids.len - (intOf i).toNat)
          case atStart => exact ⟨0, kids, rfl, by omega, Lib.hid ⟨by simpa using HS.out, KB.out.mono (by simp), trivial⟩⟩
          case round =>
            obtain ⟨k, suf, rfl, hk, HH⟩ := hrel
            cases suf with
            | nil =>
              have hkl : k = kids.len := by simpa [Fo.len] using hk
              clear hk
              subst hkl
              obtain ⟨_, hB, hT⟩ := HH.out
              have d5 := (hB.cell (p := ⟨w.heap.size, 5, none⟩) (by show w.heap.size < w.heap.size + 1; omega)).trans (new_cell (j := 5) rfl)
              have HB := Lib.hid hB
              clear hB
              go_wp2
              go_ret
              exact ⟨ret_bool (holdsB_t fun _ _ => ⟨fun v => by have h1 := HV.out; rw [h1] at v; simp at v, fun _ r => by have h1 := HW.out; rw [h1] at r; simp at r⟩), ((Below.refl _ _).alloc (Nat.le_refl _) _).trans (HB.out.mono (by omega))⟩
            | cons xk xs xn xt xa xkids r =>
              obtain ⟨⟨⟨s0, _⟩, _, _, sr⟩, hB, hT⟩ := HH.out
              obtain ⟨rfl, hlo, hhi⟩ := HK.out.2 (by simp [Fo.len] at hk; omega)
              have hlt : k < kids.len := by simp [Fo.len] at hk; omega
              have d5 := (hB.cell (p := ⟨w.heap.size, 5, none⟩) (by show w.heap.size < w.heap.size + 1; omega)).trans (new_cell (j := 5) rfl)
              have d2 := (hB.cell (p := ⟨w.heap.size, 2, none⟩) (by show w.heap.size < w.heap.size + 1; omega)).trans (new_cell (j := 2) rfl)
              have t0 := ((hB.cell (p := ⟨kb, ko + k * 6, none⟩) (by show kb < w.heap.size + 1; omega)).trans (((Below.refl _ w).alloc (Nat.le_refl _) _).cell (p := ⟨kb, ko + k * 6, none⟩) (by show kb < w.heap.size; omega))).trans s0
              have HSZ := Lib.hid (And.intro (show w.heap.size < wr.heap.size by have := hB.size; simp at this; omega) (show kb < wr.heap.size by have := hB.size; simp at this; omega))
              have HB := Lib.hid hB
              have HS2 := Lib.hid (And.intro sr hT)
              clear HH hB hT s0 sr
              go_wp2_with (go_at_call 155; refine (l01Raw_any n _).mono ?_; rintro e w2 ⟨rfl, hB2⟩; rw [HW.out]; have d5' := (hB2.cell (p := ⟨w.heap.size, 5, none⟩) HSZ.out.1).trans d5; have t0' := (hB2.cell (p := ⟨kb, ko + k * 6, none⟩) HSZ.out.2).trans t0; have KB2 := Lib.hid hB2; clear hB2)
              go_roundw
              case rel => exact ⟨k + 1, r, by go_num, by simp [Fo.len] at hk; omega, Lib.hid ⟨by rw [show ko + (k + 1) * 6 = ko + k * 6 + 6 by omega]; exact HS2.out.1, HB.out.trans (KB2.out.mono HSZ.out.1), trivial⟩⟩
              case measure => simp [intOf]; omega
    · have s0' : (sp != 0) = true := by simpa using s0
      have HX := Lib.hid s0
      clear s0
      go_enter Tryz.func150, Tryz.ntmps150
      go_wp2
      go_ret
      exact ⟨ret_bool (holdsB_t fun _ e => absurd e HX.out), by go_grown⟩
  · have k1' : (k != 1) = true := by simpa using k1
    have HX := Lib.hid k1
    clear k1
    go_enter Tryz.func150, Tryz.ntmps150
    go_wp2
    go_ret
    exact ⟨ret_bool (holdsB_t fun e => absurd e HX.out), by go_grown⟩
end Go.Proofs.YthdkkpbhijlpaaaGreat
