import Derived.Test.YtocpmkpffhmlaaaSer5
namespace Go.Proofs.Ytocpmkpffhmlaaa
open Go.ChangeShapes Go.WideShapes Go.ChangeAt Go.RowKit Go.Deep

/-- each node is of one of the three kinds -/
def Fo.ks : Fo → Prop
  | .nil => True
  | .cons k _ _ _ _ kids rest => (k = 1 ∨ k = 2 ∨ k = 3) ∧ kids.ks ∧ rest.ks
theorem Fo.ks_of : ∀ (F : Fo), SFine F → F.ks
  | .nil, _ => trivial
  | .cons k sp n t al kids rest, ⟨h1, _, h3, h4⟩ => by
    refine ⟨?_, Fo.ks_of kids h3, Fo.ks_of rest h4⟩
    rcases h1 with ⟨h, _⟩ | ⟨h, _⟩ | ⟨h, _⟩
    · exact Or.inl h
    · exact Or.inr (Or.inl h)
    · exact Or.inr (Or.inr h)
theorem sfine_of {F : Fo} (h : faultOf F = 0) : SFine F := by
  have hg : goodB F = true := by
    cases e : goodB F with
    | true => rfl
    | false =>
      by_cases hl : F.len ≤ 4096
      · rw [fault_bad hl e] at h; exact absurd h (by decide)
      · rw [fault_long hl] at h; exact absurd h (by decide)
  have : Good F := by simpa [goodB] using hg
  exact ((good_at F).1 this).2.2

/-- an element's text -/
def elemText (sp : Int) (n : ByteArray) (al : List (ByteArray × ByteArray)) (kids : Fo) : List UInt8 := tagText n al ++ (if hasEnd sp n = true then kids.ser (asIs sp n) ++ endText n else [])
def WriteOK (F : Fo) : Prop := ∀ (content : Int) (bb : Nat) (l : List UInt8) (w : World) (A : Option Addr) (c b o lo hi : Nat), F.nodes ≤ 1048576 → F.sm → F.ks → l.length + 8 * (F.len + F.size) ≤ 1048576 * 1024 → BldF bb bb (Lib.byteCells l) w → hi ≤ bb → bb < w.heap.size → RowAt lo hi A F.len b o → FoAt w lo hi b o F →
    Calls Try.prog 24 #[.pointer (some ⟨bb, 0, none⟩), .slice A F.len c, .int .i64 content] w (Wrote bb (l ++ F.ser (content == 1)) w)

set_option maxHeartbeats 2000000 in
theorem writeElement_any (k sp : Int) (n t : ByteArray) (al : List (ByteArray × ByteArray)) (kids : Fo) (ih : WriteOK kids) (bb : Nat) (l : List UInt8) (b o lo hi : Nat) (w : World) (A K : Option Addr) (c kc ao ab kb ko : Nat)
    (hs : w.cell? ⟨b, o, none⟩ = some (.int .i64 k) ∧ w.cell? ⟨b, o + 1, none⟩ = some (.int .i64 sp) ∧ w.cell? ⟨b, o + 2, none⟩ = some (.string n) ∧ w.cell? ⟨b, o + 3, none⟩ = some (.string t) ∧ n.size ≤ maxLen ∧ t.size ≤ maxLen)
    (c4 : w.cell? ⟨b, o + 4, none⟩ = some (.slice A al.length c)) (hR : RowC lo hi A al.length c ab ao) (ha : AsAt w ab ao al)
    (c5 : w.cell? ⟨b, o + 5, none⟩ = some (.slice K kids.len kc)) (hK : RowAt lo hi K kids.len kb ko) (hk : FoAt w lo hi kb ko kids)
    (hnd : kids.nodes ≤ 1048576) (hsm : kids.sm) (hks : kids.ks) (hal : AlSm al) (hz : l.length + 8 * (1 + n.size + (al.length + asSize al) + (kids.len + kids.size)) ≤ 1048576 * 1024)
    (hI : BldF bb bb (Lib.byteCells l) w) (hb : b < bb) (hh : hi ≤ bb) (hbw : bb < w.heap.size) :
    Calls Try.prog 38 #[.pointer (some ⟨bb, 0, none⟩), .agg #[.pointer (some ⟨b, o, none⟩)]] w (Wrote bb (l ++ elemText sp n al kids) w) := by
  have HX : Hid (NdAt w lo hi b o ⟨k, sp, n, t, al⟩) := Lib.hid ⟨hs, A, c, ab, ao, c4, hR, ha⟩
  have HK := Lib.hid hK
  have HF := Lib.hid hk
  have HI := Lib.hid hI
  have IH := Lib.hid ih
  have HS := Lib.hid (And.intro hsm (And.intro hks hal))
  have c2 := hs.2.2.1
  have hbs : b < w.heap.size := by omega
  have hnl := baLen n
  have htl := tagText_len n al
  have hsl := ser_len (asIs sp n) kids
  have HLN := Lib.hid (And.intro hnl (And.intro htl hsl))
  clear hK hk hI ih hsm hks hs c4 ha hR hnl htl hsl hal
  have W1 : Hid (∀ W, BldF bb bb (Lib.byteCells l) W → bb < W.heap.size → Below bb w W → Calls Try.prog 50 #[.pointer (some ⟨bb, 0, none⟩), .agg #[.pointer (some ⟨b, o, none⟩)]] W (Wrote bb (l ++ tagText n al) W)) := Lib.hid fun W h1 h2 h3 =>
    writeStartTag_any ⟨k, sp, n, t, al⟩ bb l b o lo hi W h1 (HX.out.belowB hb h3 hh) hb hh h2 HS.out.2.2 (by simp only; omega)
  have W2 : Hid (∀ W, Below bb w W → Calls Try.prog 51 #[.pointer (some ⟨b, o, none⟩)] W fun e w' => e = .returned (.int .i64 (contI ⟨k, sp, n, t, al⟩)) ∧ W = w') := Lib.hid fun W h3 => contentOf_any ⟨k, sp, n, t, al⟩ b o lo hi W (HX.out.belowB hb h3 hh)
  cases hv : voidB ⟨k, sp, n, t, al⟩ with
  | true =>
    have HC := Lib.hid (show contI ⟨k, sp, n, t, al⟩ = 2 by simp [contI, hv])
    have HE := Lib.hid (show elemText sp n al kids = tagText n al by
      have : hasEnd sp n = false := by simpa [voidB, hasEnd] using hv
      simp [elemText, this])
    clear hv c5
    go_enter Try.func38, Try.ntmps38
    go_wp2_with (first
      | (go_at_call 50; refine (W1.out (w.alloc (.cells #[.pointer (some ⟨b, o, none⟩)] 77)) (Lib.IsBuilderF.alloc HI.out _) (by simp; omega) ((Below.refl bb w).alloc (by omega) _)).mono ?_; rintro e w1 ⟨rfl, hI1, hB1, hK1⟩; have hbx : w1.heap[w.heap.size]? = some (.cells #[.pointer (some ⟨b, o, none⟩)] 77 (0, 0)) := kept_lay hK1 (heap_new w _ _) (by omega) (by decide); have I1 : Hid (BldF bb bb (Lib.byteCells (l ++ tagText n al)) w1 ∧ Below bb w w1 ∧ Kept bb w w1) := Lib.hid ⟨hI1, ((Below.refl bb w).alloc (by omega) _).trans hB1, ((Lib.OthersKept.refl _ _ w).alloc _).trans hK1⟩; clear hI1 hB1 hK1; have p0 : w1.cell? ⟨w.heap.size, 0, none⟩ = some (.pointer (some ⟨b, o, none⟩)) := cell_heap hbx; clear hbx)
      | (go_at_call 51; refine (W2.out _ I1.out.2.1).mono ?_; rintro e w' ⟨rfl, rfl⟩; rw [HC.out]))
    go_end0
    exact ⟨rfl, by rw [HE.out]; exact I1.out.1, I1.out.2⟩
  | false =>
    have HE := Lib.hid (show elemText sp n al kids = tagText n al ++ (kids.ser (asIs sp n) ++ endText n) by
      have : hasEnd sp n = true := by
        cases h : hasEnd sp n with
        | true => rfl
        | false => simp only [hasEnd, Bool.not_eq_false', Bool.and_eq_true] at h; simp [voidB, h.1, h.2] at hv
      simp [elemText, this])
    have HC : Hid ((contI ⟨k, sp, n, t, al⟩ == 2) = false ∧ (contI ⟨k, sp, n, t, al⟩ == 1) = asIs sp n) := Lib.hid (by
      unfold contI
      rw [hv]
      cases hr : rawB ⟨k, sp, n, t, al⟩ with
      | true => have : asIs sp n = true := hr
                rw [this]; decide
      | false => have : asIs sp n = false := hr
                 rw [this]; decide)
    clear hv
    generalize contI ⟨k, sp, n, t, al⟩ = q at *
    have hq := HC.out.1
    have hsz : w.heap.size < (w.alloc (.cells #[.pointer (some ⟨b, o, none⟩)] 77)).heap.size := by simp
    go_enter Try.func38, Try.ntmps38
    go_wp2_with (first
      | (go_at_call 50; refine (W1.out (w.alloc (.cells #[.pointer (some ⟨b, o, none⟩)] 77)) (Lib.IsBuilderF.alloc HI.out _) (by simp; omega) ((Below.refl bb w).alloc (by omega) _)).mono ?_; rintro e w1 ⟨rfl, hI1, hB1, hK1⟩; have hbx : w1.heap[w.heap.size]? = some (.cells #[.pointer (some ⟨b, o, none⟩)] 77 (0, 0)) := kept_lay hK1 (heap_new w _ _) (by omega) (by decide); have I1 : Hid (BldF bb bb (Lib.byteCells (l ++ tagText n al)) w1 ∧ Below bb w w1 ∧ Kept bb w w1) := Lib.hid ⟨hI1, ((Below.refl bb w).alloc (by omega) _).trans hB1, ((Lib.OthersKept.refl _ _ w).alloc _).trans hK1⟩; have hs1 : w.heap.size < w1.heap.size := Nat.lt_of_lt_of_le hsz hB1.size; clear hI1 hB1 hK1; have p0 : w1.cell? ⟨w.heap.size, 0, none⟩ = some (.pointer (some ⟨b, o, none⟩)) := cell_heap hbx; have p5 := (I1.out.2.1.cell (p := ⟨b, o + 5, none⟩) hb).trans c5; have HX1 := Lib.hid hbx; clear hbx)
      | (go_at_call 51; refine (W2.out _ I1.out.2.1).mono ?_; rintro e w' ⟨rfl, rfl⟩)
      | (go_at_call 24; refine (IH.out q bb _ _ K kc kb ko lo hi hnd HS.out.1 HS.out.2.1 (by have := HLN.out; simp only [List.length_append]; omega) I1.out.1 hh (by omega) HK.out (FoAt.below HK.out HF.out I1.out.2.1 hh)).mono ?_; rw [HC.out.2]; rintro e w2 ⟨rfl, hI2, hB2, hK2⟩; have hbx2 := kept_lay hK2 HX1.out (by omega) (by decide); have I2 : Hid (BldF bb bb (Lib.byteCells ((l ++ tagText n al) ++ kids.ser (asIs sp n))) w2 ∧ Below bb w w2 ∧ Kept bb w w2) := Lib.hid ⟨hI2, I1.out.2.1.trans hB2, I1.out.2.2.trans hK2⟩; have hs2 : w.heap.size < w2.heap.size := Nat.lt_of_lt_of_le hs1 hB2.size; clear hI2 hB2 hK2; have q0 : w2.cell? ⟨w.heap.size, 0, none⟩ = some (.pointer (some ⟨b, o, none⟩)) := cell_heap hbx2; have q2 := (I2.out.2.1.cell (p := ⟨b, o + 2, none⟩) hb).trans c2; clear hbx2)
      | (go_at_call 39; refine (writeNew_any bb ((l ++ tagText n al) ++ kids.ser (asIs sp n)) [⟨#[60, 47]⟩, n, ⟨#[62]⟩] w2 I2.out.1 (by simp) (by have := HLN.out; simp [flat]; omega) (by omega)).mono ?_; rintro e w3 ⟨rfl, hI3, hB3, hK3⟩; have I3 := Lib.hid (And.intro hI3 (And.intro (I2.out.2.1.trans hB3) (I2.out.2.2.trans hK3))); clear hI3 hB3 hK3))
    go_end0
    refine ⟨rfl, ?_, I3.out.2⟩
    have h3 := I3.out.1
    rw [HE.out]
    rw [show l ++ (tagText n al ++ (kids.ser (asIs sp n) ++ endText n)) = ((l ++ tagText n al) ++ kids.ser (asIs sp n)) ++ flat [⟨#[60, 47]⟩, n, ⟨#[62]⟩] by simp [flat, endText]]
    exact h3
end Go.Proofs.Ytocpmkpffhmlaaa
