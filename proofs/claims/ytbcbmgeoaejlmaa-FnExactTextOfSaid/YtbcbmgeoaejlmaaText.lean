
import Derived.Test.YtbcbmgeoaejlmaaCount
import Derived.Test.YtbcbmgeoaejlmaaBuild
namespace Go.Proofs.Ytbcbmgeoaejlmaa
open Go.ChangeShapes Go.WideShapes Go.ChangeAt Go.RowKit Go.Deep

theorem But.grownBy {w w' : World} (h : But No w w') : w.grownBy w' Option.none := ⟨h.os, h.tape, h.output, h.size, fun k hk _ => h.block k hk id⟩
theorem BldF.keep {B b : Nat} {bs : List Value} {w w' : World} (h : BldF B b bs w) (hB : But No w w') : BldF B b bs w' := by
  have one : ∀ p, Lib.BuilderAtF 123 5 B b p bs w → Lib.BuilderAtF 123 5 B b p bs w' := by
    intro p hp
    have hlt := hp.lt
    obtain ⟨h1, v, h2, h3, h4⟩ := hp
    exact ⟨h1, v, (hB.block b hlt id).trans h2, h3.kept hB.grownBy (Classical.em _), h4⟩
  exact h.imp (one _) (one _)
theorem BldF.lt {B b : Nat} {bs : List Value} {w : World} (h : BldF B b bs w) : b < w.heap.size := h.elim (fun x => x.lt) (fun x => x.lt)

/-- a row of bytes -/
def Bytes8 (w : World) (k : Nat) : Prop := ∃ c fz, w.heap[k]? = some (.cells c 5 fz)
/-- the builder in block bb, which holds l; C: the blocks that it may write -/
def TextAt (bb hi : Nat) (l : List UInt8) (C : Nat → Prop) (w : World) : Prop :=
  hi ≤ bb ∧ BldF bb bb (Lib.byteCells l) w ∧ ∀ k, C k ↔ k = bb ∨ (bb < k ∧ Bytes8 w k)
theorem Bytes8.lt {w : World} {k : Nat} (h : Bytes8 w k) : k < w.heap.size := by
  obtain ⟨c, fz, h⟩ := h
  exact (Array.getElem?_eq_some_iff.1 h).1
theorem TextAt.keep {bb hi : Nat} {l : List UInt8} {C : Nat → Prop} {w w' : World} (h : TextAt bb hi l C w) (hK : Kin w w') : TextAt bb hi l C w' := by
  obtain ⟨h1, h2, h3⟩ := h
  refine ⟨h1, h2.keep hK.but, fun k => (h3 k).trans ?_⟩
  have : bb < k → (Bytes8 w k ↔ Bytes8 w' k) := fun hk => by
    constructor
    · intro hb
      obtain ⟨c, fz, e⟩ := hb
      exact ⟨c, fz, (hK.but.block k (Bytes8.lt ⟨c, fz, e⟩) id).trans e⟩
    · rintro ⟨c, fz, e⟩
      by_cases hlt : k < w.heap.size
      · exact ⟨c, fz, (hK.but.block k hlt id).symm.trans e⟩
      · exact absurd e fun e => hK.new k c fz (by omega) e
  constructor
  · rintro (e | ⟨a, b⟩)
    · exact Or.inl e
    · exact Or.inr ⟨a, (this a).1 b⟩
  · rintro (e | ⟨a, b⟩)
    · exact Or.inl e
    · exact Or.inr ⟨a, (this a).2 b⟩
theorem TextAt.own {bb hi : Nat} {l : List UInt8} {C : Nat → Prop} {w : World} (h : TextAt bb hi l C w) (k : Nat) (hk : C k) : hi ≤ k ∧ k < w.heap.size := by
  rcases (h.2.2 k).1 hk with rfl | ⟨a, b⟩
  · exact ⟨h.1, h.2.1.lt⟩
  · exact ⟨by have := h.1; omega, b.lt⟩
/-- behind a write -/
theorem TextAt.wrote {bb hi : Nat} {l l' : List UInt8} {C : Nat → Prop} {w w' : World} (h : TextAt bb hi l C w) (h1 : BldF bb bb (Lib.byteCells l') w') (hB : Below bb w w') (hK : Kept bb w w') :
    ∃ D, TextAt bb hi l' D w' ∧ But C w w' ∧ ∀ k, D k → C k ∨ w.heap.size ≤ k := by
  have hnot : ∀ k, k < w.heap.size → bb < k → ¬ Bytes8 w k → w'.heap[k]? = w.heap[k]? := fun k hk hb hn => by
    obtain ⟨o, ho⟩ : ∃ o, w.heap[k]? = some o := ⟨_, Array.getElem?_eq_getElem hk⟩
    rw [ho]
    exact hK k o ho (by intro e; injection e; omega) (fun c fz e => hn ⟨c, fz, by rw [ho, e]⟩)
  refine ⟨fun k => k = bb ∨ (bb < k ∧ Bytes8 w' k), ⟨h.1, h1, fun _ => Iff.rfl⟩, ⟨hB.os, hB.tape, hB.output, hB.size, fun k hk hC => ?_⟩, fun k hk => ?_⟩
  · rcases Nat.lt_trichotomy k bb with hlt | rfl | hgt
    · exact hB.block k hlt
    · exact absurd ((h.2.2 k).2 (Or.inl rfl)) hC
    · exact hnot k hk hgt fun hb => hC ((h.2.2 k).2 (Or.inr ⟨hgt, hb⟩))
  · rcases hk with rfl | ⟨a, b⟩
    · exact Or.inl ((h.2.2 k).2 (Or.inl rfl))
    · by_cases hlt : k < w.heap.size
      · by_cases hb : Bytes8 w k
        · exact Or.inl ((h.2.2 k).2 (Or.inr ⟨a, hb⟩))
        · obtain ⟨c, fz, e⟩ := b
          exact absurd ⟨c, fz, (hnot k hlt a hb).symm.trans e⟩ hb
      · exact Or.inr (by omega)

/-- all texts of a forest -/
def stText (l : List UInt8) : List Nd → List UInt8
  | [] => l
  | x :: _ => if x.k = 2 then l ++ x.t.data.toList else l
def okText (l : List UInt8) : List Nd → Prop
  | [] => True
  | x :: _ => l.length + x.t.size ≤ 140737488355328
def Fo.words : Fo → List UInt8
  | .nil => []
  | .cons k _ _ t _ kids rest => (if k = 2 then t.data.toList else []) ++ kids.words ++ rest.words
theorem trav_text : ∀ (F : Fo) (ch : List Nd) (l : List UInt8), travU stText F ch l = l ++ F.words
  | .nil, _, l => by simp [travU, Fo.words]
  | .cons k sp n t al kids rest, ch, l => by
    rw [travU, trav_text kids, trav_text rest, Fo.words]
    simp only [stText]
    split <;> simp
theorem Fo.words_le : ∀ F : Fo, F.words.length ≤ F.size
  | .nil => Nat.le_refl _
  | .cons k _ _ t _ kids rest => by
    have h1 := Fo.words_le kids
    have h2 := Fo.words_le rest
    have h3 : t.data.toList.length = t.size := Array.length_toList
    simp only [Fo.words, Fo.size, List.length_append]
    split
    · omega
    · simp; omega
theorem ok_text : ∀ (F : Fo) (ch : List Nd) (l : List UInt8), l.length + F.size ≤ 1048576 * 64 → travPU okText stText F ch l
  | .nil, _, _, _ => trivial
  | .cons k sp n t al kids rest, ch, l, h => by
    have h3 : t.data.toList.length = t.size := Array.length_toList
    simp only [Fo.size] at h
    have e : (stText l (⟨k, sp, n, t, al⟩ :: ch)).length ≤ l.length + t.size := by
      simp only [stText]; split
      · rw [List.length_append]; omega
      · omega
    refine ⟨by show l.length + t.size ≤ _; omega, ok_text kids _ _ (by omega), ok_text rest _ _ ?_⟩
    rw [trav_text, List.length_append]
    have := Fo.words_le kids
    omega

theorem text1_any (bb lo hi : Nat) (l : List UInt8) (C : Nat → Prop) (w : World) (q : Option Addr) (x : Nd) (ch : List Nd) (ho : okText l (x :: ch)) (hI : TextAt bb hi l C w) (hS : SpotAt w C lo hi q (x :: ch)) :
    Calls Try.prog 109 #[.pointer q, .pointer (some ⟨bb, 0, none⟩)] w (SeenU stText (TextAt bb hi) l C (x :: ch) w) := by
  obtain ⟨g, b, o, q', rfl, h2, h3, h4, h5, h6, h7, h8, h9⟩ := hS
  obtain ⟨⟨c0, c1, c2, c3, z2, z3⟩, _⟩ := h8
  have HI := Lib.hid hI
  have HO := Lib.hid ho
  clear hI c1 c2 h9 h6 z2 z3 ho h2 h7
  obtain ⟨xk, xs, xn, xt, xa⟩ := x
  simp only at c0 c3
  by_cases hk : xk = 2
  · subst hk
    have HK := Lib.hid (show stText l (⟨2, xs, xn, xt, xa⟩ :: ch) = l ++ xt.data.toList by simp [stText])
    go_enter Try.func109, Try.ntmps109
    go_wp2_with (go_at_call 110; refine (writeBytes_any bb bb l xt _ HI.out.2.1 HO.out (Nat.le_of_lt HI.out.2.1.lt)).mono ?_; rintro e w1 ⟨rfl, h1, hB, hK⟩; have W := Lib.hid (And.intro h1 (And.intro hB hK)); clear h1 hB hK)
    go_end0
    obtain ⟨D, d1, d2, d3⟩ := HI.out.wrote W.out.1 W.out.2.1 W.out.2.2
    exact ⟨D, rfl, by rw [HK.out]; exact d1, d2, d3⟩
  · have hk' : (xk == 2) = false := by simpa using hk
    have HK := Lib.hid (show stText l (⟨xk, xs, xn, xt, xa⟩ :: ch) = l from if_neg hk)
    clear hk
    go_enter Try.func109, Try.ntmps109
    go_wp2
    go_end0
    exact ⟨C, rfl, by rw [HK.out]; exact HI.out, But.refl _ _, fun _ h => Or.inl h⟩
theorem visText (bb lo hi : Nat) : VisU Try.prog 109 #[.pointer (some ⟨bb, 0, none⟩)] lo hi okText stText (TextAt bb hi) where
  own := fun _ _ _ h k hk => h.own k hk
  keep := fun _ _ _ _ h hK => h.keep hK
  call := fun l C w q ch hne _ ho hI hS _ => by
    cases ch with
    | nil => exact absurd rfl hne
    | cons x r => exact text1_any bb lo hi l C w q x r ho hI hS
end Go.Proofs.Ytbcbmgeoaejlmaa
