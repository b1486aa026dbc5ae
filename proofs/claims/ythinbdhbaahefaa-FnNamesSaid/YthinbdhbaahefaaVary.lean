import Derived.Test.YthinbdhbaahefaaNamed
namespace Go.Proofs.Ythinbdhbaahefaa
open Go.ChangeShapes Go.WideShapes Go.ChangeAt Go.RowKit

/-- a byte, or its great letter -/
def Vary (c d : UInt8) : Prop := c = d ∨ (97 ≤ d.toNat ∧ d.toNat ≤ 122 ∧ c.toNat + 32 = d.toNat)
def VaryL : List UInt8 → List UInt8 → Prop
  | [], [] => True
  | c :: l, d :: m => Vary c d ∧ VaryL l m
  | _, _ => False
theorem VaryL.snoc : ∀ {l m : List UInt8} {c d : UInt8}, VaryL l m → Vary c d → VaryL (l ++ [c]) (m ++ [d])
  | [], [], _, _, _, h => ⟨h, trivial⟩
  | _ :: _, _ :: _, _, _, h, k => ⟨h.1, VaryL.snoc h.2 k⟩
  | [], _ :: _, _, _, h, _ => h.elim
  | _ :: _, [], _, _, h, _ => h.elim
theorem VaryL.len : ∀ {l m : List UInt8}, VaryL l m → l.length = m.length
  | [], [], _ => rfl
  | _ :: _, _ :: _, h => by simp only [List.length_cons]; rw [VaryL.len h.2]
  | [], _ :: _, h => h.elim
  | _ :: _, [], h => h.elim
def noGreat (m : List UInt8) : Bool := m.all fun d => !(great (d.toNat : Int))
theorem lowU_vary {c d : UInt8} (h : Vary c d) (hd : great (d.toNat : Int) = false) : lowU c = d := by
  have e := lowU_nat c
  have : (lowU c).toNat = d.toNat := by
    rcases h with rfl | ⟨h1, h2, h3⟩
    · rw [lowB, if_neg (by rw [hd]; decide)] at e; omega
    · rw [lowB, if_pos (by simp [great]; omega)] at e; omega
  exact UInt8.toNat_inj.1 this
theorem VaryL.lower : ∀ {l m : List UInt8}, VaryL l m → noGreat m = true → l.map lowU = m
  | [], [], _, _ => rfl
  | c :: l, d :: m, h, hg => by
    simp only [noGreat, List.all_cons, Bool.and_eq_true, Bool.not_eq_true'] at hg
    rw [List.map_cons, lowU_vary h.1 hg.1, VaryL.lower h.2 (by simpa [noGreat] using hg.2)]
  | [], _ :: _, h, _ => h.elim
  | _ :: _, [], h, _ => h.elim
/-- they are one, or a great letter stands somewhere -/
theorem VaryL.one : ∀ {l m : List UInt8}, VaryL l m → l = m ∨ ((l.any fun c => great (c.toNat : Int)) = true ∧ l ≠ m)
  | [], [], _ => Or.inl rfl
  | c :: l, d :: m, h => by
    rcases h.1 with rfl | ⟨h1, h2, h3⟩
    · rcases VaryL.one h.2 with rfl | ⟨h4, h5⟩
      · exact Or.inl rfl
      · refine Or.inr ⟨by rw [List.any_cons, h4, Bool.or_true], fun e => h5 (by injection e)⟩
    · refine Or.inr ⟨?_, fun e => ?_⟩
      · rw [List.any_cons]; simp [great]; omega
      · injection e with e1 e2; subst e1; omega
  | [], _ :: _, h => h.elim
  | _ :: _, [], h => h.elim

/-- the names that the law goes through -/
def fixL : List ByteArray := [⟨#[101, 109, 98, 101, 100]⟩, ⟨#[102, 114, 97, 109, 101]⟩, ⟨#[98, 97, 115, 101]⟩, ⟨#[109, 101, 116, 97]⟩, ⟨#[104, 49]⟩, ⟨#[111, 110, 120]⟩, ⟨#[111, 110]⟩]
def goodL : List ByteArray := tagL ++ attrL ++ fixL
/-- a name, asked byte by byte -/
def nameC : List UInt8 → Bool
  | [] => false
  | c :: l => small (c.toNat : Int) && (l.all fun d => tagB (d.toNat : Int)) && decide (l.length ≤ 11)
theorem good_names : ∀ s ∈ goodL, nameC s.data.toList = true ∧ noGreat s.data.toList = true := by decide
theorem named_of {s : ByteArray} (h : nameC s.data.toList = true) : Named small tagB s := by
  have hz : s.data.toList.length = s.size := by simp
  rcases e : s.data.toList with _ | ⟨c, l⟩
  · rw [e] at h; simp [nameC] at h
  · rw [e] at h hz
    simp only [nameC, Bool.and_eq_true, decide_eq_true_eq, List.all_eq_true] at h
    obtain ⟨⟨h1, h2⟩, h3⟩ := h
    simp only [List.length_cons] at hz
    have at_ : ∀ i (hi : i < s.size), s.data.toList[i]? = some s[i] := fun i hi => by
      rw [List.getElem?_eq_getElem (by simpa using hi)]; rfl
    refine ⟨by omega, by omega, ?_, fun i hi h4 _ => ?_⟩
    · have := at_ 0 (by omega)
      rw [e] at this
      simp at this
      rw [← this]; exact h1
    · obtain ⟨j, rfl⟩ : ∃ j, i = j + 1 := ⟨i - 1, by omega⟩
      have := at_ (j + 1) hi
      rw [e] at this
      simp at this
      have hm : s[j + 1] ∈ l := List.mem_of_getElem? this
      exact h2 _ hm
theorem good_named {s : ByteArray} (h : s ∈ goodL) : Named small tagB s := named_of (good_names s h).1
theorem good_size {s : ByteArray} (h : s ∈ goodL) : s.size ≤ 12 := by obtain ⟨_, h, _⟩ := good_named h; exact h
/-- told as a name just if it is the name itself -/
theorem vary_tag {s n : ByteArray} (hn : n ∈ goodL) (h : VaryL s.data.toList n.data.toList) : namedB small tagB s = (s.toList == n.toList) := by
  rw [ByteArray.toList_eq, ByteArray.toList_eq]
  rcases h.one with e | ⟨h1, h2⟩
  · have : s = n := by
      cases s; cases n
      simp at e
      rw [e]
    subst this
    rw [← namedB_true (good_named hn)]; simp
  · have hf : ¬ Named small tagB s := by
      rintro ⟨h0, _, hb, ha⟩
      obtain ⟨c, hc, hg⟩ := List.any_eq_true.1 h1
      obtain ⟨i, hi, rfl⟩ := List.getElem_of_mem hc
      have hi' : i < s.size := by simpa using hi
      have e1 : s.data.toList[i] = s[i] := rfl
      rw [e1] at hg
      by_cases e0 : i = 0
      · subst e0
        simp [small, great] at hb hg; omega
      · have := ha i hi' (by omega) hi'
        simp [tagB, small, digit, great] at this hg; omega
    rw [← namedB_false hf]
    symm
    rw [beq_eq_false_iff_ne]
    exact h2
theorem vary_low {s n : ByteArray} (hn : n ∈ goodL) (h : VaryL s.data.toList n.data.toList) : lowS s = n := by
  have hz : s.size = n.size := by
    have := h.len; simpa using this
  have := good_size hn
  rw [lowS, if_pos (by omega), h.lower (good_names n hn).2]
end Go.Proofs.Ythinbdhbaahefaa
