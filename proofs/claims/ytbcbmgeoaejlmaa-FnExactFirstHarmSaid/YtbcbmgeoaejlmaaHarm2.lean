
import Derived.Test.YtbcbmgeoaejlmaaOK
import Derived.Test.YtbcbmgeoaejlmaaAll
namespace Go.Proofs.Ytbcbmgeoaejlmaa
open Go.ChangeShapes Go.WideShapes Go.ChangeAt Go.RowKit Go.Deep

/-- what is known of the first spot that p tells -/
def stF (p : Nd → Fo → Bool) (s : Option (List NP)) (ch : List NP) : Option (List NP) × Bool :=
  match ch with
  | [] => (s, s.isNone)
  | x :: r => if p x.1 x.2.2 = true then (some (x :: r), false) else (s, s.isNone)
/-- the first node that p tells, with those that it lies within -/
def firstF (p : Nd → Fo → Bool) : Fo → List NP → Nat → Option (List NP)
  | .nil, _, _ => none
  | .cons k sp n t al kids rest, ch, j =>
    if p ⟨k, sp, n, t, al⟩ kids = true then some ((⟨k, sp, n, t, al⟩, j, kids) :: ch)
    else match firstF p kids ((⟨k, sp, n, t, al⟩, j, kids) :: ch) 0 with
      | some c => some c
      | none => firstF p rest ch (j + 1)
theorem trav2_first (p : Nd → Fo → Bool) : ∀ (F : Fo) (ch : List NP) (j : Nat), trav2 (stF p) F ch j none = (firstF p F ch j, (firstF p F ch j).isNone)
  | .nil, _, _ => rfl
  | .cons k sp n t al kids rest, ch, j => by
    rw [trav2, firstF]
    by_cases hp : p ⟨k, sp, n, t, al⟩ kids = true
    · simp [stF, hp]
    · have e : stF p none ((⟨k, sp, n, t, al⟩, j, kids) :: ch) = (none, true) := by simp [stF, hp]
      rw [e, trav2_first p kids]
      simp only [hp, if_false, if_true]
      cases firstF p kids ((⟨k, sp, n, t, al⟩, j, kids) :: ch) 0 with
      | some c => simp
      | none => simp [trav2_first p rest]
def isNew (s : Option (List NP)) (_ : List NP) : Prop := s = none
theorem travP2_first (p : Nd → Fo → Bool) : ∀ (F : Fo) (ch : List NP) (j : Nat), travP2 isNew (stF p) F ch j none
  | .nil, _, _ => trivial
  | .cons k sp n t al kids rest, ch, j => by
    refine ⟨rfl, fun h => ?_⟩
    have e : stF p none ((⟨k, sp, n, t, al⟩, j, kids) :: ch) = (none, true) := by
      by_cases hp : p ⟨k, sp, n, t, al⟩ kids = true
      · simp [stF, hp] at h
      · simp [stF, hp]
    rw [e]
    refine ⟨travP2_first p kids _ _, fun h2 => ?_⟩
    rw [trav2_first] at h2 ⊢
    have : firstF p kids ((⟨k, sp, n, t, al⟩, j, kids) :: ch) 0 = none := by simpa using h2
    rw [this]
    exact travP2_first p rest _ _
/-- the chain begins with the node, and is as long as the depth allows -/
theorem firstF_len (p : Nd → Fo → Bool) : ∀ (F : Fo) (ch : List NP) (j : Nat) (c : List NP), firstF p F ch j = some c → c ≠ [] ∧ c.length ≤ ch.length + F.deep
  | .nil, _, _, _, h => by cases h
  | .cons k sp n t al kids rest, ch, j, c, h => by
    rw [firstF] at h
    split at h
    · injection h with h; subst h; exact ⟨by simp, by simp [Fo.deep]; omega⟩
    · split at h
      · rename_i c2 h2
        injection h with h
        subst h
        obtain ⟨a, b⟩ := firstF_len p kids _ _ _ h2
        exact ⟨a, by simp [Fo.deep] at b ⊢; omega⟩
      · obtain ⟨a, b⟩ := firstF_len p rest _ _ _ h
        exact ⟨a, by simp [Fo.deep]; omega⟩

/-- function g tells nodes as p -/
def NdFn (P : Program) (g : Nat) (cap : Array Value) (p : Nd → Fo → Bool) (lo hi : Nat) : Prop :=
  ∀ (x : Nd) (kids : Fo) (b o : Nat) (W : World), NdAt W lo hi b o x → KidsAt W lo hi b o kids → b < hi → hi ≤ W.heap.size → Calls P g (#[.pointer (some ⟨b, o, none⟩)] ++ cap) W fun e w' => e = .returned (.bool (p x kids)) ∧ Below W.heap.size W w'

/-- q leads to the first spot, if there is one -/
def FirstIs (w : World) (C : Nat → Prop) (lo hi : Nat) (q : Option Addr) : Option (List NP) → Prop
  | none => q = none
  | some ch => ch ≠ [] ∧ SpotP w C lo hi q ch
/-- the box of the first, and the box of what is asked -/
def FirstAt (fb ib lo hi g : Nat) (cap : Array Value) (s : Option (List NP)) (C : Nat → Prop) (w : World) : Prop :=
  (∀ k, C k ↔ k = fb) ∧ hi ≤ fb ∧ fb < w.heap.size ∧ w.frozen? ⟨fb, 0, none⟩ = false ∧ BoxAt w C hi ib g cap ∧ ∃ q, w.cell? ⟨fb, 0, none⟩ = some (.pointer q) ∧ FirstIs w C lo hi q s
theorem FirstAt.keep {fb ib lo hi g : Nat} {cap : Array Value} {s : Option (List NP)} {C : Nat → Prop} {w w' : World} (h : FirstAt fb ib lo hi g cap s C w) (hB : But No w w') (hh : hi ≤ w.heap.size) : FirstAt fb ib lo hi g cap s C w' := by
  obtain ⟨h1, h2, h3, h4, h5, q, h6, h7⟩ := h
  have hB' : But C w w' := hB.none
  have hC : ∀ k, C k → hi ≤ k := fun k hk => by rw [(h1 k).1 hk]; exact h2
  refine ⟨h1, h2, Nat.lt_of_lt_of_le h3 hB.size, (hB.frozen (p := ⟨fb, 0, none⟩) h3 id).trans h4, h5.but hB' (fun _ h => Or.inl h), q, (hB.cell (p := ⟨fb, 0, none⟩) h3 id).trans h6, ?_⟩
  cases s with
  | none => exact h7
  | some ch => exact ⟨h7.1, h7.2.but hB' hh hC (fun _ h => Or.inl h)⟩
end Go.Proofs.Ytbcbmgeoaejlmaa
