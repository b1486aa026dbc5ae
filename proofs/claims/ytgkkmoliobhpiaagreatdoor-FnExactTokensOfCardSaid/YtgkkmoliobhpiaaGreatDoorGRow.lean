import Derived.Test.YtgkkmoliobhpiaaGreatDoorMarkA
import Derived.Maps.AppendAt
namespace Go.Proofs.YtgkkmoliobhpiaaGreatDoor
open Go.ChangeShapes Go.WideShapes Go.ChangeAt Go.RowKit Go.Deep

/-- the values of a row of nodes, and the rows that they lead to -/
def FoVals (w : World) : List Value → Fo → List Nat → Prop
  | xs, .nil, bl => xs = [] ∧ bl = []
  | xs, .cons k sp n t al kids rest, bl => ∃ (A K : Option Addr) (ca ck : Nat) (ba bk br : List Nat) (xr : List Value), xs = .int .i64 k :: .int .i64 sp :: .string n :: .string t :: .slice A al.length ca :: .slice K kids.len ck :: xr ∧ bl = ba ++ bk ++ br ∧
    (n.size ≤ maxLen ∧ t.size ≤ maxLen) ∧ (al.length ≤ ca ∧ al.length ≤ maxLen ∧ AlRow w A al ba) ∧ (kids.len ≤ ck ∧ kids.len ≤ maxLen ∧ KRow w K kids bk) ∧ FoVals w xr rest br
theorem FoVals.same {w w' : World} : ∀ {F : Fo} {xs : List Value} {bl : List Nat}, FoVals w xs F bl → (∀ k ∈ bl, w'.heap[k]? = w.heap[k]?) → FoVals w' xs F bl
  | .nil, _, _, h, _ => h
  | .cons k sp n t al kids rest, xs, bl, ⟨A, K, ca, ck, ba, bk, br, xr, hx, hbl, hz, ⟨h4, m4, r4⟩, ⟨h5, m5, r5⟩, hr⟩, hb => by
    subst hbl
    exact ⟨A, K, ca, ck, ba, bk, br, xr, hx, rfl, hz, ⟨h4, m4, r4.same fun k hk => hb k (by simp [hk])⟩, ⟨h5, m5, r5.same fun k hk => hb k (by simp [hk])⟩, hr.same fun k hk => hb k (by simp [hk])⟩
theorem FoVals.len {w : World} : ∀ {F : Fo} {xs : List Value} {bl : List Nat}, FoVals w xs F bl → xs.length = F.len * 6
  | .nil, _, _, h => by rw [h.1]; rfl
  | .cons k sp n t al kids rest, xs, bl, ⟨A, K, ca, ck, ba, bk, br, xr, hx, _, _, _, _, hr⟩ => by
    rw [hx]; simp only [List.length_cons, hr.len, Fo.len]; omega
theorem FoVals.app {w : World} : ∀ {P S : Fo} {xs ys : List Value} {b1 b2 : List Nat}, FoVals w xs P b1 → FoVals w ys S b2 → FoVals w (xs ++ ys) (P.app S) (b1 ++ b2)
  | .nil, S, xs, ys, b1, b2, h, h2 => by obtain ⟨rfl, rfl⟩ := h; simpa [Fo.app] using h2
  | .cons k sp n t al kids rest, S, xs, ys, b1, b2, ⟨A, K, ca, ck, ba, bk, br, xr, hx, hbl, hz, h4, h5, hr⟩, h2 => by
    subst hx hbl
    exact ⟨A, K, ca, ck, ba, bk, br ++ b2, xr ++ ys, rfl, by simp [List.append_assoc], hz, h4, h5, hr.app h2⟩
theorem FoVals.lay {w : World} {g : Nat} : ∀ {F : Fo} {xs : List Value} {bl : List Nat} {o : Nat}, FoVals w xs F bl → (∀ j (h : j < xs.length), CellW w g (o + j) xs[j]) → FoLay w g o F bl
  | .nil, _, _, _, h, _ => h.2
  | .cons k sp n t al kids rest, xs, bl, o, ⟨A, K, ca, ck, ba, bk, br, xr, hx, hbl, hz, ⟨h4, m4, r4⟩, ⟨h5, m5, r5⟩, hr⟩, hc => by
    subst hx
    refine ⟨A, K, ca, ck, ba, bk, br, hbl, ⟨hc 0 (by simp), hc 1 (by simp), hc 2 (by simp), hc 3 (by simp), hz.1, hz.2⟩, ⟨hc 4 (by simp), h4, m4, r4⟩, ⟨hc 5 (by simp), h5, m5, r5⟩, hr.lay fun j hj => ?_⟩
    have := hc (j + 6) (by simp; omega)
    rw [show o + 6 + j = o + (j + 6) by omega]
    simpa using this
/-- the values of a row of attributes -/
def alVals : List (ByteArray × ByteArray) → List Value
  | [] => []
  | x :: r => .string x.1 :: .string x.2 :: alVals r
theorem alVals_len : ∀ al : List (ByteArray × ByteArray), (alVals al).length = al.length * 2
  | [] => rfl
  | _ :: r => by simp only [alVals, List.length_cons, alVals_len r]; omega
theorem alLay_of {w : World} {a : Nat} : ∀ {al : List (ByteArray × ByteArray)} {o : Nat}, (∀ x ∈ al, x.1.size ≤ maxLen ∧ x.2.size ≤ maxLen) → (∀ j (h : j < (alVals al).length), CellW w a (o + j) (alVals al)[j]) → AlLay w a o al
  | [], _, _, _ => trivial
  | x :: r, o, hs, hc => by
    have e := hs x (by simp)
    refine ⟨hc 0 (by simp [alVals]), hc 1 (by simp [alVals]), e.1, e.2, alLay_of (fun y hy => hs y (by simp [hy])) fun j hj => ?_⟩
    have := hc (j + 2) (by simp [alVals]; omega)
    rw [show o + 2 + j = o + (j + 2) by omega]
    simpa [alVals] using this
theorem arow_form {w : World} {base : Nat} {v : Value} {al : List (ByteArray × ByteArray)} (h : w.ownsRow base 45 2 v al.length (alVals al)) (hs : ∀ x ∈ al, x.1.size ≤ maxLen ∧ x.2.size ≤ maxLen) :
    ∃ A c ba, v = .slice A al.length c ∧ al.length ≤ c ∧ AlRow w A al ba ∧ ba.Nodup ∧ (∀ k ∈ ba, base ≤ k ∧ k < w.heap.size) ∧ ∀ k ∈ ba, v.ownBlock = some k := by
  have hc := fun g hg => World.ownsRow.cells h (g := g) hg
  obtain ⟨hl, ho⟩ := h
  rcases ho with ⟨rfl, h0⟩ | ⟨g, cap, cur, rfl, hbs, hblk, hle, _, _, _⟩
  · exact ⟨none, 0, [], by rw [h0], by omega, Or.inl ⟨List.length_eq_zero_iff.1 h0, rfl⟩, List.nodup_nil, by simp, by simp⟩
  · refine ⟨_, cap, [g], rfl, hle, Or.inr ⟨g, rfl, rfl, alLay_of hs fun j hj => ⟨?_, ?_⟩⟩, by simp, fun k hk => ?_, fun k hk => ?_⟩
    · have := hc g rfl j (alVals al)[j] (by simp [hj])
      rw [Addr.add_lit, Nat.zero_add] at this
      rw [Nat.zero_add]
      exact this
    · simp [World.frozen?, hblk]
    · rw [List.mem_singleton.1 hk]
      exact ⟨hbs, (Array.getElem?_eq_some_iff.1 hblk).1⟩
    · rw [List.mem_singleton.1 hk]; rfl
end Go.Proofs.YtgkkmoliobhpiaaGreatDoor
