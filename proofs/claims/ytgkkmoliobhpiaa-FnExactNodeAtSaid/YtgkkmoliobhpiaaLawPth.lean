import Derived.Test.YtgkkmoliobhpiaaPth6
import Derived.Test.YtgkkmoliobhpiaaLawMrg
namespace Go.Proofs.Ytgkkmoliobhpiaa
open Go.ChangeShapes Go.WideShapes Go.ChangeAt Go.RowKit Go.Deep

section
variable {H : Type} {enc : TypeId × Value → H} {P : Program} {w : World} {base : Nat} {spare : Nat → Bool} {held : Bool}
/-- numbers that came in, as they stand -/
theorem open_path {t e : TypeId} {fuel : Nat} {cs : List Value} {x : DataW H × List MemPlace} (ht : P.underlying t = some (.slice e)) (he : P.underlying e = some (.int .i64)) (hc : P.cellsOf e = 1)
    (h : DataW.trod enc P w base spare held fuel t cs = some x) : ∃ (l : List Int) (A : Option Addr) (c b o : Nat), cs = [.slice A l.length c] ∧ IntsIn w A b o l := by
  rcases open_ints ht he hc h with ⟨rfl, _⟩ | ⟨a, len, cap, zs, rfl, _, hl, hm, hz, _, hcell, _⟩
  · exact ⟨[], none, 0, 0, 0, rfl, ⟨Nat.zero_le _, fun h => absurd h (Nat.lt_irrefl _)⟩, trivial⟩
  have hlz : len ≤ zs.length := by rw [hz]; split <;> omega
  obtain ⟨b, o, spot⟩ := a
  have hlen : (zs.take len).length = len := by rw [List.length_take]; omega
  by_cases hz0 : len = 0
  · subst hz0
    exact ⟨[], _, cap, b, o, rfl, ⟨Nat.zero_le _, fun h => absurd h (Nat.lt_irrefl _)⟩, trivial⟩
  have h0 := hcell 0 (by omega)
  have hspot : spot = none := by simpa [Addr.add] using World.cell?_spot h0
  subst hspot
  have hlt : b < w.heap.size := by
    have := World.block_lt_of_cell? w _ h0
    rwa [addr_block] at this
  refine ⟨zs.take len, _, cap, b, o, by rw [hlen], ⟨by omega, fun _ => ⟨rfl, Nat.zero_le _, hlt⟩⟩, ?_⟩
  have key : ∀ (l : List Int) (k : Nat), (∀ i, i < l.length → w.cell? ⟨b, o + (k + i), none⟩ = some (.int .i64 (l.getD i 0))) → IsAt w b (o + k) l := by
    intro l
    induction l with
    | nil => intro _ _; trivial
    | cons y r ih =>
      intro k hk
      refine ⟨by simpa using hk 0 (by simp), ?_⟩
      have := ih (k + 1) fun i hi => by
        have := hk (i + 1) (by simp; omega)
        rw [show k + 1 + i = k + (i + 1) by omega]
        simpa using this
      rw [show o + k + 1 = o + (k + 1) by omega]; exact this
  have := key (zs.take len) 0 fun i hi => by
    rw [hlen] at hi
    have := hcell i (by omega)
    rw [Addr.add_lit] at this
    rw [Nat.zero_add, this]
    simp [List.getD_eq_getElem?_getD, hi]
  simpa using this
end
theorem Fo.nth_cnt : ∀ (G : Fo) (i : Nat), (G.nth i).cnt ≤ G.cnt
  | .nil, _ => Nat.le_refl _
  | .cons _ _ _ _ _ _ _, 0 => by simp only [Fo.nth, Fo.one, Fo.cnt]; omega
  | .cons _ _ _ _ _ _ r, i + 1 => by have := Fo.nth_cnt r i; simp only [Fo.nth, Fo.cnt]; omega
theorem Fo.hkids_cnt (f : Fo) : 2 * f.hal.length + f.hkids.cnt ≤ f.cnt := by
  cases f with
  | nil => exact Nat.le_refl _
  | cons _ _ _ _ _ _ _ => simp only [Fo.hal, Fo.hkids, Fo.cnt]; omega
theorem Fo.path_cnt {B : Nat} : ∀ (l : List Int) (G f : Fo), G.cnt ≤ B → f.cnt ≤ B → (G.path l f).cnt ≤ B
  | [], _, _, _, hf => hf
  | p :: ps, G, f, hG, _ => by
    rw [Fo.path]
    split
    · have h1 := Fo.nth_cnt G p.toNat
      have h2 := Fo.hkids_cnt (G.nth p.toNat)
      exact Fo.path_cnt ps _ _ (by omega) (by omega)
    · exact Nat.zero_le _
theorem atOf_cnt (F : Fo) (l : List Int) : (atOf F l).2.cnt ≤ F.cnt := by
  unfold atOf
  split
  · split
    · split
      · exact Nat.zero_le _
      · exact Fo.path_cnt l F .nil (Nat.le_refl _) (Nat.zero_le _)
    · exact Nat.zero_le _
  · exact Nat.zero_le _
theorem AtOut.get {F f : Fo} {l : List Int} {w w' : World} {e : Ending} {cd : Int} (hat : atOf F l = (cd, f)) (h : AtOut F l w e w') :
    ∃ (A K : Option Addr) (ca ck : Nat) (ba bk : List Nat), e = .returned (.tuple #[.agg #[.int .i64 f.hk, .int .i64 f.hsp, .string f.hn, .string f.ht, .slice A f.hal.length ca, .slice K f.hkids.len ck], .int .i64 cd]) ∧ Below w.heap.size w w' ∧ NR w' f A ca K ck ba bk w.heap.size w'.heap.size := by
  obtain ⟨A, K, ca, ck, ba, bk, h1, h2, h3⟩ := h
  rw [hat] at h1 h3
  exact ⟨A, K, ca, ck, ba, bk, h1, h2, NR.of h3⟩
/-- a node in a variable, and its rows -/
structure NB (w : World) (g : Nat) (f : Fo) (A : Option Addr) (ca : Nat) (K : Option Addr) (ck : Nat) (ba bk : List Nat) (lo hi : Nat) : Prop where
  box : Lay w g #[.int .i64 f.hk, .int .i64 f.hsp, .string f.hn, .string f.ht, .slice A f.hal.length ca, .slice K f.hkids.len ck]
  lt : g < w.heap.size
  nr : NR w f A ca K ck ba bk lo hi
theorem NB.new {w : World} {f : Fo} {A : Option Addr} {ca : Nat} {K : Option Addr} {ck : Nat} {ba bk : List Nat} {lo hi : Nat} (h : NR w f A ca K ck ba bk lo hi) (ty : TypeId) :
    NB (w.alloc (.cells #[.int .i64 f.hk, .int .i64 f.hsp, .string f.hn, .string f.ht, .slice A f.hal.length ca, .slice K f.hkids.len ck] ty)) w.heap.size f A ca K ck ba bk lo hi :=
  ⟨Lay.new _ _ _, by simp, h.next ((Below.refl _ _).alloc (Nat.le_refl _) _)⟩
theorem NB.next {w w' : World} {g : Nat} {f : Fo} {A : Option Addr} {ca : Nat} {K : Option Addr} {ck : Nat} {ba bk : List Nat} {lo hi : Nat} (h : NB w g f A ca K ck ba bk lo hi) (hB : Below w.heap.size w w') : NB w' g f A ca K ck ba bk lo hi :=
  ⟨h.box.below hB h.lt, Nat.lt_of_lt_of_le h.lt hB.size, h.nr.next hB⟩
theorem Lay.only {w w' : World} {g : Nat} {cs : Array Value} {l : List Nat} (h : Lay w g cs) (hB : OnlyAt w w' l) (hg : g < w.heap.size) (hn : g ∉ l) : Lay w' g cs :=
  ⟨fun j => (hB.cell (p := ⟨g, j, none⟩) hg hn).trans (h.1 j), fun j => (hB.frozen (p := ⟨g, j, none⟩) hg hn).trans (h.2 j)⟩
theorem NB.only {w w' : World} {g : Nat} {f : Fo} {A : Option Addr} {ca : Nat} {K : Option Addr} {ck : Nat} {ba bk : List Nat} {lo hi : Nat} (h : NB w g f A ca K ck ba bk lo hi) {cs : List Nat} (hB : OnlyAt w w' cs) (hc : ∀ k ∈ cs, k ≠ g ∧ ¬ (lo ≤ k ∧ k < hi)) : NB w' g f A ca K ck ba bk lo hi :=
  ⟨h.box.only hB h.lt (fun hm => (hc g hm).1 rfl), Nat.lt_of_lt_of_le h.lt hB.size, h.nr.only hB fun k hk => (hc k hk).2⟩
end Go.Proofs.Ytgkkmoliobhpiaa
