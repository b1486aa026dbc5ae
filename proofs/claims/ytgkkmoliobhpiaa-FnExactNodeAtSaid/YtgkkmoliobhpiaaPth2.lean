import Derived.Test.YtgkkmoliobhpiaaPth
namespace Go.Proofs.Ytgkkmoliobhpiaa
open Go.ChangeShapes Go.WideShapes Go.ChangeAt Go.RowKit Go.Deep

/-- the node at a place, by itself; nothing if there is none -/
def Fo.nth : Fo → Nat → Fo
  | .nil, _ => .nil
  | .cons k sp n t al kids _, 0 => .one k sp n t al kids
  | .cons _ _ _ _ _ _ r, i + 1 => r.nth i
def Fo.hk : Fo → Int
  | .nil => 0
  | .cons k _ _ _ _ _ _ => k
def Fo.hsp : Fo → Int
  | .nil => 0
  | .cons _ sp _ _ _ _ _ => sp
def Fo.hn : Fo → ByteArray
  | .nil => ⟨#[]⟩
  | .cons _ _ n _ _ _ _ => n
def Fo.ht : Fo → ByteArray
  | .nil => ⟨#[]⟩
  | .cons _ _ _ t _ _ _ => t
def Fo.hal : Fo → List (ByteArray × ByteArray)
  | .nil => []
  | .cons _ _ _ _ al _ _ => al
def Fo.hkids : Fo → Fo
  | .nil => .nil
  | .cons _ _ _ _ _ kids _ => kids
/-- the node that a path leads to, from a tree and what was found so far -/
def Fo.path : Fo → List Int → Fo → Fo
  | _, [], f => f
  | G, p :: ps, _ => if 0 ≤ p ∧ p < G.len then Fo.path (G.nth p.toNat).hkids ps (G.nth p.toNat) else .nil
theorem Fo.path_out {G : Fo} {p : Int} {ps : List Int} {f : Fo} (h : ¬ (0 ≤ p ∧ p < G.len)) : Fo.path G (p :: ps) f = .nil := by rw [Fo.path, if_neg h]
theorem Fo.path_in {G : Fo} {p : Int} {ps : List Int} {f : Fo} (h : 0 ≤ p ∧ p < G.len) : Fo.path G (p :: ps) f = Fo.path (G.nth p.toNat).hkids ps (G.nth p.toNat) := by rw [Fo.path, if_pos h]
theorem Fo.nth_some : ∀ (G : Fo) (i : Nat), i < G.len → ∃ (k sp : Int) (n t : ByteArray) (al : List (ByteArray × ByteArray)) (kids : Fo), G.nth i = .one k sp n t al kids
  | .nil, _, h => absurd h (Nat.not_lt_zero _)
  | .cons k sp n t al kids _, 0, _ => ⟨k, sp, n, t, al, kids, rfl⟩
  | .cons _ _ _ _ _ _ r, i + 1, h => Fo.nth_some r i (by simp only [Fo.len] at h; omega)
theorem FoAt.nth {w : World} {lo hi b : Nat} : ∀ {G : Fo} {o : Nat} (i : Nat), FoAt w lo hi b o G → i < G.len → FoAt w lo hi b (o + i * 6) (G.nth i)
  | .nil, _, _, _, h => absurd h (Nat.not_lt_zero _)
  | .cons k sp n t al kids r, o, 0, ⟨h1, h2, h3, _⟩, _ => by rw [Nat.zero_mul, Nat.add_zero]; exact ⟨h1, h2, h3, trivial⟩
  | .cons _ _ _ _ _ _ r, o, i + 1, ⟨_, _, _, h4⟩, h => by
    have := FoAt.nth (G := r) i h4 (by simp only [Fo.len] at h; omega)
    rw [show o + (i + 1) * 6 = o + 6 + i * 6 by omega]
    exact this
theorem Fo.nth_small : ∀ (G : Fo) (i : Nat), G.small → (G.nth i).small
  | .nil, _, _ => trivial
  | .cons _ _ _ _ _ _ _, 0, h => ⟨h.1, h.2.1, h.2.2.1, trivial⟩
  | .cons _ _ _ _ _ _ r, i + 1, h => Fo.nth_small r i h.2.2.2
theorem Fo.hkids_small {f : Fo} (h : f.small) : f.hkids.small ∧ f.hkids.len ≤ 1048576 ∧ f.hal.length ≤ 1048576 := by
  cases f with
  | nil => exact ⟨trivial, Nat.zero_le _, Nat.zero_le _⟩
  | cons _ _ _ _ _ _ _ => exact ⟨h.2.2.1, h.2.1, h.1⟩

/-- what a way into a tree leads to -/
def Found (F : Fo) (l : List Int) (w : World) (lo hi : Nat) (e : Ending) (w' : World) : Prop :=
  Below w.heap.size w w' ∧ ((F.path l .nil = .nil ∧ e = .returned (.pointer none)) ∨ ∃ (k sp : Int) (n t : ByteArray) (al : List (ByteArray × ByteArray)) (kids : Fo) (b' o' : Nat), F.path l .nil = .one k sp n t al kids ∧ (Fo.one k sp n t al kids).small ∧ e = .returned (.pointer (some ⟨b', o', none⟩)) ∧ (lo ≤ b' ∧ b' < hi) ∧ FoAt w lo hi b' o' (.one k sp n t al kids))

set_option maxHeartbeats 1000000 in
theorem nodeAt_any (F : Fo) (l : List Int) (w : World) (A A' : Option Addr) (c c' b o b' o' lo hi : Nat) (hsm : F.small) (hl : F.len ≤ 1048576) (hll : l.length ≤ 1048576) (hA : RowAt lo hi A F.len b o) (hF : FoAt w lo hi b o F) (hh : hi ≤ w.heap.size) (hi' : IntsIn w A' b' o' l) :
    Calls Try.prog 37 #[.slice A F.len c, .slice A' l.length c'] w (Found F l w lo hi) := by
  have H' := Lib.hid hi'
  have HH0 := Lib.hid (And.intro hsm (And.intro hA hF))
  clear hi' hsm hA hF
  go_enter Try.func37, Try.ntmps37
  go_wp2
  go_loopw [0, 5, 10] (fun T f i wr => ∃ (k : Nat) (suf : List Int) (G fo : Fo) (TA fp : Option Addr) (tc : Nat), T = .slice TA G.len tc ∧ f = .pointer fp ∧ i = .int .i64 (k : Int) ∧ k + suf.length = l.length ∧ G.len ≤ 1048576 ∧ Hid ((∃ tb to, RowAt lo hi TA G.len tb to ∧ FoAt w lo hi tb to G) ∧ G.small ∧ F.path l .nil = G.path suf fo ∧ IsAt w b' (o' + k) suf ∧ Below w.heap.size w wr ∧
      ((fo = .nil ∧ fp = none) ∨ ∃ (k sp : Int) (n t : ByteArray) (al : List (ByteArray × ByteArray)) (kids : Fo) (b' o' : Nat), fo = .one k sp n t al kids ∧ (Fo.one k sp n t al kids).small ∧ fp = some ⟨b', o', none⟩ ∧ (lo ≤ b' ∧ b' < hi) ∧ FoAt w lo hi b' o' (.one k sp n t al kids)))) (fun T f i wr => l.length - (intOf i).toNat)
  case atStart => exact ⟨0, l, F, .nil, A, none, c, rfl, rfl, rfl, by omega, hl, Lib.hid ⟨⟨b, o, HH0.out.2.1, HH0.out.2.2⟩, HH0.out.1, rfl, by simpa using H'.out.2, Below.refl _ _, Or.inl ⟨rfl, rfl⟩⟩⟩
  case round =>
    obtain ⟨k, suf, G, fo, TA, fp, tc, rfl, rfl, rfl, hk, hG, HH⟩ := hrel
    cases suf with
    | nil =>
      have hkl : k = l.length := by simpa using hk
      clear hk
      subst hkl
      go_wp2
      go_ret
      obtain ⟨_, _, i3, _, i5, i6⟩ := HH.out
      refine ⟨i5, ?_⟩
      rcases i6 with ⟨h1, h2⟩ | ⟨k, sp, n, t, al, kids, b2, o2, h1, h2, h3, h4, h5⟩
      · exact Or.inl ⟨by rw [i3, Fo.path, h1], by rw [h2]; rfl⟩
      · exact Or.inr ⟨k, sp, n, t, al, kids, b2, o2, by rw [i3, Fo.path, h1], h2, by rw [h3]; rfl, h4, h5⟩
    | cons p ps =>
      obtain ⟨⟨tb, to, hT, hFT⟩, hsmG, hpath, ⟨s1, s5⟩, hB, _⟩ := HH.out
      simp only [List.length_cons] at hk
      obtain ⟨rfl, hlo, hhi⟩ := H'.out.1.2 (by omega)
      have hkl : k < l.length := by omega
      have t1 := (hB.cell (p := ⟨b', o' + k, none⟩) hhi).trans s1
      have H5 := Lib.hid s5
      have HB := Lib.hid hB
      have HT := Lib.hid (And.intro hT (And.intro hFT hsmG))
      have HP := Lib.hid hpath
      clear HH s1 s5 hB hT hFT hpath hsmG
      by_cases hp0 : p < 0
      · have HQ := Lib.hid (Fo.path_out (G := G) (p := p) (ps := ps) (f := fo) (by omega))
        go_wp2
        go_ret
        exact ⟨HB.out, Or.inl ⟨by rw [HP.out, HQ.out], rfl⟩⟩
      · by_cases hpl : p < G.len
        · obtain ⟨q, rfl⟩ : ∃ q : Nat, p = (q : Int) := ⟨p.toNat, by omega⟩
          have hq : q < G.len := by omega
          obtain ⟨xk, xs, xn, xt, xa, kids, hn⟩ := Fo.nth_some G q hq
          have hx := FoAt.nth q HT.out.2.1 hq
          have hsx := Fo.nth_small G q HT.out.2.2
          rw [hn] at hx hsx
          obtain ⟨rfl, hlo2, hhi2⟩ := HT.out.1.2 (by omega)
          obtain ⟨_, _, ⟨A5, c5, b5, o5, s5, r5, a5⟩, _⟩ := hx
          have t5 := (HB.out.cell (p := ⟨tb, to + q * 6 + 5, none⟩) (Nat.lt_of_lt_of_le hhi2 hh)).trans s5
          have HN := Lib.hid (show FoAt w lo hi tb (to + q * 6) (.one xk xs xn xt xa kids) from by have := FoAt.nth q HT.out.2.1 hq; rw [hn] at this; exact this)
          have HS := Lib.hid hsx
          have H55 := Lib.hid (And.intro r5.2 a5)
          have HQ : Hid (G.path ((q : Int) :: ps) fo = kids.path ps (.one xk xs xn xt xa kids)) := Lib.hid (by rw [Fo.path_in ⟨by omega, hpl⟩, Int.toNat_natCast, hn]; rfl)
          have hk5 : kids.len ≤ 1048576 := hsx.2.1
          clear hn hsx s5 r5 a5
          go_wp2
          go_roundw
          case rel => exact ⟨k + 1, ps, kids, .one xk xs xn xt xa kids, A5, some ⟨tb, to + q * 6, none⟩, c5, rfl, rfl, by go_num, by omega, hk5, Lib.hid ⟨⟨b5, o5, H55.out.1, H55.out.2⟩, HS.out.2.2.1, by rw [HP.out, HQ.out], by rw [show o' + (k + 1) = o' + k + 1 by omega]; exact H5.out, HB.out, Or.inr ⟨xk, xs, xn, xt, xa, kids, tb, to + q * 6, rfl, HS.out, rfl, ⟨hlo2, hhi2⟩, HN.out⟩⟩⟩
          case measure => simp [intOf]; omega
        · have HQ := Lib.hid (Fo.path_out (G := G) (p := p) (ps := ps) (f := fo) (by omega))
          go_wp2
          go_ret
          exact ⟨HB.out, Or.inl ⟨by rw [HP.out, HQ.out], rfl⟩⟩
end Go.Proofs.Ytgkkmoliobhpiaa
