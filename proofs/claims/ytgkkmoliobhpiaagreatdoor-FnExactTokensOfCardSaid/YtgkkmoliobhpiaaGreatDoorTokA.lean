import Derived.Test.YtgkkmoliobhpiaaGreatDoorSzA
import Derived.Test.YtgkkmoliobhpiaaGreatDoorMarkA
import Derived.Deep.RegionHeld3
import Derived.Test.YtgkkmoliobhpiaaGreatDoorTkB
import Derived.Outline
namespace Go.Proofs.YtgkkmoliobhpiaaGreatDoor
open Go.ChangeShapes Go.WideShapes Go.ChangeAt Go.RowKit Go.Deep

theorem eqToken_same (k a l : Int) (n t : ByteArray) (al : List (ByteArray × ByteArray)) (s : Bool) (w : World) (A A' : Option Addr) (c c' b o b' o' lo hi lo' hi' : Nat)
    (hA : RowAt lo hi A al.length b o) (hal : AsAt w b o al) (hh : hi ≤ w.heap.size) (hA' : RowAt lo' hi' A' al.length b' o') (hal' : AsAt w b' o' al) (hh' : hi' ≤ w.heap.size) :
    Calls Tryz.prog 13 #[.agg #[.int .i64 k, .int .i64 a, .int .i64 l, .string n, .string t, .slice A al.length c, .bool s], .agg #[.int .i64 k, .int .i64 a, .int .i64 l, .string n, .string t, .slice A' al.length c', .bool s]] w fun e w' =>
      e = .returned (.bool true) ∧ Below w.heap.size w w' := by
  have HA := Lib.hid hA
  have HN := Lib.hid hal
  have HA' := Lib.hid hA'
  have HN' := Lib.hid hal'
  clear hal hA hal' hA'
  go_enter Tryz.func13, Tryz.ntmps13
  go_wp2_with (go_at_call 29; go_loud (refine (eqAttrS_same al _ A A' c c' b b' o o' lo hi lo' hi' HA.out HA'.out ?a1 ?a2 ?a3 ?a4).mono ?a5; (case a1 => (simp; omega)); (case a2 => (simp; omega)); (case a3 => exact al_below HA.out HN.out (by go_grown) hh); (case a4 => exact al_below HA'.out HN'.out (by go_grown) hh'); rintro e w1 ⟨rfl, hB'⟩; simp only [World.size_alloc] at hB'; obtain ⟨L1, L2, B3⟩ := two_lay hB'; have r6 := L1.1 6; have r6' := L2.1 6; have KB := Lib.hid B3; simp at r6 r6'; clear L1 L2 B3 hB'))
  go_ret
  exact ⟨rfl, KB.out⟩
end Go.Proofs.YtgkkmoliobhpiaaGreatDoor
namespace Go.Proofs.YtgkkmoliobhpiaaGreatDoor
open Go.ChangeShapes Go.WideShapes Go.ChangeAt Go.RowKit Go.Deep

/-- a number's text, the number said as the walk has it -/
theorem markText_at (n : Nat) (i : Int) (hi : i = (n : Int)) (h1 : 1 ≤ n) (h2 : n ≤ 1073741824) (w : World) :
    Calls Tryz.prog 32 #[.int .i64 i] w fun e w' => e = .returned (.string (markT n)) ∧ Below w.heap.size w w' := by
  subst hi
  exact markText_any n h1 h2 w
theorem heldAttrS_any (al : List (ByteArray × ByteArray)) (m : Nat) (w : World) (A : Option Addr) (c b o lo hi : Nat) (h1 : 1 ≤ m) (h2 : m + 2 * al.length ≤ 1073741824) (hA : RowAt lo hi A al.length b o) (hh : hi ≤ w.heap.size) (hal : AsAt w b o (markAl al m)) :
    Calls Tryz.prog 31 #[.slice A al.length c, .int .i64 (m : Int)] w fun e w' => e = .returned (.int .i64 ((m + 2 * al.length : Nat) : Int)) ∧ Below w.heap.size w w' := by
  have hlen := hA.1
  unfold maxLen at hlen
  have HA := Lib.hid hA
  have HS := Lib.hid hal
  clear hA hal
  go_enter Tryz.func31, Tryz.ntmps31
  go_wp2
  go_loopw [1, 5] (fun x i wr => ∃ (k mm : Nat) (suf : List (ByteArray × ByteArray)), x = .int .i64 (mm : Int) ∧ i = .int .i64 (k : Int) ∧ k + suf.length = al.length ∧ mm + 2 * suf.length = m + 2 * al.length ∧ 1 ≤ mm ∧ Hid (AsAt w b (o + k * 2) (markAl suf mm) ∧ Below w.heap.size w wr)) (fun x i wr => al.length - (intOf i).toNat)
  case atStart => exact ⟨0, m, al, rfl, rfl, by omega, rfl, h1, Lib.hid ⟨by simpa using HS.out, Below.refl _ _⟩⟩
  case round =>
    obtain ⟨k, mm, suf, rfl, rfl, hk, hmm, hm1, HH⟩ := hrel
    cases suf with
    | nil =>
      have hkl : k = al.length := by simpa using hk
      have hml : mm = m + 2 * al.length := by simpa using hmm
      clear hk hmm
      subst hkl
      subst hml
      go_wp2
      go_ret
      exact ⟨rfl, HH.out.2⟩
    | cons x r =>
      obtain ⟨⟨s1, s2, _, _, s5⟩, hB⟩ := HH.out
      simp only [List.length_cons] at hk hmm
      obtain ⟨rfl, hlo, hhi⟩ := HA.out.2 (by omega)
      have hkl : k < al.length := by omega
      have hb : b < w.heap.size := by omega
      have t1 := (hB.cell (p := ⟨b, o + k * 2, none⟩) hb).trans s1
      have t2 := (hB.cell (p := ⟨b, o + k * 2 + 1, none⟩) hb).trans s2
      have hbr : b < wr.heap.size := Nat.lt_of_lt_of_le hb hB.size
      have H5 := Lib.hid s5
      have HB := Lib.hid hB
      clear HH s1 s2 s5 hB
      go_wp2
      go_region_held3 (fun w' => w'.cell? ⟨b, o + k * 2, none⟩ = some (.string (markT mm)) ∧ w'.cell? ⟨b, o + k * 2 + 1, none⟩ = some (.string (markT (mm + 1)))) (first | exact And.intro u1 u2 | go_keep) (first | (go_at_call 32; refine (markText_any mm hm1 (by omega) _).mono ?_; rintro e w1 ⟨rfl, hB1⟩; have u1 := (hB1.cell (p := ⟨b, o + k * 2, none⟩) hbr).trans t1; have u2 := (hB1.cell (p := ⟨b, o + k * 2 + 1, none⟩) hbr).trans t2; have B1 := Lib.hid (HB.out.drew.trans (hB1.mono HB.out.size)); clear hB1))
      have hb1 : b < w1.heap.size := Nat.lt_of_lt_of_le hb B1.out.size
      go_wp2
      go_region_held3 (fun w' => w'.cell? ⟨b, o + k * 2 + 1, none⟩ = some (.string (markT (mm + 1)))) (first | exact u3 | go_keep) (first | (go_at_call 32; refine (markText_at (mm + 1) _ (by omega) (by omega) (by omega) _).mono ?_; rintro e w2 ⟨rfl, hB2⟩; have u3 := (hB2.cell (p := ⟨b, o + k * 2 + 1, none⟩) hb1).trans u2; have B2 := Lib.hid (B1.out.drew.trans (hB2.mono B1.out.size)); clear hB2))
      go_wp2
      go_roundw
      case rel => exact ⟨k + 1, mm + 2, r, by go_num, by go_num, by omega, by omega, by omega, Lib.hid ⟨by rw [show o + (k + 1) * 2 = o + k * 2 + 2 by omega]; exact H5.out, B2.out⟩⟩
      case measure => simp [intOf]; omega
end Go.Proofs.YtgkkmoliobhpiaaGreatDoor
namespace Go.Proofs.YtgkkmoliobhpiaaGreatDoor
open Go.ChangeShapes Go.WideShapes Go.ChangeAt Go.RowKit Go.Deep

/-- a row of attributes in blocks from lo up to hi -/
def AR (w : World) (A : Option Addr) (c : Nat) (al : List (ByteArray × ByteArray)) (ba : List Nat) (lo hi : Nat) : Prop := al.length ≤ c ∧ al.length ≤ maxLen ∧ AlRow w A al ba ∧ (∀ k ∈ ba, lo ≤ k ∧ k < hi) ∧ hi ≤ w.heap.size
theorem AOwn.ar {M : Nat} {w : World} {A : Option Addr} {c : Nat} {al : List (ByteArray × ByteArray)} (h : AOwn M w A c al) : ∃ ba, AR w A c al ba M w.heap.size := by
  obtain ⟨ba, h1, h2, h3, _, h5⟩ := h
  exact ⟨ba, h1, h2, h3, h5, Nat.le_refl _⟩
theorem AR.but {C : Nat → Prop} {w w' : World} {A : Option Addr} {c : Nat} {al : List (ByteArray × ByteArray)} {ba : List Nat} {lo hi : Nat} (h : AR w A c al ba lo hi) (hB : But C w w') (hC : ∀ k, C k → k < lo ∨ hi ≤ k) : AR w' A c al ba lo hi := by
  obtain ⟨h1, h2, h3, h4, h5⟩ := h
  exact ⟨h1, h2, h3.same fun k hk => hB.block k (by have := h4 k hk; omega) (fun c => by have := hC k c; have := h4 k hk; omega), h4, Nat.le_trans h5 hB.size⟩
theorem AR.next {w w' : World} {A : Option Addr} {c : Nat} {al : List (ByteArray × ByteArray)} {ba : List Nat} {lo hi : Nat} (h : AR w A c al ba lo hi) (hB : Below w.heap.size w w') : AR w' A c al ba lo hi := h.but (But.of_below (C := No) hB) fun _ h => h.elim
theorem AR.at {w : World} {A : Option Addr} {c : Nat} {al : List (ByteArray × ByteArray)} {ba : List Nat} {lo hi : Nat} (h : AR w A c al ba lo hi) : ∃ b, RowC lo hi A al.length c b 0 ∧ AsAt w b 0 al := by
  obtain ⟨h1, h2, h3, h4, h5⟩ := h
  rcases h3 with ⟨e1, e2⟩ | ⟨a, e1, e2, e3⟩
  · subst e1
    exact ⟨0, ⟨h1, h2, fun h => absurd h (Nat.lt_irrefl _)⟩, trivial⟩
  · subst e2
    have := h4 a (by simp)
    exact ⟨a, ⟨h1, h2, fun _ => ⟨e1, this.1, this.2⟩⟩, e3.at⟩
theorem AR.low {w : World} {A : Option Addr} {c : Nat} {al : List (ByteArray × ByteArray)} {ba : List Nat} {lo lo' hi : Nat} (h : AR w A c al ba lo hi) (hl : lo' ≤ lo) : AR w A c al ba lo' hi :=
  ⟨h.1, h.2.1, h.2.2.1, fun k hk => ⟨Nat.le_trans hl (h.2.2.2.1 k hk).1, (h.2.2.2.1 k hk).2⟩, h.2.2.2.2⟩

set_option maxHeartbeats 1000000 in
theorem markToken_any (k a l : Int) (n t : ByteArray) (al : List (ByteArray × ByteArray)) (f : Bool) (m : Nat) (w : World) (A : Option Addr) (c : Nat) (ba : List Nat) (lo hi : Nat) (h1 : 1 ≤ m) (h2 : m + 2 * al.length ≤ 1073741824) (hr : AR w A c al ba lo hi) :
    Calls Tryz.prog 14 #[.agg #[.int .i64 k, .int .i64 a, .int .i64 l, .string n, .string t, .slice A al.length c, .bool f], .int .i64 (m : Int)] w fun e w' => e = .returned (.int .i64 ((m + 2 * al.length : Nat) : Int)) ∧ AR w' A c (markAl al m) ba lo hi ∧ OnlyAt w w' ba := by
  have HR := Lib.hid hr
  clear hr
  go_enter Tryz.func14, Tryz.ntmps14
  go_wp2_with fail
  refine (markAttrS_any al m _ A c ba h1 h2 (HR.out.next ((Below.refl _ w).alloc (Nat.le_refl _) _)).2.2.1).mono ?_
  rintro e w2 ⟨rfl, hA, hO⟩
  have HA := Lib.hid hA
  have HO : Hid (OnlyAt w w2 ba) := Lib.hid ((But.of_below (C := fun k => k ∈ ba) ((Below.refl w.heap.size w).alloc (Nat.le_refl _) _)).trans hO fun _ h => Or.inl h)
  clear hA hO
  go_wp2
  go_ret
  exact ⟨rfl, ⟨by rw [markAl_len]; exact HR.out.1, by rw [markAl_len]; exact HR.out.2.1, HA.out, HR.out.2.2.2.1, Nat.le_trans HR.out.2.2.2.2 HO.out.size⟩, HO.out⟩

set_option maxHeartbeats 1000000 in
theorem heldToken_any (k a l : Int) (n t : ByteArray) (al : List (ByteArray × ByteArray)) (f : Bool) (m : Nat) (w : World) (A : Option Addr) (c : Nat) (ba : List Nat) (lo hi : Nat) (h1 : 1 ≤ m) (h2 : m + 2 * al.length ≤ 1073741824) (hr : AR w A c (markAl al m) ba lo hi) :
    Calls Tryz.prog 15 #[.agg #[.int .i64 k, .int .i64 a, .int .i64 l, .string n, .string t, .slice A al.length c, .bool f], .int .i64 (m : Int)] w fun e w' => e = .returned (.int .i64 ((m + 2 * al.length : Nat) : Int)) ∧ Below w.heap.size w w' := by
  have HR := Lib.hid hr
  have hnn : ¬ ((m + 2 * al.length : Nat) : Int) < 0 := by omega
  have hnn2 : (0 : Int) ≤ ((m + 2 * al.length : Nat) : Int) := by omega
  clear hr
  go_enter Tryz.func15, Tryz.ntmps15
  go_wp2_with fail
  have B1 : Hid (Below w.heap.size w (w.alloc (.cells #[.int .i64 k, .int .i64 a, .int .i64 l, .string n, .string t, .slice A al.length c, .bool f] 29))) := Lib.hid ((Below.refl w.heap.size w).alloc (Nat.le_refl _) _)
  obtain ⟨b, hra, haa⟩ := (HR.out.next B1.out).at
  have hl := HR.out.2.2.2.2
  rw [markAl_len] at hra
  refine (heldAttrS_any al m _ A c b 0 lo hi h1 h2 hra.2 (by simp; omega) haa).mono ?_
  rintro e w2 ⟨rfl, hB⟩
  have B2 := Lib.hid (B1.out.trans (hB.mono (by simp)))
  clear hB hra haa hl
  go_wp2
  go_ret
  exact ⟨rfl, B2.out⟩
end Go.Proofs.YtgkkmoliobhpiaaGreatDoor
