
import Derived.Test.YtbcbmgeoaejlmaaHarm5
import Derived.Test.YtbcbmgeoaejlmaaBad
namespace Go.Proofs.Ytbcbmgeoaejlmaa
open Go.ChangeShapes Go.WideShapes Go.ChangeAt Go.RowKit Go.Deep

theorem named_le {s : ByteArray} (h : namedB small tagB s = true) : s.size ≤ 12 := by
  have h : Named small tagB s := by simpa [namedB] using h
  obtain ⟨_, h, _⟩ := h
  exact h
theorem bare_harm {x : Nd} (h1 : x.n.size = 0) (h2 : x.al.length = 0) : harmNd x = false := by
  have e : x.n.toList = [] := by have := size_toList x.n; rw [h1] at this; exact List.length_eq_zero_iff.1 this
  have e1 : inL bannedL x.n = false := by rw [inL, e]; rfl
  rw [harmNd, e1, List.length_eq_zero_iff.1 h2]; rfl
def alHarm (al : List (ByteArray × ByteArray)) : Bool := al.any fun a => harmB a.1 a.2
def AlSmall (al : List (ByteArray × ByteArray)) : Prop := ∀ a ∈ al, a.1.size ≤ 12 ∧ a.2.size ≤ 40
theorem AlOK.small {al : List (ByteArray × ByteArray)} (h : AlOK al) : AlSmall al := fun a ha => by
  obtain ⟨i, hi, rfl⟩ := List.getElem_of_mem ha
  have := (h.2 i hi hi).1
  exact ⟨named_le this.1, this.2⟩

theorem lay6u {w : World} {g : Nat} {v0 v1 v2 v3 v4 v5 : Value} (h : Lay w g #[v0, v1, v2, v3, v4, v5]) : w.cell? ⟨g, 0, none⟩ = some v0 ∧ w.cell? ⟨g, 1, none⟩ = some v1 ∧ w.cell? ⟨g, 2, none⟩ = some v2 ∧ w.cell? ⟨g, 3, none⟩ = some v3 ∧ w.cell? ⟨g, 4, none⟩ = some v4 ∧ w.cell? ⟨g, 5, none⟩ = some v5 :=
  ⟨h.1 0, h.1 1, h.1 2, h.1 3, h.1 4, h.1 5⟩
/-- a node's box, made at w -/
def NdBox (w W : World) (x : Nd) (A A5 : Option Addr) (c n5 c5 : Nat) : Prop := Lay W w.heap.size #[.int .i64 x.k, .int .i64 x.sp, .string x.n, .string x.t, .slice A x.al.length c, .slice A5 n5 c5] ∧ Below w.heap.size w W ∧ w.heap.size < W.heap.size
theorem NdBox.next {w W W' : World} {x : Nd} {A A5 : Option Addr} {c n5 c5 : Nat} (h : NdBox w W x A A5 c n5 c5) (hB : Below W.heap.size W W') : NdBox w W' x A A5 c n5 c5 :=
  ⟨h.1.below hB h.2.2, h.2.1.trans (hB.mono h.2.1.size), Nat.lt_of_lt_of_le h.2.2 hB.size⟩
theorem NdBox.new (w : World) (x : Nd) (A A5 : Option Addr) (c n5 c5 : Nat) (t : TypeId) : NdBox w (w.alloc (.cells #[.int .i64 x.k, .int .i64 x.sp, .string x.n, .string x.t, .slice A x.al.length c, .slice A5 n5 c5] t)) x A A5 c n5 c5 := ⟨Lay.new _ _ _, (Below.refl _ _).alloc (Nat.le_refl _) _, by simp⟩

set_option maxHeartbeats 2000000 in
theorem l08Harm_any (x : Nd) (hx : NodeIs x) (w : World) (A A5 : Option Addr) (c n5 c5 b o lo hi : Nat) (hA : RowAt lo hi A x.al.length b o) (hh : hi ≤ w.heap.size) (hal : AsAt w b o x.al) (hn : x.n.size ≤ maxLen) :
    Calls Try.prog 148 #[.agg #[.int .i64 x.k, .int .i64 x.sp, .string x.n, .string x.t, .slice A x.al.length c, .slice A5 n5 c5]] w fun e w' => e = .returned (.bool (harmNd x)) ∧ Below w.heap.size w w' := by
  obtain ⟨k, sp, n, t, al⟩ := x
  by_cases hk : k = 1
  · subst hk
    have hsm : AlSmall al := by
      rcases hx with h | h | h
      · exact h.2.2.2.2.2.small
      · exact absurd h.1 (by simp)
      · exact absurd h.1 (by simp)
    have hlen := hA.1
    unfold maxLen at hlen
    simp only at hlen hA hal hn ⊢
    have HA := Lib.hid hA
    have HS := Lib.hid (And.intro hal hsm)
    have HN := Lib.hid hn
    have HM : Hid (harmNd ⟨1, sp, n, t, al⟩ = (inL bannedL n || alHarm al)) := Lib.hid rfl
    have HX := Lib.hid (NdBox.new w ⟨1, sp, n, t, al⟩ A A5 c n5 c5 68)
    obtain ⟨p0, p1, p2, p3, p4, p5⟩ := lay6u HX.out.1
    clear hA hal hsm hx hn
    go_enter Try.func148, Try.ntmps148
    go_wp2
    go_loopw [3] (fun i wr => ∃ (k : Nat) (suf : List (ByteArray × ByteArray)), i = .int .i64 (k : Int) ∧ k + suf.length = al.length ∧ Hid (NdBox w wr ⟨1, sp, n, t, al⟩ A A5 c n5 c5 ∧ AsAt w b (o + k * 2) suf ∧ alHarm al = alHarm suf ∧ AlSmall suf)) (fun i wr => al.length - (intOf i).toNat)
    case atStart => exact ⟨0, al, rfl, by omega, Lib.hid ⟨HX.out, by simpa using HS.out.1, rfl, HS.out.2⟩⟩
    case round =>
      clear p0 p1 p2 p3 p4 p5 HX
      obtain ⟨k, suf, rfl, hk, HH⟩ := hrel
      have HX := Lib.hid HH.out.1
      obtain ⟨p0, p1, p2, p3, p4, p5⟩ := lay6u HX.out.1
      cases suf with
      | nil =>
        have hkl : k = al.length := by simpa using hk
        have HE := Lib.hid HH.out.2.2.1
        clear hk HH
        subst hkl
        go_wp2_with fail
        refine (l01Banned_any n _).mono ?_
        rintro e w1 ⟨rfl, hB⟩
        have HX := Lib.hid (HX.out.next hB)
        clear hB p0 p1 p2 p3 p4 p5
        go_wp2
        go_ret
        exact ⟨by rw [HM.out, HE.out]; simp [alHarm], HX.out.2.1⟩
      | cons a r =>
        obtain ⟨_, ⟨s1, s2, s3, s4, s5⟩, he, hsm⟩ := HH.out
        obtain ⟨rfl, hlo, hhi⟩ := HA.out.2 (by simp at hk; omega)
        have t1 := (HX.out.2.1.cell (p := ⟨b, o + k * 2, none⟩) (by show b < _; omega)).trans s1
        have t2 := (HX.out.2.1.cell (p := ⟨b, o + k * 2 + 1, none⟩) (by show b < _; omega)).trans s2
        have H5 := Lib.hid (And.intro s5 (fun y hy => hsm y (by simp [hy]) : AlSmall r))
        have HE := Lib.hid he
        obtain ⟨z1, z2⟩ := hsm a (by simp)
        simp at hk
        clear HH s5 he hsm
        cases hq : handlerB a.1 with
        | true =>
          have HQ := Lib.hid hq
          have HV : Hid (harmB a.1 a.2 = true) := Lib.hid (by rw [harmB, hq]; rfl)
          clear hq
          go_wp2_with fail
          refine (l01Handler_any a.1 _ (by omega)).mono ?_
          rintro e w1 ⟨rfl, rfl⟩
          rw [HQ.out]
          go_wp2
          go_ret
          exact ⟨by rw [HM.out, HE.out, alHarm, List.any_cons, HV.out]; simp, HX.out.2.1⟩
        | false =>
          have HQ := Lib.hid hq
          cases hz : inL linkL a.1 with
          | false =>
            have HZ := Lib.hid hz
            have HV : Hid (harmB a.1 a.2 = false) := Lib.hid (by rw [harmB, hq, hz]; rfl)
            clear hq hz
            go_wp2_with fail
            refine (l01Handler_any a.1 _ (by omega)).mono ?_
            rintro e w1 ⟨rfl, rfl⟩
            rw [HQ.out]
            go_wp2_with fail
            refine (l01Link_any a.1 _).mono ?_
            rintro e w1 ⟨rfl, hB⟩
            rw [HZ.out]
            have HX := Lib.hid (HX.out.next hB)
            clear hB p0 p1 p2 p3 p4 p5 t1 t2
            obtain ⟨p0, p1, p2, p3, p4, p5⟩ := lay6u HX.out.1
            have t1 := (HX.out.2.1.cell (p := ⟨b, o + k * 2, none⟩) (by show b < _; omega)).trans s1
            have t2 := (HX.out.2.1.cell (p := ⟨b, o + k * 2 + 1, none⟩) (by show b < _; omega)).trans s2
            go_wp2
            go_roundw
            case rel => exact ⟨k + 1, r, by go_num, by omega, Lib.hid ⟨HX.out, by rw [show o + (k + 1) * 2 = o + k * 2 + 2 by omega]; exact H5.out.1, by rw [HE.out, alHarm, List.any_cons, HV.out]; simp [alHarm], H5.out.2⟩⟩
            case measure => simp [intOf]; omega
          | true =>
            have HZ := Lib.hid hz
            cases hw : badL a.2.data.toList 0 with
            | true =>
              have HW := Lib.hid hw
              have HV : Hid (harmB a.1 a.2 = true) := Lib.hid (by rw [harmB, hq, hz, badB, hw, decide_eq_true (by omega)]; rfl)
              clear hq hz hw
              go_wp2_with fail
              refine (l01Handler_any a.1 _ (by omega)).mono ?_
              rintro e w1 ⟨rfl, rfl⟩
              rw [HQ.out]
              go_wp2_with fail
              refine (l01Link_any a.1 _).mono ?_
              rintro e w1 ⟨rfl, hB⟩
              rw [HZ.out]
              have HX := Lib.hid (HX.out.next hB)
              clear hB p0 p1 p2 p3 p4 p5 t1 t2
              obtain ⟨p0, p1, p2, p3, p4, p5⟩ := lay6u HX.out.1
              have t1 := (HX.out.2.1.cell (p := ⟨b, o + k * 2, none⟩) (by show b < _; omega)).trans s1
              have t2 := (HX.out.2.1.cell (p := ⟨b, o + k * 2 + 1, none⟩) (by show b < _; omega)).trans s2
              go_wp2_with fail
              refine (l01Bad_any a.2 _ (by unfold maxLen; omega)).mono ?_
              rintro e w1 ⟨rfl, rfl⟩
              rw [HW.out]
              go_wp2
              go_ret
              exact ⟨by rw [HM.out, HE.out, alHarm, List.any_cons, HV.out]; simp, HX.out.2.1⟩
            | false =>
              have HW := Lib.hid hw
              have HV : Hid (harmB a.1 a.2 = false) := Lib.hid (by rw [harmB, hq, hz, badB, hw]; simp)
              clear hq hz hw
              go_wp2_with fail
              refine (l01Handler_any a.1 _ (by omega)).mono ?_
              rintro e w1 ⟨rfl, rfl⟩
              rw [HQ.out]
              go_wp2_with fail
              refine (l01Link_any a.1 _).mono ?_
              rintro e w1 ⟨rfl, hB⟩
              rw [HZ.out]
              have HX := Lib.hid (HX.out.next hB)
              clear hB p0 p1 p2 p3 p4 p5 t1 t2
              obtain ⟨p0, p1, p2, p3, p4, p5⟩ := lay6u HX.out.1
              have t1 := (HX.out.2.1.cell (p := ⟨b, o + k * 2, none⟩) (by show b < _; omega)).trans s1
              have t2 := (HX.out.2.1.cell (p := ⟨b, o + k * 2 + 1, none⟩) (by show b < _; omega)).trans s2
              go_wp2_with fail
              refine (l01Bad_any a.2 _ (by unfold maxLen; omega)).mono ?_
              rintro e w1 ⟨rfl, rfl⟩
              rw [HW.out]
              go_wp2
              go_roundw
              case rel => exact ⟨k + 1, r, by go_num, by omega, Lib.hid ⟨HX.out, by rw [show o + (k + 1) * 2 = o + k * 2 + 2 by omega]; exact H5.out.1, by rw [HE.out, alHarm, List.any_cons, HV.out]; simp [alHarm], H5.out.2⟩⟩
              case measure => simp [intOf]; omega
  · have hb : harmNd ⟨k, sp, n, t, al⟩ = false := by
      rcases hx with h | h | h
      · exact absurd h.1 hk
      · exact bare_harm h.2.2.2.2.1 h.2.2.2.2.2
      · exact bare_harm h.2.2.2.1 h.2.2.2.2
    have HM := Lib.hid hb
    have hk' : (k != 1) = true := by simpa using hk
    have HX := Lib.hid (NdBox.new w ⟨k, sp, n, t, al⟩ A A5 c n5 c5 68)
    obtain ⟨p0, p1, p2, p3, p4, p5⟩ := lay6u HX.out.1
    clear hb hx hA hal hn hk
    go_enter Try.func148, Try.ntmps148
    go_wp2
    go_ret
    exact ⟨by rw [HM.out]; try rfl, HX.out.2.1⟩
end Go.Proofs.Ytbcbmgeoaejlmaa
