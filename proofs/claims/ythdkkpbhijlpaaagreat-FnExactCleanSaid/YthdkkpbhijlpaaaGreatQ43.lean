import Derived.Test.YthdkkpbhijlpaaaGreatQ42
import Derived.Test.YthdkkpbhijlpaaaGreatQ38
import Derived.Test.YthdkkpbhijlpaaaGreatQ07
set_option linter.unusedVariables false
namespace Go.Proofs.YthdkkpbhijlpaaaGreat
open Go.ChangeShapes Go.WideShapes Go.ChangeAt Go.RowKit Go.Deep

theorem isHarm_fn (lo hi : Nat) : NdFn Tryz.prog 158 #[] (fun x _ => harmNd x) lo hi :=
  fun x _ b o W h _ hb hh => isHarm_any x b o lo hi W h hb hh
/-- the path of the first harm, and the code beside it -/
noncomputable def hpath (F : Fo) : List Int := if faultOf F = 0 then (match firstF (fun x _ => harmNd x) F [] 0 with | some ch => placesOf ch | none => []) else []
noncomputable def hcode (F : Fo) : Int := if faultOf F = 0 then (if (firstF (fun x _ => harmNd x) F [] 0).isSome = true then 0 else 5) else faultOf F
set_option maxHeartbeats 1000000 in
theorem implFirstHarm_any (F : Fo) (w : World) (A : Option Addr) (c b o lo hi : Nat) (hd : F.nodes ≤ 1048576) (hh : hi ≤ w.heap.size) (hA : RowAt lo hi A F.len b o) (hF : FoAt w lo hi b o F) :
    Calls Tryz.prog 97 #[.slice A F.len c] w fun e w' => ∃ v, e = .returned (.tuple #[v, .int .i64 (hcode F)]) ∧ IRow w' w.heap.size v (hpath F) ∧ Below w.heap.size w w' := by
  have hmf : ∀ (fn : Fn) (first cap : Array Value) (w : World), (Instr.makeFunc fn first cap).run Tryz.prog w = .ok (.func fn first cap) w := fun _ _ _ _ => rfl
  have HA := Lib.hid hA
  have HF := Lib.hid hF
  clear hA hF
  by_cases hk : faultOf F = 0
  · have HK := Lib.hid hk
    cases hfirst : firstF (fun x _ => harmNd x) F [] 0 with
    | none =>
      have HP : Hid (hpath F = [] ∧ hcode F = 5) := Lib.hid ⟨by rw [hpath, if_pos hk, hfirst], by rw [hcode, if_pos hk, hfirst]; rfl⟩
      have HR := Lib.hid hfirst
      clear hk hfirst
      go_enter Tryz.func97, Tryz.ntmps97
      go_wp2_with (go_at_call 38; refine (treeFault_any F _ A c b o lo hi hd hh HA.out HF.out).mono ?_; rintro e w1 ⟨rfl, hB⟩; rw [HK.out]; have B1 := Lib.hid hB; clear hB)
      refine (firstSpot_any 158 #[] (fun x _ => harmNd x) lo hi (enters_of Tryz.func158 (by kernel_rfl) rfl) (isHarm_fn lo hi) F _ A c b o hd (Nat.le_trans hh B1.out.size) HA.out (HF.out.but HA.out (But.of_below (C := No) B1.out) hh (fun _ h => h.elim))).mono ?_
      rintro e w2 ⟨q, D, rfl, hB, hfi⟩
      rw [HR.out] at hfi
      have hfi : q = none := hfi
      subst hfi
      have B2 := Lib.hid (B1.out.trans (hB.mono B1.out.size))
      clear hB
      go_wp2
      go_ret2
      exact ⟨_, by rw [HP.out.2]; rfl, by rw [HP.out.1]; exact IRow.nilRow _ _, B2.out⟩
    | some ch =>
      have HP : Hid (hpath F = placesOf ch ∧ hcode F = 0) := Lib.hid ⟨by rw [hpath, if_pos hk, hfirst], by rw [hcode, if_pos hk, hfirst]; rfl⟩
      have hlen := firstF_len (fun x _ => harmNd x) F [] 0 ch hfirst
      have hdp := Fo.deep_le F
      have HR := Lib.hid (And.intro hfirst (show ch.length ≤ 1048576 by have := hlen.2; simp at this; omega))
      clear hk hfirst hlen hdp
      go_enter Tryz.func97, Tryz.ntmps97
      go_wp2_with (go_at_call 38; refine (treeFault_any F _ A c b o lo hi hd hh HA.out HF.out).mono ?_; rintro e w1 ⟨rfl, hB⟩; rw [HK.out]; have B1 := Lib.hid hB; clear hB)
      refine (firstSpot_any 158 #[] (fun x _ => harmNd x) lo hi (enters_of Tryz.func158 (by kernel_rfl) rfl) (isHarm_fn lo hi) F _ A c b o hd (Nat.le_trans hh B1.out.size) HA.out (HF.out.but HA.out (But.of_below (C := No) B1.out) hh (fun _ h => h.elim))).mono ?_
      rintro e w2 ⟨q, D, rfl, hB, hfi⟩
      rw [HR.out.1] at hfi
      obtain ⟨hne, hsp⟩ := hfi
      have B2 := Lib.hid (B1.out.trans (hB.mono B1.out.size))
      clear hB
      have HS := Lib.hid hsp
      obtain ⟨x, r, rfl⟩ : ∃ x r, ch = x :: r := by cases ch with | nil => exact absurd rfl hne | cons x r => exact ⟨x, r, rfl⟩
      obtain ⟨gb, _, _, _, rfl, _⟩ := hsp
      clear hne
      go_wp2_with fail
      refine (path_any lo hi (x :: r) _ w2 (Nat.le_trans hh B2.out.size) HR.out.2 HS.out.no).mono ?_
      rintro e w3 ⟨v, rfl, hN, hB⟩
      have B3 := Lib.hid (And.intro (IRow.mono hN B2.out.size) (B2.out.trans (hB.mono B2.out.size)))
      clear hN hB
      go_wp2
      go_ret2
      exact ⟨_, by rw [HP.out.2]; rfl, by rw [HP.out.1]; exact B3.out.1, B3.out.2⟩
  · have HP : Hid (hpath F = [] ∧ hcode F = faultOf F) := Lib.hid ⟨by rw [hpath, if_neg hk], by rw [hcode, if_neg hk]⟩
    have hk' : (faultOf F != 0) = true := by simpa using hk
    clear hk
    go_enter Tryz.func97, Tryz.ntmps97
    go_wp2_with (go_at_call 38; refine (treeFault_any F _ A c b o lo hi hd hh HA.out HF.out).mono ?_; rintro e w1 ⟨rfl, hB⟩; have B1 := Lib.hid hB; clear hB)
    go_ret2
    exact ⟨_, by rw [HP.out.2]; rfl, by rw [HP.out.1]; exact IRow.nilRow _ _, B1.out⟩
noncomputable def harmlessB (F : Fo) : Bool := hcode F == 5
theorem implHarmless_any (F : Fo) (w : World) (A : Option Addr) (c b o lo hi : Nat) (hd : F.nodes ≤ 1048576) (hh : hi ≤ w.heap.size) (hA : RowAt lo hi A F.len b o) (hF : FoAt w lo hi b o F) :
    Calls Tryz.prog 51 #[.slice A F.len c] w fun e w' => e = .returned (.bool (harmlessB F)) ∧ Below w.heap.size w w' := by
  have HA := Lib.hid hA
  have HF := Lib.hid hF
  clear hA hF
  go_enter Tryz.func51, Tryz.ntmps51
  go_wp2_with (go_at_call 97; refine (implFirstHarm_any F _ A c b o lo hi hd hh HA.out HF.out).mono ?_; rintro e w1 ⟨v, rfl, _, hB⟩; have B1 := Lib.hid hB; clear hB)
  go_ret
  exact ⟨ret_bool rfl, B1.out⟩
end Go.Proofs.YthdkkpbhijlpaaaGreat
namespace Go.Proofs.YthdkkpbhijlpaaaGreat
open Go.ChangeShapes Go.WideShapes Go.ChangeAt Go.RowKit Go.Deep

theorem named_le {s : ByteArray} (h : namedB small tagB s = true) : s.size ≤ 12 := by
  have h : Named small tagB s := by simpa [namedB] using h
  obtain ⟨_, h, _⟩ := h
  exact h
theorem bare_harm {x : Nd} (h1 : x.n.size = 0) (h2 : x.al.length = 0) : harmNd x = false := by
  have e : x.n.toList = [] := by have := size_toList x.n; rw [h1] at this; exact List.length_eq_zero_iff.1 this
  have e1 : inL bannedL x.n = false := by rw [inL, e]; rfl
  rw [harmNd, e1, List.length_eq_zero_iff.1 h2]; rfl
def alHarm (al : List (ByteArray × ByteArray)) : Bool := al.any fun a => harmB a.1 a.2
def AlSmall (al : List (ByteArray × ByteArray)) : Prop := ∀ a ∈ al, a.1.size ≤ 12 ∧ a.2.size ≤ 40
theorem AlOK.small {al : List (ByteArray × ByteArray)} (h : AlOK al) : AlSmall al := fun a ha => by
  obtain ⟨i, hi, rfl⟩ := List.getElem_of_mem ha
  have := (h.2 i hi hi).1
  exact ⟨named_le this.1, this.2⟩
theorem lay6u {w : World} {g : Nat} {v0 v1 v2 v3 v4 v5 : Value} (h : Lay w g #[v0, v1, v2, v3, v4, v5]) : w.cell? ⟨g, 0, none⟩ = some v0 ∧ w.cell? ⟨g, 1, none⟩ = some v1 ∧ w.cell? ⟨g, 2, none⟩ = some v2 ∧ w.cell? ⟨g, 3, none⟩ = some v3 ∧ w.cell? ⟨g, 4, none⟩ = some v4 ∧ w.cell? ⟨g, 5, none⟩ = some v5 :=
  ⟨h.1 0, h.1 1, h.1 2, h.1 3, h.1 4, h.1 5⟩
/-- a node's box, made at w -/
def NdBox (w W : World) (x : Nd) (A A5 : Option Addr) (c n5 c5 : Nat) : Prop := Lay W w.heap.size #[.int .i64 x.k, .int .i64 x.sp, .string x.n, .string x.t, .slice A x.al.length c, .slice A5 n5 c5] ∧ Below w.heap.size w W ∧ w.heap.size < W.heap.size
theorem NdBox.next {w W W' : World} {x : Nd} {A A5 : Option Addr} {c n5 c5 : Nat} (h : NdBox w W x A A5 c n5 c5) (hB : Below W.heap.size W W') : NdBox w W' x A A5 c n5 c5 :=
  ⟨h.1.below hB h.2.2, h.2.1.trans (hB.mono h.2.1.size), Nat.lt_of_lt_of_le h.2.2 hB.size⟩
theorem NdBox.new (w : World) (x : Nd) (A A5 : Option Addr) (c n5 c5 : Nat) (t : TypeId) : NdBox w (w.alloc (.cells #[.int .i64 x.k, .int .i64 x.sp, .string x.n, .string x.t, .slice A x.al.length c, .slice A5 n5 c5] t)) x A A5 c n5 c5 := ⟨Lay.new _ _ _, (Below.refl _ _).alloc (Nat.le_refl _) _, by simp⟩
set_option maxHeartbeats 2000000 in
theorem l08Harm_any (x : Nd) (hx : NodeIs x) (w : World) (A A5 : Option Addr) (c n5 c5 b o lo hi : Nat) (hA : RowAt lo hi A x.al.length b o) (hh : hi ≤ w.heap.size) (hal : AsAt w b o x.al) (hn : x.n.size ≤ maxLen) :
    Calls Tryz.prog 94 #[.agg #[.int .i64 x.k, .int .i64 x.sp, .string x.n, .string x.t, .slice A x.al.length c, .slice A5 n5 c5]] w fun e w' => e = .returned (.bool (harmNd x)) ∧ Below w.heap.size w w' := by
  obtain ⟨k, sp, n, t, al⟩ := x
  by_cases hk : k = 1
  · subst hk
    have hsm : AlSmall al := by
      rcases hx with h | h | h
      · exact h.2.2.2.2.2.small
      · exact absurd h.1 (by simp)
      · exact absurd h.1 (by simp)
    have hlen := hA.1
    unfold maxLen at hlen
    simp only at hlen hA hal hn ⊢
    have HA := Lib.hid hA
    have HS := Lib.hid (And.intro hal hsm)
    have HN := Lib.hid hn
    have HM : Hid (harmNd ⟨1, sp, n, t, al⟩ = (inL bannedL n || alHarm al)) := Lib.hid rfl
    have HX := Lib.hid (NdBox.new w ⟨1, sp, n, t, al⟩ A A5 c n5 c5 71)
    obtain ⟨p0, p1, p2, p3, p4, p5⟩ := lay6u HX.out.1
    clear hA hal hsm hx hn
    go_enter Tryz.func94, Tryz.ntmps94
    go_wp2
    go_loopw [3] (fun i wr => ∃ (k : Nat) (suf : List (ByteArray × ByteArray)), i = .int .i64 (k : Int) ∧ k + suf.length = al.length ∧ Hid (NdBox w wr ⟨1, sp, n, t, al⟩ A A5 c n5 c5 ∧ AsAt w b (o + k * 2) suf ∧ alHarm al = alHarm suf ∧ AlSmall suf)) (fun i wr => al.length - (intOf i).toNat)
    case atStart => exact ⟨0, al, rfl, by omega, Lib.hid ⟨HX.out, by simpa using HS.out.1, rfl, HS.out.2⟩⟩
    case round =>
      clear p0 p1 p2 p3 p4 p5 HX
      obtain ⟨k, suf, rfl, hk, HH⟩ := hrel
      have HX := Lib.hid HH.out.1
      obtain ⟨p0, p1, p2, p3, p4, p5⟩ := lay6u HX.out.1
      cases suf with
      | nil =>
        have hkl : k = al.length := by simpa using hk
        have HE := Lib.hid HH.out.2.2.1
        clear hk HH
        subst hkl
        go_wp2_with fail
        refine (l01Banned_any n _).mono ?_
        rintro e w1 ⟨rfl, hB⟩
        have HX := Lib.hid (HX.out.next hB)
        clear hB p0 p1 p2 p3 p4 p5
        go_wp2
        go_ret
        exact ⟨by rw [HM.out, HE.out]; simp [alHarm], HX.out.2.1⟩
      | cons a r =>
        obtain ⟨_, ⟨s1, s2, s3, s4, s5⟩, he, hsm⟩ := HH.out
        obtain ⟨rfl, hlo, hhi⟩ := HA.out.2 (by simp at hk; omega)
        have t1 := (HX.out.2.1.cell (p := ⟨b, o + k * 2, none⟩) (by show b < _; omega)).trans s1
        have t2 := (HX.out.2.1.cell (p := ⟨b, o + k * 2 + 1, none⟩) (by show b < _; omega)).trans s2
        have H5 := Lib.hid (And.intro s5 (fun y hy => hsm y (by simp [hy]) : AlSmall r))
        have HE := Lib.hid he
        obtain ⟨z1, z2⟩ := hsm a (by simp)
        simp at hk
        clear HH s5 he hsm
        cases hq : handlerB a.1 with
        | true =>
          have HQ := Lib.hid hq
          have HV : Hid (harmB a.1 a.2 = true) := Lib.hid (by rw [harmB, hq]; rfl)
          clear hq
          go_wp2_with fail
          refine (l01Handler_any a.1 _ (by omega)).mono ?_
          rintro e w1 ⟨rfl, rfl⟩
          rw [HQ.out]
          go_wp2
          go_ret
          exact ⟨by rw [HM.out, HE.out, alHarm, List.any_cons, HV.out]; simp, HX.out.2.1⟩
        | false =>
          have HQ := Lib.hid hq
          cases hz : inL linkL a.1 with
          | false =>
            have HZ := Lib.hid hz
            have HV : Hid (harmB a.1 a.2 = false) := Lib.hid (by rw [harmB, hq, hz]; rfl)
            clear hq hz
            go_wp2_with fail
            refine (l01Handler_any a.1 _ (by omega)).mono ?_
            rintro e w1 ⟨rfl, rfl⟩
            rw [HQ.out]
            go_wp2_with fail
            refine (l01Link_any a.1 _).mono ?_
            rintro e w1 ⟨rfl, hB⟩
            rw [HZ.out]
            have HX := Lib.hid (HX.out.next hB)
            clear hB p0 p1 p2 p3 p4 p5 t1 t2
            obtain ⟨p0, p1, p2, p3, p4, p5⟩ := lay6u HX.out.1
            have t1 := (HX.out.2.1.cell (p := ⟨b, o + k * 2, none⟩) (by show b < _; omega)).trans s1
            have t2 := (HX.out.2.1.cell (p := ⟨b, o + k * 2 + 1, none⟩) (by show b < _; omega)).trans s2
            go_wp2
            go_roundw
            case rel => exact ⟨k + 1, r, by go_num, by omega, Lib.hid ⟨HX.out, by rw [show o + (k + 1) * 2 = o + k * 2 + 2 by omega]; exact H5.out.1, by rw [HE.out, alHarm, List.any_cons, HV.out]; simp [alHarm], H5.out.2⟩⟩
            case measure => simp [intOf]; omega
          | true =>
            have HZ := Lib.hid hz
            cases hw : badL a.2.data.toList 0 with
            | true =>
              have HW := Lib.hid hw
              have HV : Hid (harmB a.1 a.2 = true) := Lib.hid (by rw [harmB, hq, hz, badB, hw, decide_eq_true (by omega)]; rfl)
              clear hq hz hw
              go_wp2_with fail
              refine (l01Handler_any a.1 _ (by omega)).mono ?_
              rintro e w1 ⟨rfl, rfl⟩
              rw [HQ.out]
              go_wp2_with fail
              refine (l01Link_any a.1 _).mono ?_
              rintro e w1 ⟨rfl, hB⟩
              rw [HZ.out]
              have HX := Lib.hid (HX.out.next hB)
              clear hB p0 p1 p2 p3 p4 p5 t1 t2
              obtain ⟨p0, p1, p2, p3, p4, p5⟩ := lay6u HX.out.1
              have t1 := (HX.out.2.1.cell (p := ⟨b, o + k * 2, none⟩) (by show b < _; omega)).trans s1
              have t2 := (HX.out.2.1.cell (p := ⟨b, o + k * 2 + 1, none⟩) (by show b < _; omega)).trans s2
              go_wp2_with fail
              refine (l01Bad_any a.2 _ (by unfold maxLen; omega)).mono ?_
              rintro e w1 ⟨rfl, rfl⟩
              rw [HW.out]
              go_wp2
              go_ret
              exact ⟨by rw [HM.out, HE.out, alHarm, List.any_cons, HV.out]; simp, HX.out.2.1⟩
            | false =>
              have HW := Lib.hid hw
              have HV : Hid (harmB a.1 a.2 = false) := Lib.hid (by rw [harmB, hq, hz, badB, hw]; simp)
              clear hq hz hw
              go_wp2_with fail
              refine (l01Handler_any a.1 _ (by omega)).mono ?_
              rintro e w1 ⟨rfl, rfl⟩
              rw [HQ.out]
              go_wp2_with fail
              refine (l01Link_any a.1 _).mono ?_
              rintro e w1 ⟨rfl, hB⟩
              rw [HZ.out]
              have HX := Lib.hid (HX.out.next hB)
              clear hB p0 p1 p2 p3 p4 p5 t1 t2
              obtain ⟨p0, p1, p2, p3, p4, p5⟩ := lay6u HX.out.1
              have t1 := (HX.out.2.1.cell (p := ⟨b, o + k * 2, none⟩) (by show b < _; omega)).trans s1
              have t2 := (HX.out.2.1.cell (p := ⟨b, o + k * 2 + 1, none⟩) (by show b < _; omega)).trans s2
              go_wp2_with fail
              refine (l01Bad_any a.2 _ (by unfold maxLen; omega)).mono ?_
              rintro e w1 ⟨rfl, rfl⟩
              rw [HW.out]
              go_wp2
              go_roundw
              case rel => exact ⟨k + 1, r, by go_num, by omega, Lib.hid ⟨HX.out, by rw [show o + (k + 1) * 2 = o + k * 2 + 2 by omega]; exact H5.out.1, by rw [HE.out, alHarm, List.any_cons, HV.out]; simp [alHarm], H5.out.2⟩⟩
              case measure => simp [intOf]; omega
  · have hb : harmNd ⟨k, sp, n, t, al⟩ = false := by
      rcases hx with h | h | h
      · exact absurd h.1 hk
      · exact bare_harm h.2.2.2.2.1 h.2.2.2.2.2
      · exact bare_harm h.2.2.2.1 h.2.2.2.2
    have HM := Lib.hid hb
    have hk' : (k != 1) = true := by simpa using hk
    have HX := Lib.hid (NdBox.new w ⟨k, sp, n, t, al⟩ A A5 c n5 c5 71)
    obtain ⟨p0, p1, p2, p3, p4, p5⟩ := lay6u HX.out.1
    clear hb hx hA hal hn hk
    go_enter Tryz.func94, Tryz.ntmps94
    go_wp2
    go_ret
    exact ⟨by rw [HM.out]; try rfl, HX.out.2.1⟩
end Go.Proofs.YthdkkpbhijlpaaaGreat
namespace Go.Proofs.YthdkkpbhijlpaaaGreat
open Go.ChangeShapes Go.WideShapes Go.ChangeAt Go.RowKit Go.Deep

def anyF (p : Nd → Fo → Bool) : Fo → Bool
  | .nil => false
  | .cons k sp n t al kids rest => p ⟨k, sp, n, t, al⟩ kids || anyF p kids || anyF p rest
theorem firstF_any (p : Nd → Fo → Bool) : ∀ (F : Fo) (ch : List NP) (j : Nat), (firstF p F ch j).isSome = anyF p F
  | .nil, _, _ => rfl
  | .cons k sp n t al kids rest, ch, j => by
    rw [firstF, anyF]
    by_cases hp : p ⟨k, sp, n, t, al⟩ kids = true
    · simp [hp]
    · have h1 := firstF_any p kids ((⟨k, sp, n, t, al⟩, j, kids) :: ch) 0
      have h2 := firstF_any p rest ch (j + 1)
      have hp' : p ⟨k, sp, n, t, al⟩ kids = false := by simpa using hp
      rw [if_neg hp, hp', ← h1, ← h2]
      cases firstF p kids ((⟨k, sp, n, t, al⟩, j, kids) :: ch) 0 with
      | some c => simp
      | none => simp
theorem good_fine {F : Fo} (h : goodB F = true) : SFine F := by
  have : Good F := by simpa [goodB] using h
  exact ((good_at F).1 this).2.2
theorem harmless_is (F : Fo) : harmlessB F = (goodB F && !anyF (fun x _ => harmNd x) F) := by
  unfold harmlessB hcode
  rw [firstF_any]
  cases hg : goodB F with
  | true =>
    rw [if_pos (fault_ok (good_len hg) hg)]
    cases anyF (fun x _ => harmNd x) F <;> rfl
  | false =>
    by_cases hl : F.len ≤ 4096
    · rw [fault_bad hl hg]; rfl
    · rw [fault_long hl]; rfl
end Go.Proofs.YthdkkpbhijlpaaaGreat
