
import Derived.Test.YtbcbmgeoaejlmaaAttrs
import Derived.Shelf.Abstract
namespace Go.Proofs.Ytbcbmgeoaejlmaa
open Go.ChangeShapes Go.WideShapes Go.ChangeAt Go.RowKit Go.Deep

/-- what a function over attributes answers -/
def AtFn (P : Program) (g : Nat) (first cap : Array Value) (p : ByteArray × ByteArray → Bool) (w : World) : Prop :=
  ∀ (x : ByteArray × ByteArray) (W : World), Below w.heap.size w W → x.1.size ≤ maxLen → x.2.size ≤ maxLen →
    Calls P g (first ++ #[.agg #[.string x.1, .string x.2]] ++ cap) W fun e w' => e = .returned (.bool (p x)) ∧ Below W.heap.size W w'

theorem atIndexFunc_any (g : Nat) (first cap : Array Value) (p : ByteArray × ByteArray → Bool) (eg : ∀ args w, (callFunc g args).run Try.prog w = .ok (.enter g args) w) (al : List (ByteArray × ByteArray)) (w : World) (A : Option Addr) (c b o lo hi : Nat) (hA : RowAt lo hi A al.length b o) (hh : hi ≤ w.heap.size) (hal : AsAt w b o al) (hf : AtFn Try.prog g first cap p w) :
    Calls Try.prog 185 #[.slice A al.length c, .func (.func g) first cap] w fun e w' => ∃ k : Int, e = .returned (.int .i64 k) ∧ decide (0 ≤ k) = al.any p ∧ Below w.heap.size w w' := by
  have hlen := hA.1
  unfold maxLen at hlen
  have HA := Lib.hid hA
  have HS := Lib.hid hal
  have HF := Lib.hid hf
  clear hA hal hf
  go_enter Try.func185, Try.ntmps185
  go_wp2
  go_loopw [8] (fun i wr => ∃ (k : Nat) (suf : List (ByteArray × ByteArray)), i = .int .i64 (k : Int) ∧ k + suf.length = al.length ∧ Hid (AsAt w b (o + k * 2) suf ∧ Below w.heap.size w wr ∧ al.any p = suf.any p)) (fun i wr => al.length - (intOf i).toNat)
  case atStart => exact ⟨0, al, rfl, by omega, Lib.hid ⟨by simpa using HS.out, Below.refl _ _, rfl⟩⟩
  case round =>
    obtain ⟨k, suf, rfl, hk, HH⟩ := hrel
    cases suf with
    | nil =>
      have hkl : k = al.length := by simpa using hk
      clear hk
      subst hkl
      go_wp2
      go_ret
      exact ⟨-1, rfl, by rw [HH.out.2.2]; rfl, HH.out.2.1⟩
    | cons x r =>
      obtain ⟨⟨s1, s2, s3, s4, s5⟩, hB2, he⟩ := HH.out
      obtain ⟨rfl, hlo, hhi⟩ := HA.out.2 (by simp at hk; omega)
      have t1 := (hB2.cell (p := ⟨b, o + k * 2, none⟩) (by show b < _; omega)).trans s1
      have t2 := (hB2.cell (p := ⟨b, o + k * 2 + 1, none⟩) (by show b < _; omega)).trans s2
      have hc := HF.out x wr hB2 s3 s4
      have H5 := Lib.hid s5
      have HB := Lib.hid hB2
      have HE := Lib.hid he
      simp at hk
      clear HH s1 s2 s5 hB2 he
      cases hq : p x with
      | true =>
        have HQ := Lib.hid hq
        clear hq
        go_wp2_with (go_at_fn g; refine hc.mono ?_; rintro e w' ⟨rfl, hB'⟩; rw [HQ.out]; have HB' := Lib.hid hB'; clear hB')
        go_ret
        exact ⟨(k : Int), rfl, by rw [HE.out, List.any_cons, HQ.out]; simp, HB.out.trans (HB'.out.mono HB.out.size)⟩
      | false =>
        have HQ := Lib.hid hq
        clear hq
        go_wp2_with (go_at_fn g; refine hc.mono ?_; rintro e w' ⟨rfl, hB'⟩; rw [HQ.out]; have HB' := Lib.hid hB'; clear hB')
        go_roundw
        case rel => exact ⟨k + 1, r, by go_num, by omega, Lib.hid ⟨by rw [show o + (k + 1) * 2 = o + k * 2 + 2 by omega]; exact H5.out, HB.out.trans (HB'.out.mono HB.out.size), by rw [HE.out, List.any_cons, HQ.out]; simp⟩⟩
        case measure => simp [intOf]; omega

theorem atContainsFunc_any (g : Nat) (first cap : Array Value) (p : ByteArray × ByteArray → Bool) (eg : ∀ args w, (callFunc g args).run Try.prog w = .ok (.enter g args) w) (al : List (ByteArray × ByteArray)) (w : World) (A : Option Addr) (c b o lo hi : Nat) (hA : RowAt lo hi A al.length b o) (hh : hi ≤ w.heap.size) (hal : AsAt w b o al) (hf : AtFn Try.prog g first cap p w) :
    Calls Try.prog 152 #[.slice A al.length c, .func (.func g) first cap] w fun e w' => e = .returned (.bool (al.any p)) ∧ Below w.heap.size w w' := by
  have HA := Lib.hid hA
  have HL := Lib.hid hal
  have HF := Lib.hid hf
  clear hal hf hA
  go_enter Try.func152, Try.ntmps152
  go_wp2_with (go_at_call 185; refine (atIndexFunc_any g first cap p eg al _ A c b o lo hi HA.out hh HL.out HF.out).mono ?_; rintro e w' ⟨k, rfl, hk, hB⟩; have HK := Lib.hid hk; have HB := Lib.hid hB; clear hk hB)
  go_ret
  exact ⟨ret_bool (by rw [← HK.out]), HB.out⟩
end Go.Proofs.Ytbcbmgeoaejlmaa
