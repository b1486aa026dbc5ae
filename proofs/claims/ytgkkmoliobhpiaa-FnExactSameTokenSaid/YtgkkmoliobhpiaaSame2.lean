
import Derived.Test.YtgkkmoliobhpiaaSame
namespace Go.Proofs.Ytgkkmoliobhpiaa
open Go.ChangeShapes Go.WideShapes Go.ChangeAt Go.RowKit Go.Deep
theorem slicesEqual_any (al al' : List (ByteArray × ByteArray)) (w : World) (A A' : Option Addr) (c c' b b' o o' lo hi lo' hi' : Nat) (hA : RowAt lo hi A al.length b o) (hA' : RowAt lo' hi' A' al'.length b' o') (hh : hi ≤ w.heap.size) (hh' : hi' ≤ w.heap.size)
    (hal : AsAt w b o al) (hal' : AsAt w b' o' al') :
    Calls Try.prog 29 #[.slice A al.length c, .slice A' al'.length c'] w fun e w' => e = .returned (.bool (alEq al al')) ∧ Below w.heap.size w w' := by
  have hlen := hA.1
  have hlen' := hA'.1
  unfold maxLen at hlen hlen'
  have HA := Lib.hid hA
  have HS := Lib.hid hal
  have HA' := Lib.hid hA'
  have HS' := Lib.hid hal'
  clear hA hal hA' hal'
  by_cases hl : al.length = al'.length
  · have HL := Lib.hid hl
    have hl2 : ((al.length : Int) != (al'.length : Int)) = false := by simp; omega
    clear hl
    go_enter Try.func29, Try.ntmps29
    go_wp2
    go_loopw [13] (fun i wr => ∃ (k : Nat) (suf suf' : List (ByteArray × ByteArray)), i = .int .i64 (k : Int) ∧ k + suf.length = al.length ∧ Hid (AsAt w b (o + k * 2) suf ∧ AsAt w b' (o' + k * 2) suf' ∧ suf.length = suf'.length ∧ alEq al al' = alEq suf suf' ∧ Below w.heap.size w wr)) (fun i wr => al.length - (intOf i).toNat)
    case atStart => exact ⟨0, al, al', rfl, by omega, Lib.hid ⟨by simpa using HS.out, by simpa using HS'.out, HL.out, rfl, Below.refl _ _⟩⟩
    case round =>
      obtain ⟨k, suf, suf', rfl, hk, HH⟩ := hrel
      cases suf with
      | nil =>
        cases suf' with
        | cons _ _ => have := HH.out.2.2.1; simp at this
        | nil =>
          have hkl : k = al.length := by simpa using hk
          clear hk
          subst hkl
          go_wp2
          go_ret
          exact ⟨by rw [HH.out.2.2.2.1]; rfl, HH.out.2.2.2.2⟩
      | cons x r =>
        cases suf' with
        | nil => have := HH.out.2.2.1; simp at this
        | cons y s =>
          obtain ⟨⟨s1, s2, s3, s4, s5⟩, ⟨s1', s2', s3', s4', s5'⟩, hls, he, hB⟩ := HH.out
          have hkl : k < al.length := by simp at hk; omega
          have hkl' : k < al'.length := by have := HL.out; omega
          obtain ⟨rfl, hlo, hhi⟩ := HA.out.2 (by omega)
          obtain ⟨rfl, hlo', hhi'⟩ := HA'.out.2 (by omega)
          have t1 := (hB.cell (p := ⟨b, o + k * 2, none⟩) (by show b < _; omega)).trans s1
          have t2 := (hB.cell (p := ⟨b, o + k * 2 + 1, none⟩) (by show b < _; omega)).trans s2
          have t1' := (hB.cell (p := ⟨b', o' + k * 2, none⟩) (by show b' < _; omega)).trans s1'
          have t2' := (hB.cell (p := ⟨b', o' + k * 2 + 1, none⟩) (by show b' < _; omega)).trans s2'
          have H5 := Lib.hid (And.intro s5 s5')
          have HB := Lib.hid hB
          have HE := Lib.hid (And.intro hls he)
          simp at hk
          have hnq := neq_attr x y
          clear HH s1 s2 s5 s1' s2' s5' hB hls he
          have hl3 : (k : Int) < (al'.length : Int) := by omega
          cases hq : attrEq x y with
          | true =>
            rw [hq] at hnq
            have HQ := Lib.hid hq
            clear hq
            go_wp2
            go_quiet (fail)
            go_wp2
            go_roundw
            case rel => exact ⟨k + 1, r, s, by go_num, by omega, Lib.hid ⟨by rw [show o + (k + 1) * 2 = o + k * 2 + 2 by omega]; exact H5.out.1, by rw [show o' + (k + 1) * 2 = o' + k * 2 + 2 by omega]; exact H5.out.2, by have := HE.out.1; simpa using this, by rw [HE.out.2, alEq, HQ.out]; rfl, below_drewN HB.out _⟩⟩
            case measure => simp [intOf]; omega
          | false =>
            rw [hq] at hnq
            have HQ := Lib.hid hq
            clear hq
            go_wp2
            go_quiet (fail)
            go_wp2
            go_ret
            exact ⟨by rw [HE.out.2, alEq, HQ.out]; rfl, below_drewN HB.out _⟩
  · have HL := Lib.hid hl
    have hl2 : ((al.length : Int) != (al'.length : Int)) = true := by simp; omega
    clear hl
    go_enter Try.func29, Try.ntmps29
    go_wp2
    go_ret
    exact ⟨by rw [alEq_len HL.out]; rfl, Below.refl _ _⟩

def nodeEq (k sp : Int) (n t : ByteArray) (al : List (ByteArray × ByteArray)) (kids : Fo) (k' sp' : Int) (n' t' : ByteArray) (al' : List (ByteArray × ByteArray)) (kids' : Fo) : Bool :=
  (k == k') && (sp == sp') && (n.toList == n'.toList) && (t.toList == t'.toList) && alEq al al' && foEq kids kids'
end Go.Proofs.Ytgkkmoliobhpiaa
