
import Derived.Test.YtbcbmgeoaejlmaaOK
import Derived.Deep.QuietTactic
import Derived.BigQuiet
import Derived.Laws.StructEq
namespace Go.Proofs.Ytbcbmgeoaejlmaa
open Go.ChangeShapes Go.WideShapes Go.ChangeAt Go.RowKit Go.Deep

def attrEq (x y : ByteArray × ByteArray) : Bool := (x.1.toList == y.1.toList) && (x.2.toList == y.2.toList)
def alEq : List (ByteArray × ByteArray) → List (ByteArray × ByteArray) → Bool
  | [], [] => true
  | x :: r, y :: s => attrEq x y && alEq r s
  | _, _ => false
def foEq : Fo → Fo → Bool
  | .nil, .nil => true
  | .cons k sp n t al kids r, .cons k' sp' n' t' al' kids' r' => (k == k') && (sp == sp') && (n.toList == n'.toList) && (t.toList == t'.toList) && alEq al al' && foEq kids kids' && foEq r r'
  | _, _ => false
theorem attrEq_iff (x y : ByteArray × ByteArray) : attrEq x y = true ↔ x = y := by
  obtain ⟨a, b⟩ := x
  obtain ⟨c, d⟩ := y
  simp only [attrEq, Bool.and_eq_true, beq_iff_eq, Prod.mk.injEq]
  exact ⟨fun ⟨h1, h2⟩ => ⟨str_ext h1, str_ext h2⟩, fun ⟨h1, h2⟩ => ⟨by rw [h1], by rw [h2]⟩⟩
theorem alEq_iff : ∀ a b : List (ByteArray × ByteArray), alEq a b = true ↔ a = b
  | [], [] => by simp [alEq]
  | x :: r, y :: s => by simp only [alEq, Bool.and_eq_true, attrEq_iff, alEq_iff r s, List.cons.injEq]
  | [], _ :: _ => by simp [alEq]
  | _ :: _, [] => by simp [alEq]
theorem foEq_iff : ∀ F G : Fo, foEq F G = true ↔ F = G
  | .nil, .nil => by simp [foEq]
  | .cons k sp n t al kids r, .cons k' sp' n' t' al' kids' r' => by
    simp only [foEq, Bool.and_eq_true, beq_iff_eq, alEq_iff, foEq_iff kids kids', foEq_iff r r', Fo.cons.injEq]
    constructor
    · rintro ⟨⟨⟨⟨⟨⟨a, b⟩, c⟩, d⟩, e⟩, f⟩, g⟩; exact ⟨a, b, str_ext c, str_ext d, e, f, g⟩
    · rintro ⟨a, b, c, d, e, f, g⟩; exact ⟨⟨⟨⟨⟨⟨a, b⟩, by rw [c]⟩, by rw [d]⟩, e⟩, f⟩, g⟩
  | .nil, .cons _ _ _ _ _ _ _ => by simp [foEq]
  | .cons _ _ _ _ _ _ _, .nil => by simp [foEq]
theorem alEq_len {a b : List (ByteArray × ByteArray)} (h : ¬ a.length = b.length) : alEq a b = false := by
  rw [← Bool.not_eq_true, alEq_iff]; rintro rfl; exact h rfl
theorem foEq_len {F G : Fo} (h : ¬ F.len = G.len) : foEq F G = false := by
  rw [← Bool.not_eq_true, foEq_iff]; rintro rfl; exact h rfl

theorem neq_attr (x y : ByteArray × ByteArray) (w : World) : (binOp .neq 36 (.agg #[.string x.1, .string x.2]) (.agg #[.string y.1, .string y.2])).run Try.prog w = .ok (.bool (!attrEq x y)) w := by
  have hS : Try.prog.underlying 36 = some (.struct (Try.prog.fieldsOf 36)) := by kernel_rfl
  have hp : Try.prog.stoodInHeld 36 = false := by kernel_rfl
  obtain ⟨a, b⟩ := x
  obtain ⟨c, d⟩ := y
  have u9 := Try.underlying9
  simp only [attrEq]
  rw [run_neq_struct, show (10000 : Nat) = 9999 + 1 from rfl, run_equalIn_agg w 9999 36 _ _ hS hp]
  simp only [Program.fieldsOf, Try.underlying36]
  clear hS hp
  go_simp
  by_cases h1 : a.toList = c.toList <;> by_cases h2 : b.toList = d.toList <;> simp [h1, h2]

theorem l03SameAttrs_any (al al' : List (ByteArray × ByteArray)) (w : World) (A A' : Option Addr) (c c' b b' o o' lo hi lo' hi' : Nat) (hA : RowAt lo hi A al.length b o) (hA' : RowAt lo' hi' A' al'.length b' o') (hh : hi ≤ w.heap.size) (hh' : hi' ≤ w.heap.size)
    (hal : AsAt w b o al) (hal' : AsAt w b' o' al') :
    Calls Try.prog 161 #[.slice A al.length c, .slice A' al'.length c'] w fun e w' => e = .returned (.bool (alEq al al')) ∧ Below w.heap.size w w' := by
  have hlen := hA.1
  have hlen' := hA'.1
  unfold maxLen at hlen hlen'
  have HA := Lib.hid hA
  have HS := Lib.hid hal
  have HA' := Lib.hid hA'
  have HS' := Lib.hid hal'
  clear hA hal hA' hal'
  by_cases hl : al.length = al'.length
  · have HL := Lib.hid hl
    have hl2 : ((al.length : Int) != (al'.length : Int)) = false := by simp; omega
    clear hl
    go_enter Try.func161, Try.ntmps161
    go_wp2
    go_loopw [5] (fun i wr => ∃ (k : Nat) (suf suf' : List (ByteArray × ByteArray)), i = .int .i64 (k : Int) ∧ k + suf.length = al.length ∧ Hid (AsAt w b (o + k * 2) suf ∧ AsAt w b' (o' + k * 2) suf' ∧ suf.length = suf'.length ∧ alEq al al' = alEq suf suf' ∧ Below w.heap.size w wr)) (fun i wr => al.length - (intOf i).toNat)
    case atStart => exact ⟨0, al, al', rfl, by omega, Lib.hid ⟨by simpa using HS.out, by simpa using HS'.out, HL.out, rfl, Below.refl _ _⟩⟩
    case round =>
      obtain ⟨k, suf, suf', rfl, hk, HH⟩ := hrel
      cases suf with
      | nil =>
        cases suf' with
        | cons _ _ => have := HH.out.2.2.1; simp at this
        | nil =>
          have hkl : k = al.length := by simpa using hk
          clear hk
          subst hkl
          go_wp2
          go_ret
          exact ⟨by rw [HH.out.2.2.2.1]; rfl, HH.out.2.2.2.2⟩
      | cons x r =>
        cases suf' with
        | nil => have := HH.out.2.2.1; simp at this
        | cons y s =>
          obtain ⟨⟨s1, s2, s3, s4, s5⟩, ⟨s1', s2', s3', s4', s5'⟩, hls, he, hB⟩ := HH.out
          have hkl : k < al.length := by simp at hk; omega
          have hkl' : k < al'.length := by have := HL.out; omega
          obtain ⟨rfl, hlo, hhi⟩ := HA.out.2 (by omega)
          obtain ⟨rfl, hlo', hhi'⟩ := HA'.out.2 (by omega)
          have t1 := (hB.cell (p := ⟨b, o + k * 2, none⟩) (by show b < _; omega)).trans s1
          have t2 := (hB.cell (p := ⟨b, o + k * 2 + 1, none⟩) (by show b < _; omega)).trans s2
          have t1' := (hB.cell (p := ⟨b', o' + k * 2, none⟩) (by show b' < _; omega)).trans s1'
          have t2' := (hB.cell (p := ⟨b', o' + k * 2 + 1, none⟩) (by show b' < _; omega)).trans s2'
          have H5 := Lib.hid (And.intro s5 s5')
          have HB := Lib.hid hB
          have HE := Lib.hid (And.intro hls he)
          simp at hk
          have hnq := neq_attr x y
          clear HH s1 s2 s5 s1' s2' s5' hB hls he
          have hl3 : (k : Int) < (al'.length : Int) := by omega
          cases hq : attrEq x y with
          | true =>
            rw [hq] at hnq
            have HQ := Lib.hid hq
            clear hq
            go_wp2
            go_quiet (fail)
            go_wp2
            go_roundw
            case rel => exact ⟨k + 1, r, s, by go_num, by omega, Lib.hid ⟨by rw [show o + (k + 1) * 2 = o + k * 2 + 2 by omega]; exact H5.out.1, by rw [show o' + (k + 1) * 2 = o' + k * 2 + 2 by omega]; exact H5.out.2, by have := HE.out.1; simpa using this, by rw [HE.out.2, alEq, HQ.out]; rfl, below_drewN HB.out _⟩⟩
            case measure => simp [intOf]; omega
          | false =>
            rw [hq] at hnq
            have HQ := Lib.hid hq
            clear hq
            go_wp2
            go_quiet (fail)
            go_wp2
            go_ret
            exact ⟨by rw [HE.out.2, alEq, HQ.out]; rfl, below_drewN HB.out _⟩
  · have HL := Lib.hid hl
    have hl2 : ((al.length : Int) != (al'.length : Int)) = true := by simp; omega
    clear hl
    go_enter Try.func161, Try.ntmps161
    go_wp2
    go_ret
    exact ⟨by rw [alEq_len HL.out]; rfl, Below.refl _ _⟩
end Go.Proofs.Ytbcbmgeoaejlmaa
