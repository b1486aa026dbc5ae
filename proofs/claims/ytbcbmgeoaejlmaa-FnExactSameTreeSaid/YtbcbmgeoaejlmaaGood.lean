
import Derived.Test.YtbcbmgeoaejlmaaEq
import Derived.Test.YtbcbmgeoaejlmaaTag
import Derived.Test.YtbcbmgeoaejlmaaSwitch
import Derived.BigQuiet
namespace Go.Proofs.Ytbcbmgeoaejlmaa
open Go.ChangeShapes Go.WideShapes Go.ChangeAt Go.RowKit Go.Deep

theorem str_ext {a b : ByteArray} (h : a.toList = b.toList) : a = b := by
  rw [ByteArray.toList_eq, ByteArray.toList_eq] at h
  obtain ⟨⟨x⟩⟩ := a
  obtain ⟨⟨y⟩⟩ := b
  simp at h
  subst h
  rfl
theorem str_ne {a b : ByteArray} (h : ¬ a = b) : (a.toList == b.toList) = false := by
  rw [beq_eq_false_iff_ne]; exact fun e => h (str_ext e)

theorem AsAt.get {w : World} {b : Nat} : ∀ {al : List (ByteArray × ByteArray)} {o : Nat}, AsAt w b o al → ∀ i (h : i < al.length), w.cell? ⟨b, o + i * 2, none⟩ = some (.string al[i].1) ∧ w.cell? ⟨b, o + i * 2 + 1, none⟩ = some (.string al[i].2) ∧ al[i].1.size ≤ maxLen ∧ al[i].2.size ≤ maxLen
  | x :: r, o, ⟨h1, h2, h3, h4, h5⟩, 0, _ => ⟨by simpa using h1, by simpa using h2, h3, h4⟩
  | x :: r, o, ⟨h1, h2, h3, h4, h5⟩, i + 1, h => by
    have := AsAt.get h5 i (by simpa using h)
    rw [show o + (i + 1) * 2 = o + 2 + i * 2 by omega]
    simpa using this

theorem below_drewN {B : Nat} {w w' : World} (h : Below B w w') (n : Nat) : Below B w (w'.drewN n) := by
  induction n with
  | zero => exact h
  | succ n ih => exact ih.drew

/-- a right attribute, by itself -/
def AttrIs (x : ByteArray × ByteArray) : Prop := namedB small tagB x.1 = true ∧ x.2.size ≤ 40
/-- right up to place k -/
def AlTo (al : List (ByteArray × ByteArray)) (k : Nat) : Prop := ∀ i (h : i < al.length), i < k → AttrIs al[i] ∧ ∀ j (hj : j < i), al[j].1 ≠ al[i].1
def AlOK (al : List (ByteArray × ByteArray)) : Prop := al.length ≤ 6 ∧ AlTo al al.length
open Classical in
noncomputable def alB (al : List (ByteArray × ByteArray)) : Bool := decide (AlOK al)
theorem alB_true {al : List (ByteArray × ByteArray)} (h : AlOK al) : true = alB al := by simp [alB, h]
theorem alB_false {al : List (ByteArray × ByteArray)} (h : ¬ AlOK al) : false = alB al := by simp [alB, h]

theorem l03Attrs_any (al : List (ByteArray × ByteArray)) (w : World) (A : Option Addr) (c b o lo hi : Nat) (hA : RowAt lo hi A al.length b o) (hh : hi ≤ w.heap.size) (hal : AsAt w b o al) :
    Calls Try.prog 63 #[.slice A al.length c] w fun e w' => e = .returned (.bool (alB al)) ∧ Below w.heap.size w w' := by
  have hlen := hA.1
  unfold maxLen at hlen
  by_cases h6 : al.length ≤ 6
  · have HA := Lib.hid hA
    have HS := Lib.hid hal.get
    have HAL := Lib.hid hal
    clear hA hal
    go_enter Try.func63, Try.ntmps63
    go_wp2
    go_loopw [3] (fun i wr => ∃ (k : Nat), i = .int .i64 (k : Int) ∧ k ≤ al.length ∧ Hid (AlTo al k ∧ Below w.heap.size w wr)) (fun i wr => al.length - (intOf i).toNat)
    case atStart => exact ⟨0, rfl, Nat.zero_le _, Lib.hid ⟨fun i _ h => absurd h (Nat.not_lt_zero _), Below.refl _ _⟩⟩
    case round =>
      obtain ⟨k, rfl, hk, HH⟩ := hrel
      by_cases hlt : k < al.length
      · obtain ⟨rfl, hlo, hhi⟩ := HA.out.2 (by omega)
        have hB := HH.out.2
        obtain ⟨s1, s2, s3, s4⟩ := HS.out k hlt
        have t1 := (hB.cell (p := ⟨b, o + k * 2, none⟩) (by show b < _; omega)).trans s1
        have t2 := (hB.cell (p := ⟨b, o + k * 2 + 1, none⟩) (by show b < _; omega)).trans s2
        have HB := Lib.hid hB
        clear hB s1 s2
        generalize hx : al[k] = x at *
        obtain ⟨n, v⟩ := x
        simp only at t1 t2 s3 s4
        have HX := Lib.hid hx
        clear hx
        by_cases hn : namedB small tagB n = true
        · by_cases hv : v.size ≤ 40
          · go_wp2_with (go_at_call 121; go_loud (refine (l01Tag_any n _ s3).mono ?_; rintro e w' ⟨rfl, rfl⟩; rw [hn]))
            go_loopw [4] (fun j wq => ∃ (m : Nat), j = .int .i64 (m : Int) ∧ m ≤ k ∧ Hid ((∀ j (hj : j < m) (hj' : j < al.length), al[j].1 ≠ n) ∧ Below w.heap.size w wq)) (fun j wq => k - (intOf j).toNat)
            case atStart => exact ⟨0, rfl, Nat.zero_le _, Lib.hid ⟨fun j hj => absurd hj (Nat.not_lt_zero _), HB.out⟩⟩
            case round =>
              obtain ⟨m, rfl, hm, HM⟩ := hrel
              by_cases hmk : m < k
              · obtain ⟨q1, _, q3, _⟩ := HS.out m (by omega)
                have hQ := HM.out.2
                have p1 := (hQ.cell (p := ⟨b, o + m * 2, none⟩) (by show b < _; omega)).trans q1
                obtain ⟨r1, _, _, _⟩ := HS.out k hlt
                have p2 := (hQ.cell (p := ⟨b, o + k * 2, none⟩) (by show b < _; omega)).trans r1
                rw [HX.out] at p2
                simp only at p2
                generalize hy : al[m].1 = y at *
                have HQ := Lib.hid hQ
                have HY := Lib.hid hy
                clear hQ q1 r1 hy
                by_cases he : y = n
                · subst he
                  go_wp2
                  go_quiet (fail)
                  go_wp2
                  go_ret
                  exact ⟨ret_bool (alB_false fun h => (h.2 k hlt hlt).2 m hmk (by rw [HX.out, HY.out])), below_drewN HQ.out _⟩
                · have he' := str_ne he
                  go_wp2
                  go_quiet (fail)
                  go_wp2
                  go_roundw
                  case rel => exact ⟨m + 1, by go_num, by omega, Lib.hid ⟨fun j hj hj' => by
                    by_cases e : j = m
                    · subst e; rw [HY.out]; exact he
                    · exact HM.out.1 j (by omega) hj', below_drewN HQ.out _⟩⟩
                  case measure => simp [intOf]; omega
              · obtain rfl : m = k := by omega
                go_wp2
                go_roundw
                case rel => exact ⟨m + 1, by go_num, by omega, Lib.hid ⟨fun i hi hik => by
                  by_cases e : i = m
                  · subst e; rw [HX.out]; exact ⟨⟨hn, hv⟩, fun j hj => HM.out.1 j hj (by omega)⟩
                  · exact HH.out.1 i hi (by omega), HM.out.2⟩⟩
                case measure => simp [intOf]; omega
          · go_wp2_with (go_at_call 121; go_loud (refine (l01Tag_any n _ s3).mono ?_; rintro e w' ⟨rfl, rfl⟩; rw [hn]))
            go_ret
            exact ⟨ret_bool (alB_false fun h => hv (by have := (h.2 k hlt hlt).1.2; rw [HX.out] at this; exact this)), HB.out⟩
        · go_wp2_with (go_at_call 121; go_loud (refine (l01Tag_any n _ s3).mono ?_; rintro e w' ⟨rfl, rfl⟩; rw [Bool.eq_false_iff.2 hn]))
          go_ret
          exact ⟨ret_bool (alB_false fun h => hn (by have := (h.2 k hlt hlt).1.1; rw [HX.out] at this; exact this)), HB.out⟩
      · obtain rfl : k = al.length := by omega
        go_wp2
        go_ret
        exact ⟨ret_bool (alB_true ⟨h6, HH.out.1⟩), HH.out.2⟩
  · clear hal hA
    go_enter Try.func63, Try.ntmps63
    go_wp2
    go_ret
    exact ⟨ret_bool (alB_false fun h => h6 h.1), Below.refl _ _⟩
end Go.Proofs.Ytbcbmgeoaejlmaa
