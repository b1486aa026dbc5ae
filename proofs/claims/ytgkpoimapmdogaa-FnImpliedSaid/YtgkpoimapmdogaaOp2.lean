import Derived.Test.YtgkpoimapmdogaaOp
import Derived.Test.YtgkpoimapmdogaaTag
import Derived.Test.YtgkpoimapmdogaaSets
namespace Go.Proofs.Ytgkpoimapmdogaa
open Go.ChangeShapes Go.WideShapes Go.ChangeAt Go.RowKit Go.Deep

noncomputable def openB (x : ByteArray × Int) : Bool := namedB small tagB x.1 && (decide (0 ≤ x.2) && decide (x.2 ≤ 2))
/-- the code of what is open, and of a name -/
noncomputable def askOf (l : List (ByteArray × Int)) (n : ByteArray) : Int := if 4096 < l.length ∨ 65536 < n.size then 2 else if l.all openB = false then 1 else if namedB small tagB n = false then 10 else 0

theorem isNoOpen_any (x : ByteArray × Int) (w : World) (h1 : x.1.size ≤ maxLen) :
    Calls Try.prog 43 #[.agg #[.string x.1, .int .i64 x.2]] w fun e w' => e = .returned (.bool (!openB x)) ∧ Below w.heap.size w w' := by
  obtain ⟨n, v⟩ := x
  simp only at h1 ⊢
  have hg := (Below.refl w.heap.size w).alloc (Nat.le_refl _) (.cells #[.string n, .int .i64 v] 31)
  by_cases c0 : namedB small tagB n = true
  · by_cases c1 : 0 ≤ v
    · by_cases c2 : v ≤ 2
      · have HL : Hid (openB (n, v) = true) := Lib.hid (by simp [openB, c0, c1, c2])
        have d1 : ¬ v < 0 := by omega
        have d2 : ¬ 2 < v := by omega
        go_enter Try.func43, Try.ntmps43
        go_wp2_with (go_at_call 44; refine (implTagOK_any _ _ h1).mono ?_; rintro e w' ⟨rfl, rfl⟩)
        go_ret
        exact ⟨ret_bool (by rw [HL.out]; simp; omega), hg⟩
      · have HL : Hid (openB (n, v) = false) := Lib.hid (by simp [openB, c2])
        have d1 : ¬ v < 0 := by omega
        have d2 : 2 < v := by omega
        go_enter Try.func43, Try.ntmps43
        go_wp2_with (go_at_call 44; refine (implTagOK_any _ _ h1).mono ?_; rintro e w' ⟨rfl, rfl⟩)
        go_ret
        exact ⟨by rw [HL.out]; rfl, hg⟩
    · have HL : Hid (openB (n, v) = false) := Lib.hid (by simp [openB, c1])
      have d1 : v < 0 := by omega
      go_enter Try.func43, Try.ntmps43
      go_wp2_with (go_at_call 44; refine (implTagOK_any _ _ h1).mono ?_; rintro e w' ⟨rfl, rfl⟩)
      go_ret
      exact ⟨by rw [HL.out]; rfl, hg⟩
  · have c0' : namedB small tagB n = false := by simpa using c0
    have HL : Hid (openB (n, v) = false) := Lib.hid (by simp [openB, c0'])
    clear c0
    go_enter Try.func43, Try.ntmps43
    go_wp2_with (go_at_call 44; refine (implTagOK_any _ _ h1).mono ?_; rintro e w' ⟨rfl, rfl⟩)
    go_ret
    exact ⟨by rw [HL.out]; rfl, hg⟩

theorem l05Open_any (x : ByteArray × Int) (w : World) (h1 : x.1.size ≤ maxLen) :
    Calls Try.prog 20 #[.agg #[.string x.1, .int .i64 x.2]] w fun e w' => e = .returned (.bool (openB x)) ∧ Below w.heap.size w w' := by
  obtain ⟨n, v⟩ := x
  simp only at h1 ⊢
  have hg := (Below.refl w.heap.size w).alloc (Nat.le_refl _) (.cells #[.string n, .int .i64 v] 31)
  by_cases c0 : namedB small tagB n = true
  · have HL : Hid (openB (n, v) = (decide (0 ≤ v) && decide (v ≤ 2))) := Lib.hid (by simp [openB, c0])
    go_enter Try.func20, Try.ntmps20
    go_wp2_with (first | (go_at_call 38; refine (l01Tag_any _ _ h1).mono ?_; rintro e w' ⟨rfl, rfl⟩) | (go_at_call 39; refine (l01In_any _ _ _ _).mono ?_; rintro e w' ⟨rfl, rfl⟩))
    go_ret
    exact ⟨by rw [HL.out]; rfl, hg⟩
  · have c0' : namedB small tagB n = false := by simpa using c0
    have HL : Hid (openB (n, v) = false) := Lib.hid (by simp [openB, c0'])
    clear c0
    go_enter Try.func20, Try.ntmps20
    go_wp2_with (first | (go_at_call 38; refine (l01Tag_any _ _ h1).mono ?_; rintro e w' ⟨rfl, rfl⟩) | (go_at_call 39; refine (l01In_any _ _ _ _).mono ?_; rintro e w' ⟨rfl, rfl⟩))
    go_ret
    exact ⟨by rw [HL.out]; rfl, hg⟩

theorem all_take_step {l : List (ByteArray × Int)} {k : Nat} (hk : k < l.length) (h : (l.take k).all openB = true) (h2 : openB l[k] = true) : (l.take (k + 1)).all openB = true := by
  rw [List.take_succ_eq_append_getElem hk, List.all_append, h]; simp [h2]
theorem all_not {l : List (ByteArray × Int)} {k : Nat} (hk : k < l.length) (h2 : openB l[k] = false) : l.all openB = false := by
  rw [List.all_eq_false]; exact ⟨l[k], List.getElem_mem hk, by simp [h2]⟩

/-- the first one that is none, or -1: below 0 just if all are -/
def Found (l : List (ByteArray × Int)) (w : World) (e : Ending) (w' : World) : Prop := ∃ k : Int, e = .returned (.int .i64 k) ∧ decide (0 ≤ k) = !(l.all openB) ∧ Below w.heap.size w w'
theorem indexFunc_any (l : List (ByteArray × Int)) (w : World) (A : Option Addr) (c b o : Nat) (hl : OsIn w A b o l) :
    Calls Try.prog 53 #[.slice A l.length c, .func (.func 43) #[] #[]] w (Found l w) := by
  have hml := hl.1.1
  unfold maxLen at hml
  have HL := Lib.hid hl
  clear hl
  go_enter Try.func53, Try.ntmps53
  go_wp2
  go_loopw [8] (fun i wr => ∃ k : Nat, i = .int .i64 (k : Int) ∧ k ≤ l.length ∧ Hid ((l.take k).all openB = true ∧ Below w.heap.size w wr)) (fun i wr => l.length - (intOf i).toNat)
  case atStart => exact ⟨0, rfl, Nat.zero_le _, Lib.hid ⟨by simp, Below.refl _ _⟩⟩
  case round =>
    obtain ⟨k, rfl, hk, HH⟩ := hrel
    by_cases hkl : k < l.length
    · obtain ⟨rfl, hlt, t1, t2, t3⟩ := (HL.out.next HH.out.2).get k hkl
      by_cases ho : openB l[k] = true
      · have HO := Lib.hid ho
        clear ho
        go_wp2_with (go_at_call 43; refine (isNoOpen_any l[k] _ t3).mono ?_; rintro e w' ⟨rfl, hB⟩; rw [HO.out]; have HB := Lib.hid hB; clear hB)
        go_roundw
        case rel => exact ⟨k + 1, by go_num, by omega, Lib.hid ⟨all_take_step hkl HH.out.1 HO.out, HH.out.2.trans (HB.out.mono HH.out.2.size)⟩⟩
        case measure => simp [intOf]; omega
      · have ho' : openB l[k] = false := by simpa using ho
        have HO := Lib.hid ho'
        clear ho ho'
        go_wp2_with (go_at_call 43; refine (isNoOpen_any l[k] _ t3).mono ?_; rintro e w' ⟨rfl, hB⟩; rw [HO.out]; have HB := Lib.hid hB; clear hB)
        go_ret
        exact ⟨(k : Int), rfl, by rw [all_not hkl HO.out]; first | done | simp, HH.out.2.trans (HB.out.mono HH.out.2.size)⟩
    · obtain rfl : k = l.length := by omega
      go_wp2
      go_ret
      exact ⟨-1, rfl, by have := HH.out.1; rw [List.take_length] at this; rw [this]; rfl, HH.out.2⟩
theorem containsFunc_any (l : List (ByteArray × Int)) (w : World) (A : Option Addr) (c b o : Nat) (hl : OsIn w A b o l) :
    Calls Try.prog 42 #[.slice A l.length c, .func (.func 43) #[] #[]] w fun e w' => e = .returned (.bool (!(l.all openB))) ∧ Below w.heap.size w w' := by
  have HL := Lib.hid hl
  clear hl
  go_enter Try.func42, Try.ntmps42
  go_wp2_with (go_at_call 53; refine (indexFunc_any l _ A c b o HL.out).mono ?_; rintro e w' ⟨k, rfl, hk, hB⟩; have HK := Lib.hid hk; have HB := Lib.hid hB; clear hk hB)
  go_ret
  exact ⟨ret_bool (by rw [← HK.out]), HB.out⟩

theorem openFault_any (l : List (ByteArray × Int)) (n : ByteArray) (w : World) (A : Option Addr) (c b o : Nat) (hn : n.size ≤ maxLen) (hl : OsIn w A b o l) :
    Calls Try.prog 24 #[.slice A l.length c, .string n] w fun e w' => e = .returned (.int .i64 (askOf l n)) ∧ Below w.heap.size w w' := by
  have hml := hl.1.1
  have hn' := hn
  unfold maxLen at hml hn'
  have HL := Lib.hid hl
  clear hl
  by_cases c1 : l.length ≤ 4096
  · by_cases c2 : n.size ≤ 65536
    · by_cases c3 : l.all openB = true
      · have HC3 := Lib.hid c3
        clear c3
        by_cases c4 : namedB small tagB n = true
        · have HA : Hid (askOf l n = 0) := Lib.hid (by rw [askOf, if_neg (by omega), HC3.out, c4]; simp)
          go_enter Try.func24, Try.ntmps24
          go_wp2_with (first | (go_at_call 42; refine (containsFunc_any l _ A c b o HL.out).mono ?_; rintro e w' ⟨rfl, hB⟩; rw [HC3.out]; have HB := Lib.hid hB; clear hB) | (go_at_call 44; refine (implTagOK_any _ _ hn).mono ?_; rintro e w2 ⟨rfl, rfl⟩))
          go_ret
          exact ⟨ret_int HA.out.symm, HB.out⟩
        · have c4' : namedB small tagB n = false := by simpa using c4
          have HA : Hid (askOf l n = 10) := Lib.hid (by rw [askOf, if_neg (by omega), HC3.out, c4']; simp)
          clear c4
          go_enter Try.func24, Try.ntmps24
          go_wp2_with (first | (go_at_call 42; refine (containsFunc_any l _ A c b o HL.out).mono ?_; rintro e w' ⟨rfl, hB⟩; rw [HC3.out]; have HB := Lib.hid hB; clear hB) | (go_at_call 44; refine (implTagOK_any _ _ hn).mono ?_; rintro e w2 ⟨rfl, rfl⟩))
          go_ret
          exact ⟨ret_int HA.out.symm, HB.out⟩
      · have c3' : l.all openB = false := by simpa using c3
        have HC3 := Lib.hid c3'
        have HA : Hid (askOf l n = 1) := Lib.hid (by rw [askOf, if_neg (by omega), HC3.out]; simp)
        clear c3 c3'
        go_enter Try.func24, Try.ntmps24
        go_wp2_with (first | (go_at_call 42; refine (containsFunc_any l _ A c b o HL.out).mono ?_; rintro e w' ⟨rfl, hB⟩; rw [HC3.out]; have HB := Lib.hid hB; clear hB))
        go_ret
        exact ⟨ret_int HA.out.symm, HB.out⟩
    · have HA : Hid (askOf l n = 2) := Lib.hid (by rw [askOf, if_pos (by omega)])
      go_enter Try.func24, Try.ntmps24
      go_wp2
      go_ret
      exact ⟨ret_int HA.out.symm, Below.refl _ _⟩
  · have HA : Hid (askOf l n = 2) := Lib.hid (by rw [askOf, if_pos (by omega)])
    go_enter Try.func24, Try.ntmps24
    go_wp2
    go_ret
    exact ⟨ret_int HA.out.symm, Below.refl _ _⟩

theorem l05Ask_any (l : List (ByteArray × Int)) (n : ByteArray) (w : World) (A : Option Addr) (c b o : Nat) (hn : n.size ≤ maxLen) (hl : OsIn w A b o l) :
    Calls Try.prog 22 #[.slice A l.length c, .string n] w fun e w' => e = .returned (.int .i64 (askOf l n)) ∧ Below w.heap.size w w' := by
  have hml := hl.1.1
  have hn' := hn
  unfold maxLen at hml hn'
  have HL := Lib.hid hl
  clear hl
  by_cases c1 : l.length ≤ 4096
  · by_cases c2 : n.size ≤ 65536
    · go_enter Try.func22, Try.ntmps22
      go_wp2
      go_loopw [5] (fun i wr => ∃ k : Nat, i = .int .i64 (k : Int) ∧ k ≤ l.length ∧ Hid ((l.take k).all openB = true ∧ Below w.heap.size w wr)) (fun i wr => l.length - (intOf i).toNat)
      case atStart => exact ⟨0, rfl, Nat.zero_le _, Lib.hid ⟨by simp, Below.refl _ _⟩⟩
      case round =>
        obtain ⟨k, rfl, hk, HH⟩ := hrel
        by_cases hkl : k < l.length
        · obtain ⟨rfl, hlt, t1, t2, t3⟩ := (HL.out.next HH.out.2).get k hkl
          by_cases ho : openB l[k] = true
          · have HO := Lib.hid ho
            clear ho
            go_wp2_with (go_at_call 20; refine (l05Open_any l[k] _ t3).mono ?_; rintro e w' ⟨rfl, hB⟩; rw [HO.out]; have HB := Lib.hid hB; clear hB)
            go_roundw
            case rel => exact ⟨k + 1, by go_num, by omega, Lib.hid ⟨all_take_step hkl HH.out.1 HO.out, HH.out.2.trans (HB.out.mono HH.out.2.size)⟩⟩
            case measure => simp [intOf]; omega
          · have ho' : openB l[k] = false := by simpa using ho
            have HO := Lib.hid ho'
            have HA : Hid (askOf l n = 1) := Lib.hid (by rw [askOf, if_neg (by omega), all_not hkl HO.out]; simp)
            clear ho ho'
            go_wp2_with (go_at_call 20; refine (l05Open_any l[k] _ t3).mono ?_; rintro e w' ⟨rfl, hB⟩; rw [HO.out]; have HB := Lib.hid hB; clear hB)
            go_ret
            exact ⟨ret_int HA.out.symm, HH.out.2.trans (HB.out.mono HH.out.2.size)⟩
        · obtain rfl : k = l.length := by omega
          have hall : l.all openB = true := by have := HH.out.1; rwa [List.take_length] at this
          have HC3 := Lib.hid hall
          clear hall
          by_cases c4 : namedB small tagB n = true
          · have HA : Hid (askOf l n = 0) := Lib.hid (by rw [askOf, if_neg (by omega), HC3.out, c4]; simp)
            go_wp2_with (go_at_call 38; refine (l01Tag_any _ _ hn).mono ?_; rintro e w' ⟨rfl, rfl⟩)
            go_ret
            exact ⟨ret_int HA.out.symm, HH.out.2⟩
          · have c4' : namedB small tagB n = false := by simpa using c4
            have HA : Hid (askOf l n = 10) := Lib.hid (by rw [askOf, if_neg (by omega), HC3.out, c4']; simp)
            clear c4
            go_wp2_with (go_at_call 38; refine (l01Tag_any _ _ hn).mono ?_; rintro e w' ⟨rfl, rfl⟩)
            go_ret
            exact ⟨ret_int HA.out.symm, HH.out.2⟩
    · have HA : Hid (askOf l n = 2) := Lib.hid (by rw [askOf, if_pos (by omega)])
      go_enter Try.func22, Try.ntmps22
      go_wp2
      go_ret
      exact ⟨ret_int HA.out.symm, Below.refl _ _⟩
  · have HA : Hid (askOf l n = 2) := Lib.hid (by rw [askOf, if_pos (by omega)])
    go_enter Try.func22, Try.ntmps22
    go_wp2
    go_ret
    exact ⟨ret_int HA.out.symm, Below.refl _ _⟩
end Go.Proofs.Ytgkpoimapmdogaa
