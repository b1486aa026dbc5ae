import Derived.Test.YtlghmcnhdmidnaaDoorUn
import Derived.Test.YtlghmcnhdmidnaaDoorShelf
import Derived.Test.YtlghmcnhdmidnaaDoorMarks
import Derived.Lib.AppendIntMem
import Derived.Lib.AtoiErrMem
namespace Go.Proofs.YtlghmcnhdmidnaaDoor
open Go.ChangeShapes Go.WideShapes Go.ChangeAt Go.RowKit Go.Shelf

theorem gPow : Tryd.prog.globalNamed "internal/strconv.uint64pow10" = some 3 := by kernel_rfl
/-- what the library's variables hold: its table of powers, and an error -/
def Env (w : World) : Prop := (∃ ev, w.cell? ⟨1, 0, none⟩ = some ev ∧ (ev = .nilIface ∨ ∃ te pe, ev = .iface te pe)) ∧ Lib.TabIs Tryd.prog w "internal/strconv.uint64pow10" .u64 Lib.pow10Tab ∧ 5 < w.heap.size
theorem Env.below {w w' : World} (h : Env w) (hb : Below w.heap.size w w') : Env w' := by
  obtain ⟨⟨ev, h1, h2⟩, h3, h4⟩ := h
  refine ⟨⟨ev, (hb.cell (p := ⟨1, 0, none⟩) (show 1 < w.heap.size by omega)).trans h1, h2⟩, ?_, by have := hb.size; omega⟩
  have e : w'.heap[3]? = w.heap[3]? := hb.block _ (by omega)
  unfold Lib.TabIs World.var? at h3 ⊢
  rw [gPow] at h3 ⊢
  simp only [Option.bind_some] at h3 ⊢
  rw [e]; exact h3

set_option maxRecDepth 100000 in
set_option maxHeartbeats 4000000 in
/-- up to the first ';', by the library -/
theorem upTo_any (s : ByteArray) (hs : s.size ≤ 65536) (w : World) :
    Calls Tryd.prog 21 #[.string s] w fun e w' => e = .returned (.string ⟨(told s.data.toList).toArray⟩) ∧ w = w' := by
  obtain ⟨m, hm1, hm2⟩ : ∃ m : Nat, (m = if 6 < s.size then 6 else s.size) ∧ m ≤ s.size := ⟨_, rfl, by split <;> omega⟩
  have hmin : ∀ (ts : Array TypeId) (t : TypeId) w, (Builtin.min_ ts t #[.int .i64 (s.size : Int), .int .i64 6]).run Tryd.prog w = .ok (.int .i64 (m : Int)) w := fun ts t w => by
    rw [run_min_int2]
    congr 3
    rw [hm1]
    by_cases h : 6 < s.size
    · rw [if_pos (by omega), if_pos h]; rfl
    · rw [if_neg (by omega), if_neg h]
  have hx : ∀ w, (Instr.slice 9 (.string s) none (some (.int .i64 (m : Int))) none).run Tryd.prog w = .ok (.string (s.extract 0 m)) w := fun w => by
    rw [run_slice_string_to_if w 9 s .i64 _ Tryd.underlying9, if_pos (by omega)]
    rfl
  have hT : (s.extract 0 m).data.toList = s.data.toList.take 6 := by
    have e : (s.extract 0 m).data.toList = s.data.toList.take m := by
      rw [ByteArray.data_extract, Array.toList_extract]; simp
    rw [e, hm1]
    split
    · rfl
    · rw [List.take_of_length_le (l := s.data.toList) (i := 6) (by simp; omega), List.take_of_length_le (by simp)]
  generalize hTe : s.extract 0 m = T at hx hT
  clear hTe
  have hJ0 := Lib.indexByte_ge T.data.toList 59
  have hJ1 : Lib.indexByte T.data.toList 59 < (T.size : Int) := by
    by_cases e : Lib.indexByte T.data.toList 59 = -1
    · omega
    · obtain ⟨o, ho⟩ := Int.eq_ofNat_of_zero_le (show 0 ≤ Lib.indexByte T.data.toList 59 by omega)
      obtain ⟨h1, _⟩ := Lib.indexByte_some ho
      have := (List.getElem?_eq_some_iff.1 h1).1
      simp at this
      rw [ho]; omega
  have hT6 : T.size ≤ 6 := by
    have := congrArg List.length hT
    simp [List.length_take] at this
    have e : T.data.size = T.size := rfl
    omega
  have hIdx : ∀ w, Calls Tryd.prog 36 #[.string T, .int .u8 59] w fun e w' => e = .returned (.int .i64 (Lib.indexByte T.data.toList 59)) ∧ w' = w := fun w =>
    (strings_IndexByte T 59 w).mono fun _ _ ⟨h1, h2⟩ => ⟨h1, h2⟩
  have hR : told s.data.toList = T.data.toList.take (Lib.indexByte T.data.toList 59 + 1).toNat := by unfold told; rw [← hT]
  generalize Lib.indexByte T.data.toList 59 = J at hIdx hJ0 hJ1 hR
  have hw : IntKind.i64.wrap (J + 1) = J + 1 := by rw [IntKind.wrap_i64]; omega
  have hy : ∀ w, (Instr.slice 9 (.string T) none (some (.int .i64 (J + 1))) none).run Tryd.prog w = .ok (.string ⟨(told s.data.toList).toArray⟩) w := fun w => by
    rw [run_slice_string_to_if w 9 T .i64 _ Tryd.underlying9, if_pos (by omega)]
    congr 2
    rw [hR]
    apply ByteArray.ext
    apply Array.toList_inj.1
    rw [ByteArray.data_extract, Array.toList_extract]; simp
  generalize (⟨(told s.data.toList).toArray⟩ : ByteArray) = R at hy
  clear hR hT hm1 hm2 hJ0 hJ1 hT6 hs
  go_enter Tryd.func21, Tryd.ntmps21
  go_wp2_with (go_at_call 36; refine (hIdx _).mono ?_; rintro e w1 ⟨rfl, rfl⟩)
  go_ret
  exact ⟨rfl, rfl⟩

def isNum (u : List UInt8) : Bool := Lib.hasPrefix u [38, 35]
theorem dec3_atoi : ∀ n : Fin 127, Lib.atoi (dec3 n) = some (n.val : Int) := by decide
/-- the number that the library tells, and its own text, are what the model has -/
theorem num3_lib {d : List UInt8} {n : Int} (h1 : 1 ≤ n) (h2 : n ≤ 126) (h : Lib.itoa n = d) : num3 d = some n.toNat := by
  obtain ⟨m, rfl⟩ := Int.eq_ofNat_of_zero_le (show 0 ≤ n by omega)
  rw [itoa_dec3 (by omega)] at h
  rw [← h]
  exact num3_dec3 (by omega) (by omega)
theorem num3_nolib {d : List UInt8} (h : ∀ n : Int, Lib.atoi d = some n → 1 ≤ n → n ≤ 126 → Lib.itoa n ≠ d) : num3 d = none := by
  refine num3_none fun n h1 h2 e => ?_
  have ha := dec3_atoi ⟨n, by omega⟩
  simp only at ha
  rw [← e] at ha
  exact h n ha (by omega) (by omega) (by rw [itoa_dec3 (by omega)]; exact e.symm)
theorem beq_dec (a b : UInt8) : (b == a) = decide (a = b) := by rw [Bool.eq_iff_iff, beq_iff_eq, decide_eq_true_iff]; exact eq_comm
theorem numbered_end {u : List UInt8} : numbered (u ++ [59]) = if isNum u = true then num3 (u.drop 2) else none := by
  match u with
  | [] => rfl
  | [a] => simp [numbered, isNum, Lib.hasPrefix, List.isPrefixOf]
  | a :: b :: r =>
    have e : numbered (a :: b :: r ++ [59]) = if a = 38 ∧ b = 35 then num3 r else none := by
      show (if a = 38 ∧ b = 35 ∧ (r ++ [59]).getLast? = some 59 then num3 (r ++ [59]).dropLast else none) = _
      simp
    have e2 : isNum (a :: b :: r) = (decide (a = 38) && decide (b = 35)) := by
      simp only [isNum, Lib.hasPrefix, List.isPrefixOf, Bool.and_true]
      rw [beq_dec a 38, beq_dec b 35]
    rw [e, e2]
    by_cases h1 : a = 38 <;> by_cases h2 : b = 35 <;> simp [h1, h2]
/-- the byte that a number's escape means, as a text -/
def byteText (o : Option Nat) : ByteArray := match o with | some n => ⟨#[UInt8.ofNat n]⟩ | none => ⟨#[]⟩
theorem encode_small {n : Int} (h1 : 1 ≤ n) (h2 : n ≤ 126) : Utf8.encode n = ⟨#[UInt8.ofNat n.toNat]⟩ := by
  have hv : Utf8.valid n = true := by simp [Utf8.valid]; omega
  unfold Utf8.encode
  simp only [hv, if_true]
  rw [if_pos (by omega)]
theorem convNum (n : Int) (w : World) : (convert 21 9 (.int .i32 n)).run Tryd.prog w = .ok (.string (Utf8.encode n)) w := by
  simp [convert, run_underlying Tryd.underlying21, run_underlying Tryd.underlying9, Conv.intToString]
theorem trim_semi (t : ByteArray) (u : List UInt8) (h : t.data.toList = u ++ [59]) : Lib.trimSuffix t.data.toList [59] = u := by
  rw [h]
  have hs : Lib.hasSuffix (u ++ [59]) [59] = true := by rw [Lib.hasSuffix, List.isSuffixOf_iff_suffix]; exact ⟨u, rfl⟩
  rw [Lib.trimSuffix, if_pos hs]
  simp

theorem numbered_lib {l : List UInt8} (h : l = [] ∨ ∃ u, l = u ++ [59]) : numbered l = if Lib.hasPrefix (Lib.trimSuffix l [59]) [38, 35] = true then num3 (Lib.trimPrefix (Lib.trimSuffix l [59]) [38, 35]) else none := by
  rcases h with rfl | ⟨u, rfl⟩
  · rfl
  · have e : Lib.trimSuffix (u ++ [59]) [59] = u := trim_semi ⟨(u ++ [59]).toArray⟩ u (by simp)
    rw [e, numbered_end]
    unfold isNum
    split
    · rw [Lib.trimPrefix, if_pos (by assumption)]; rfl
    · rfl

set_option maxRecDepth 100000 in
set_option maxHeartbeats 8000000 in
/-- a number's meaning, by the library -/
theorem numMean_any (t : ByteArray) (ht : t.size ≤ 6) (he : t.data.toList = [] ∨ ∃ u, t.data.toList = u ++ [59]) (w : World) (hw : Env w) :
    Calls Tryd.prog 37 #[.string t] w fun e w' => e = .returned (.string (byteText (numbered t.data.toList))) ∧ Below w.heap.size w w' := by
  have hN := numbered_lib he
  have hl1 := Lib.trimSuffix_le t.data.toList [59]
  have hTrim : ∀ w, Calls Tryd.prog 48 #[.string t, .string ⟨#[59]⟩] w fun e w' => e = .returned (.string ⟨(Lib.trimSuffix t.data.toList [59]).toArray⟩) ∧ w = w' := fun w =>
    (strings_TrimSuffix t ⟨#[59]⟩ w (by omega)).mono fun _ _ ⟨h1, h2⟩ => ⟨h1, h2.symm⟩
  generalize hU : (⟨(Lib.trimSuffix t.data.toList [59]).toArray⟩ : ByteArray) = U at hTrim
  have hUl : U.data.toList = Lib.trimSuffix t.data.toList [59] := by rw [← hU]
  rw [← hUl] at hN hl1
  clear hU hUl
  have hCut : ∀ w, Calls Tryd.prog 47 #[.string U, .string ⟨#[38, 35]⟩] w fun e w' => e = .returned (.tuple #[.string ⟨(Lib.trimPrefix U.data.toList [38, 35]).toArray⟩, .bool (Lib.hasPrefix U.data.toList [38, 35])]) ∧ w = w' := fun w =>
    (strings_CutPrefix U ⟨#[38, 35]⟩ w).mono fun _ _ ⟨h1, h2⟩ => ⟨h1, h2.symm⟩
  have hl2 : (Lib.trimPrefix U.data.toList [38, 35]).length ≤ U.data.toList.length := by
    unfold Lib.trimPrefix; split
    · simp
    · omega
  generalize hD : (⟨(Lib.trimPrefix U.data.toList [38, 35]).toArray⟩ : ByteArray) = D at hCut
  have hDl : D.data.toList = Lib.trimPrefix U.data.toList [38, 35] := by rw [← hD]
  rw [← hDl] at hN hl2
  have hD18 : D.size ≤ 18 := by
    have e1 : D.data.toList.length = D.size := by rw [Array.length_toList]; rfl
    have e2 : t.data.toList.length = t.size := by rw [Array.length_toList]; rfl
    omega
  generalize Lib.hasPrefix U.data.toList [38, 35] = b at hN hCut
  clear hD hDl hl1 hl2 he ht
  generalize hM : byteText (numbered t.data.toList) = M
  rw [hN] at hM
  clear hN
  cases ha : Lib.atoi D.data.toList with
  | none =>
    have hM0 : M = ⟨#[]⟩ := by
      rw [← hM, num3_nolib (d := D.data.toList) (fun n h => by rw [ha] at h; cases h)]
      simp [byteText]
    subst hM0
    obtain ⟨ev, hv, hev⟩ := hw.1
    cases b with
    | false =>
      go_enter Tryd.func37, Tryd.ntmps37
      go_wp2_with (first | (go_at_call 48; refine (hTrim _).mono ?_; rintro e w1 ⟨rfl, rfl⟩) | (go_at_call 47; refine (hCut _).mono ?_; rintro e w1 ⟨rfl, rfl⟩) | (go_at_call 49; refine (strconv_Atoi_err D hD18 ha ev _ hv hev).mono ?_; rintro e w1 ⟨N, rfl, -, -, hb⟩))
      go_ret
      exact ⟨rfl, by assumption⟩
    | true =>
      go_enter Tryd.func37, Tryd.ntmps37
      go_wp2_with (first | (go_at_call 48; refine (hTrim _).mono ?_; rintro e w1 ⟨rfl, rfl⟩) | (go_at_call 47; refine (hCut _).mono ?_; rintro e w1 ⟨rfl, rfl⟩) | (go_at_call 49; refine (strconv_Atoi_err D hD18 ha ev _ hv hev).mono ?_; rintro e w1 ⟨N, rfl, -, -, hb⟩))
      go_ret
      exact ⟨rfl, by assumption⟩
  | some n =>
    cases b with
    | false =>
      have hM0 : M = ⟨#[]⟩ := by rw [← hM]; simp [byteText]
      subst hM0
      go_enter Tryd.func37, Tryd.ntmps37
      go_wp2_with (first | (go_at_call 48; refine (hTrim _).mono ?_; rintro e w1 ⟨rfl, rfl⟩) | (go_at_call 47; refine (hCut _).mono ?_; rintro e w1 ⟨rfl, rfl⟩) | (go_at_call 49; go_must (refine (strconv_Atoi D n hD18 ha _).mono ?_; rintro e w1 ⟨rfl, t', hw'⟩; have hb : Below w.heap.size w w1 := (by rw [hw']; exact Lib.bytesWorld_below _ _ _); clear hw')))
      go_ret
      exact ⟨rfl, by assumption⟩
    | true =>
      rw [if_pos rfl] at hM
      by_cases h1 : n < 1
      · have h1' : decide (n < 1) = true := decide_eq_true h1
        have hM0 : M = ⟨#[]⟩ := by
          rw [← hM, num3_nolib (d := D.data.toList) (fun n' h h2 h3 => by rw [ha] at h; cases h; omega)]
          simp [byteText]
        subst hM0
        go_enter Tryd.func37, Tryd.ntmps37
        go_wp2_with (first | (go_at_call 48; refine (hTrim _).mono ?_; rintro e w1 ⟨rfl, rfl⟩) | (go_at_call 47; refine (hCut _).mono ?_; rintro e w1 ⟨rfl, rfl⟩) | (go_at_call 49; go_must (refine (strconv_Atoi D n hD18 ha _).mono ?_; rintro e w1 ⟨rfl, t', hw'⟩; have hb : Below w.heap.size w w1 := (by rw [hw']; exact Lib.bytesWorld_below _ _ _); clear hw')))
        go_ret
        exact ⟨rfl, by assumption⟩
      · have h1' : decide (n < 1) = false := decide_eq_false h1
        by_cases h2 : 126 < n
        · have h2' : decide (126 < n) = true := decide_eq_true h2
          have hM0 : M = ⟨#[]⟩ := by
            rw [← hM, num3_nolib (d := D.data.toList) (fun n' h h2 h3 => by rw [ha] at h; cases h; omega)]
            simp [byteText]
          subst hM0
          go_enter Tryd.func37, Tryd.ntmps37
          go_wp2_with (first | (go_at_call 48; refine (hTrim _).mono ?_; rintro e w1 ⟨rfl, rfl⟩) | (go_at_call 47; refine (hCut _).mono ?_; rintro e w1 ⟨rfl, rfl⟩) | (go_at_call 49; go_must (refine (strconv_Atoi D n hD18 ha _).mono ?_; rintro e w1 ⟨rfl, t', hw'⟩; have hb : Below w.heap.size w w1 := (by rw [hw']; exact Lib.bytesWorld_below _ _ _); clear hw')))
          go_ret
          exact ⟨rfl, by assumption⟩
        · have h2' : decide (126 < n) = false := decide_eq_false h2
          by_cases h3 : Lib.itoa n = D.data.toList
          · have hMs : M = ⟨#[UInt8.ofNat n.toNat]⟩ := by rw [← hM, num3_lib (by omega) (by omega) h3]; rfl
            have hD3 : (⟨(Lib.itoa n).toArray⟩ : ByteArray) = D := by
              rw [h3]
            have hwr : IntKind.i32.wrap n = n := by rw [IntKind.wrap_i32]; omega
            have hcv := convNum n
            rw [encode_small (by omega) (by omega), ← hMs] at hcv
            go_enter Tryd.func37, Tryd.ntmps37
            go_wp2_with (first | (go_at_call 48; refine (hTrim _).mono ?_; rintro e w1 ⟨rfl, rfl⟩) | (go_at_call 47; refine (hCut _).mono ?_; rintro e w1 ⟨rfl, rfl⟩) | (go_at_call 49; go_must (refine (strconv_Atoi D n hD18 ha _).mono ?_; rintro e w1 ⟨rfl, t', hw'⟩; have hb : Below w.heap.size w w1 := (by rw [hw']; exact Lib.bytesWorld_below _ _ _); clear hw')) | (go_at_call 50; go_must (refine (strconv_Itoa n (by omega) (by omega) _ (hw.below (by assumption)).2.1).mono ?_; rintro e w2 ⟨rfl, k', os, hw2⟩; have hb2 : Below w.heap.size w w2 := (by rw [hw2]; exact Below.trans (by assumption) (Lib.below_grow _ _ (Below.size (by assumption)) _ _)); clear hw2)))
            go_ret
            exact ⟨by rw [hMs]; rfl, hb2⟩
          · have hM0 : M = ⟨#[]⟩ := by
              rw [← hM, num3_nolib (d := D.data.toList) (fun n' h _ _ => by rw [ha] at h; cases h; exact h3)]
              simp [byteText]
            subst hM0
            have hne : (!D.toList == Lib.itoa n) = true := by
              have e : ¬ D.toList = Lib.itoa n := fun e => h3 (by rw [← e, ByteArray.toList_eq])
              simp [e]
            go_enter Tryd.func37, Tryd.ntmps37
            go_wp2_with (first | (go_at_call 48; refine (hTrim _).mono ?_; rintro e w1 ⟨rfl, rfl⟩) | (go_at_call 47; refine (hCut _).mono ?_; rintro e w1 ⟨rfl, rfl⟩) | (go_at_call 49; go_must (refine (strconv_Atoi D n hD18 ha _).mono ?_; rintro e w1 ⟨rfl, t', hw'⟩; have hb : Below w.heap.size w w1 := (by rw [hw']; exact Lib.bytesWorld_below _ _ _); clear hw')) | (go_at_call 50; go_must (refine (strconv_Itoa n (by omega) (by omega) _ (hw.below (by assumption)).2.1).mono ?_; rintro e w2 ⟨rfl, k', os, hw2⟩; have hb2 : Below w.heap.size w w2 := (by rw [hw2]; exact Below.trans (by assumption) (Lib.below_grow _ _ (Below.size (by assumption)) _ _)); clear hw2)))
            go_ret
            exact ⟨rfl, hb2⟩
end Go.Proofs.YtlghmcnhdmidnaaDoor
