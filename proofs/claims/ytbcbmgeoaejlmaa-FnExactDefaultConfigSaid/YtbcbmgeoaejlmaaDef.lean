
import Derived.Test.YtbcbmgeoaejlmaaCfW
import Derived.Maps.AppendAt
namespace Go.Proofs.Ytbcbmgeoaejlmaa
open Go.ChangeShapes Go.WideShapes Go.ChangeAt Go.RowKit Go.Deep

theorem infoRu : (Try.prog.info? 89).map (fun i => (i.zero, i.size, i.bytes)) = some (some (.agg #[.int .i64 0, .string ⟨#[]⟩, .slice none 0 0]), 3, 48) := by kernel_rfl
/-- the cells of rules of space 0 and those names, without attributes -/
def PlainV (names : List ByteArray) (vs : List Value) : Prop := vs.length = names.length * 3 ∧ ∀ j (h : j < names.length), vs[j * 3]? = some (.int .i64 0) ∧ vs[j * 3 + 1]? = some (.string names[j]) ∧ ∃ B c, vs[j * 3 + 2]? = some (.slice B 0 c)
theorem PlainV.snoc {names : List ByteArray} {vs : List Value} (h : PlainV names vs) (n : ByteArray) (B : Option Addr) (c : Nat) : PlainV (names ++ [n]) (vs ++ [.int .i64 0, .string n, .slice B 0 c]) := by
  obtain ⟨h1, h2⟩ := h
  refine ⟨by simp [h1, Nat.add_mul], fun j hj => ?_⟩
  by_cases hl : j < names.length
  · obtain ⟨a1, a2, B', c', a3⟩ := h2 j hl
    rw [List.getElem?_append_left (by omega), List.getElem?_append_left (by omega), List.getElem?_append_left (by omega), List.getElem_append_left hl]
    exact ⟨a1, a2, B', c', a3⟩
  · have e : j = names.length := by simp at hj; omega
    subst e
    rw [List.getElem?_append_right (by omega), List.getElem?_append_right (by omega), List.getElem?_append_right (by omega)]
    have e0 : names.length * 3 - vs.length = 0 := by omega
    have e1 : names.length * 3 + 1 - vs.length = 1 := by omega
    have e2 : names.length * 3 + 2 - vs.length = 2 := by omega
    rw [e0, e1, e2]
    exact ⟨rfl, by simp, B, c, rfl⟩

/-- a rule is put behind a row of one's own -/
theorem wpList_append_rule {ops : Array Oper} {rest : List Oper} {o : Oper} {a : Act} {Q : Exit → Act → World → Prop} {w : World} (hgd : o.guard = none) (s y : Operand)
    (ho : o.op = .call { callee := .builtin .append, args := #[s, y], argTypes := #[32, 32] })
    (base : Nat) (v : Value) (n : Nat) (vs : List Value) (hs : a.eval s = v) (h0 : w.ownsRow base 89 3 v n vs) (g c : Nat) (z : Int) (t : ByteArray) (B : Option Addr) (m k : Nat) (hy : a.eval y = .slice (some ⟨g, 0, none⟩) 1 c) (hl : n ≤ 1048576) (hb : base ≤ w.heap.size)
    (hx : Lay w g #[.int .i64 z, .string t, .slice B m k])
    (h : ∀ v' w', w'.ownsRow base 89 3 v' (n + 1) (vs ++ [.int .i64 z, .string t, .slice B m k]) → Below base w w' → wpList Try.prog ops Q rest (a.put o.dst v') w') : wpList Try.prog ops Q (o :: rest) a w := by
  obtain ⟨i0, hi0, hz0, hz1, hz2⟩ := info_parts infoRu
  refine wpList_append_own_at (P := Try.prog) w hgd s y 32 ho base 89 i0 (.agg #[.int .i64 0, .string ⟨#[]⟩, .slice none 0 0]) 3 48 Try.underlying32 hi0 hz0 hz1 hz2 rfl (by decide) v n vs hs h0 ⟨g, 0, none⟩ 1 c [.int .i64 z, .string t, .slice B m k] hy rfl ?_ (by intro u hu; simp at hu; rcases hu with rfl | rfl | rfl <;> rfl) (by unfold maxLen; omega) (by omega) hb ?_
  · intro j u hu
    rw [Addr.add_lit, Nat.zero_add, hx.1 j, ← hu]
    match j with
    | 0 => rfl
    | 1 => rfl
    | 2 => rfl
    | j + 3 => rfl
  · intro v' w' h2 h3 _ _
    exact h v' w' h2 ((Below.refl base w).grown h3 hb (fun q hq => (World.ownsRow.lt h0 q hq).1))
set_option maxHeartbeats 1000000 in
set_option maxRecDepth 100000 in
theorem l07Plain_any (names : List ByteArray) (w : World) (A : Option Addr) (c : Nat) (hl : names.length ≤ 1000) (h : NmIn w A names) :
    Calls Try.prog 77 #[.slice A names.length c] w fun e w' => ∃ v vs, e = .returned v ∧ w'.ownsRow w.heap.size 89 3 v names.length vs ∧ PlainV names vs ∧ Below w.heap.size w w' := by
  obtain ⟨i0, hi0, hz0, hz1, hz2⟩ := info_parts infoRu
  have HN := Lib.hid h
  clear h
  go_enter Try.func77, Try.ntmps77
  go_wp2
  go_loopw [3, 4] (fun x i wr => ∃ (k : Nat) (vs : List Value), k ≤ names.length ∧ i = .int .i64 (k : Int) ∧ Hid (wr.ownsRow w.heap.size 89 3 x k vs ∧ PlainV (names.take k) vs ∧ Below w.heap.size w wr)) (fun x i wr => names.length - (intOf i).toNat)
  case atStart => exact ⟨0, [], Nat.zero_le _, rfl, Lib.hid ⟨World.ownsRow_made w #[] 0 (Nat.le_refl _) (Nat.zero_le _) (by simp), ⟨by simp, fun j h => by simp at h⟩, (Below.refl _ _).alloc (Nat.le_refl _) _⟩⟩
  case round =>
    obtain ⟨k, vs, hk, rfl, HH⟩ := hrel
    by_cases hlt : k < names.length
    · obtain ⟨g, o, rfl, hg, t1, _⟩ := (HN.out.next HH.out.2.2).get hlt
      have hsz := HH.out.2.2.size
      have hlit : Lay ((wr.alloc (.cells #[] 9)).alloc (.cells #[.int .i64 0, .string names[k], .slice (some ⟨wr.heap.size, 0, none⟩) 0 0] 89)) (wr.heap.size + 1) #[.int .i64 0, .string names[k], .slice (some ⟨wr.heap.size, 0, none⟩) 0 0] := by
        have h := Lay.new (wr.alloc (.cells #[] 9)) #[.int .i64 0, .string names[k], .slice (some ⟨wr.heap.size, 0, none⟩) 0 0] 89
        simpa using h
      have HLIT := Lib.hid hlit
      clear hlit
      go_wp2_with (at_builtin; refine wpList_append_rule rfl _ _ rfl w.heap.size _ k vs rfl ((HH.out.1.alloc _).alloc _) (wr.heap.size + 1) 1 0 names[k] (some ⟨wr.heap.size, 0, none⟩) 0 0 rfl (by omega) (by simp; omega) HLIT.out ?_; intro v1 w1 hown1 hB1; have HW := Lib.hid (And.intro hown1 (((Below.refl w.heap.size wr).alloc hsz (.cells #[] 9)).alloc (by simp; omega) (.cells #[.int .i64 0, .string names[k], .slice (some ⟨wr.heap.size, 0, none⟩) 0 0] 89) |>.trans hB1)); clear hown1 hB1)
      go_roundw
      case rel => exact ⟨k + 1, _, by omega, by go_num, Lib.hid ⟨HW.out.1, by rw [List.take_succ_eq_append_getElem hlt]; exact HH.out.2.1.snoc _ _ _, HH.out.2.2.trans HW.out.2⟩⟩
      case measure => simp [intOf]; omega
    · obtain rfl : k = names.length := by omega
      go_wp2
      go_ret
      exact ⟨_, vs, rfl, HH.out.1, by have := HH.out.2.1; rwa [List.take_length] at this, HH.out.2.2⟩
def defNames : List ByteArray := [⟨#[112]⟩, ⟨#[100, 105, 118]⟩, ⟨#[98]⟩, ⟨#[105]⟩, ⟨#[97]⟩, ⟨#[117, 108]⟩, ⟨#[108, 105]⟩, ⟨#[98, 114]⟩, ⟨#[104, 49]⟩, ⟨#[116, 97, 98, 108, 101]⟩]
/-- the rules of the configuration that is given -/
def defRu : List Ru := [(0, ⟨#[112]⟩, []), (0, ⟨#[100, 105, 118]⟩, []), (0, ⟨#[98]⟩, []), (0, ⟨#[105]⟩, []), (0, ⟨#[97]⟩, [⟨#[104, 114, 101, 102]⟩]), (0, ⟨#[117, 108]⟩, []), (0, ⟨#[108, 105]⟩, []), (0, ⟨#[98, 114]⟩, []), (0, ⟨#[104, 49]⟩, []), (0, ⟨#[116, 97, 98, 108, 101]⟩, [])]
def defC : Cf := ⟨true, true, defRu, [], [], [⟨#[99, 108, 97, 115, 115]⟩, ⟨#[105, 100]⟩, ⟨#[116, 105, 116, 108, 101]⟩], [], false, false⟩
/-- where its rows stand, the first of them in block n + 1 -/
def defV (n : Nat) : CfV := { a1 := some ⟨n + 2, 0, none⟩, c1 := 10, a2 := none, c2 := 0, a3 := none, c3 := 0, a4 := some ⟨n + 3, 0, none⟩, c4 := 3, a5 := none, c5 := 0 }
def defK (n : Nat) : CfB := { b1 := fun j => if j = 4 then [n + 1] else [], b2 := fun _ => [], b3 := fun _ => [], s1 := [n + 1, n + 2], s2 := [], s3 := [], s4 := [n + 3], s5 := [] }
theorem def_rows {w : World} {n : Nat} (h1 : Lay w (n + 1) #[.string ⟨#[104, 114, 101, 102]⟩]) (h2 : Lay w (n + 2) #[.int .i64 0, .string ⟨#[112]⟩, .slice none 0 0, .int .i64 0, .string ⟨#[100, 105, 118]⟩, .slice none 0 0, .int .i64 0, .string ⟨#[98]⟩, .slice none 0 0, .int .i64 0, .string ⟨#[105]⟩, .slice none 0 0, .int .i64 0, .string ⟨#[97]⟩, .slice (some ⟨n + 1, 0, none⟩) 1 1, .int .i64 0, .string ⟨#[117, 108]⟩, .slice none 0 0, .int .i64 0, .string ⟨#[108, 105]⟩, .slice none 0 0, .int .i64 0, .string ⟨#[98, 114]⟩, .slice none 0 0, .int .i64 0, .string ⟨#[104, 49]⟩, .slice none 0 0, .int .i64 0, .string ⟨#[116, 97, 98, 108, 101]⟩, .slice none 0 0]) (h3 : Lay w (n + 3) #[.string ⟨#[99, 108, 97, 115, 115]⟩, .string ⟨#[105, 100]⟩, .string ⟨#[116, 105, 116, 108, 101]⟩]) (hs : n + 3 < w.heap.size) : CfRows w defC (defV n) (defK n) where
  al := by
    refine Or.inr ⟨n + 2, rfl, by simp [defK], fun k hk => by simp [defK] at hk; omega, fun j hj => ?_, fun j hj k hk => ?_, fun i j hi hj hne k hk => ?_⟩
    · match j, hj with
      | 0, _ => exact ⟨⟨h2.1 0, h2.2 _⟩, ⟨h2.1 1, h2.2 _⟩, none, 0, Nat.le_refl _, ⟨h2.1 2, h2.2 _⟩, Or.inl ⟨rfl, rfl⟩⟩
      | 1, _ => exact ⟨⟨h2.1 3, h2.2 _⟩, ⟨h2.1 4, h2.2 _⟩, none, 0, Nat.le_refl _, ⟨h2.1 5, h2.2 _⟩, Or.inl ⟨rfl, rfl⟩⟩
      | 2, _ => exact ⟨⟨h2.1 6, h2.2 _⟩, ⟨h2.1 7, h2.2 _⟩, none, 0, Nat.le_refl _, ⟨h2.1 8, h2.2 _⟩, Or.inl ⟨rfl, rfl⟩⟩
      | 3, _ => exact ⟨⟨h2.1 9, h2.2 _⟩, ⟨h2.1 10, h2.2 _⟩, none, 0, Nat.le_refl _, ⟨h2.1 11, h2.2 _⟩, Or.inl ⟨rfl, rfl⟩⟩
      | 4, _ => exact ⟨⟨h2.1 12, h2.2 _⟩, ⟨h2.1 13, h2.2 _⟩, some ⟨n + 1, 0, none⟩, 1, Nat.le_refl _, ⟨h2.1 14, h2.2 _⟩, Or.inr ⟨n + 1, rfl, rfl, fun k hk => by
        match k, hk with
        | 0, _ => exact ⟨h1.1 0, h1.2 0⟩
        | k + 1, h => exact absurd h (by show ¬ k + 1 < 1; omega)⟩⟩
      | 5, _ => exact ⟨⟨h2.1 15, h2.2 _⟩, ⟨h2.1 16, h2.2 _⟩, none, 0, Nat.le_refl _, ⟨h2.1 17, h2.2 _⟩, Or.inl ⟨rfl, rfl⟩⟩
      | 6, _ => exact ⟨⟨h2.1 18, h2.2 _⟩, ⟨h2.1 19, h2.2 _⟩, none, 0, Nat.le_refl _, ⟨h2.1 20, h2.2 _⟩, Or.inl ⟨rfl, rfl⟩⟩
      | 7, _ => exact ⟨⟨h2.1 21, h2.2 _⟩, ⟨h2.1 22, h2.2 _⟩, none, 0, Nat.le_refl _, ⟨h2.1 23, h2.2 _⟩, Or.inl ⟨rfl, rfl⟩⟩
      | 8, _ => exact ⟨⟨h2.1 24, h2.2 _⟩, ⟨h2.1 25, h2.2 _⟩, none, 0, Nat.le_refl _, ⟨h2.1 26, h2.2 _⟩, Or.inl ⟨rfl, rfl⟩⟩
      | 9, _ => exact ⟨⟨h2.1 27, h2.2 _⟩, ⟨h2.1 28, h2.2 _⟩, none, 0, Nat.le_refl _, ⟨h2.1 29, h2.2 _⟩, Or.inl ⟨rfl, rfl⟩⟩
      | j + 10, h => exact absurd h (by simp [defC, defRu])
    · simp only [defK] at hk ⊢
      split at hk
      · simp at hk; subst hk; simp
      · simp at hk
    · simp only [defK] at hk ⊢
      split at hk
      · rename_i e
        rw [if_neg (by omega)]; simp
      · simp at hk
  rm := Or.inl rfl
  uw := Or.inl rfl
  at_ := Or.inr ⟨n + 3, rfl, rfl, fun k hk => by
    match k, hk with
    | 0, _ => exact ⟨h3.1 0, h3.2 _⟩
    | 1, _ => exact ⟨h3.1 1, h3.2 _⟩
    | 2, _ => exact ⟨h3.1 2, h3.2 _⟩
    | k + 3, h => exact absurd h (by simp [defC])⟩
  dp := Or.inl ⟨rfl, rfl⟩
theorem def_apart {n m : Nat} (hs : n + 3 < m) : (defK n).Apart m := by
  constructor <;> simp [defK] <;> omega
theorem def_fit : cfFit defC := by
  constructor
  · exact ⟨by simp [defC, defRu, maxLen], fun x hx => by
      simp only [defC, defRu, List.mem_cons, List.not_mem_nil, or_false] at hx
      rcases hx with rfl | rfl | rfl | rfl | rfl | rfl | rfl | rfl | rfl | rfl <;> exact ⟨by decide, by decide, by decide⟩⟩
  · exact ⟨by simp [defC, maxLen], fun x hx => by simp [defC] at hx⟩
  · exact ⟨by simp [defC, maxLen], fun x hx => by simp [defC] at hx⟩
  · exact ⟨by simp [defC, maxLen], by decide⟩
  · exact ⟨by simp [defC, maxLen], by decide⟩

theorem lay_three (w : World) (c0 c1 c2 c3 : Array Value) (t0 t1 t2 t3 : TypeId) :
    Lay ((((w.alloc (.cells c0 t0)).alloc (.cells c1 t1)).alloc (.cells c2 t2)).alloc (.cells c3 t3)) (w.heap.size + 1) c1 ∧ Lay ((((w.alloc (.cells c0 t0)).alloc (.cells c1 t1)).alloc (.cells c2 t2)).alloc (.cells c3 t3)) (w.heap.size + 2) c2 ∧ Lay ((((w.alloc (.cells c0 t0)).alloc (.cells c1 t1)).alloc (.cells c2 t2)).alloc (.cells c3 t3)) (w.heap.size + 3) c3 := by
  have a1 : Lay ((w.alloc (.cells c0 t0)).alloc (.cells c1 t1)) (w.heap.size + 1) c1 := by have h := Lay.new (w.alloc (.cells c0 t0)) c1 t1; simpa using h
  have a2 : Lay (((w.alloc (.cells c0 t0)).alloc (.cells c1 t1)).alloc (.cells c2 t2)) (w.heap.size + 2) c2 := by have h := Lay.new ((w.alloc (.cells c0 t0)).alloc (.cells c1 t1)) c2 t2; simpa using h
  have a3 : Lay ((((w.alloc (.cells c0 t0)).alloc (.cells c1 t1)).alloc (.cells c2 t2)).alloc (.cells c3 t3)) (w.heap.size + 3) c3 := by have h := Lay.new (((w.alloc (.cells c0 t0)).alloc (.cells c1 t1)).alloc (.cells c2 t2)) c3 t3; simpa using h
  exact ⟨a1.below (B := w.heap.size + 2) (((Below.refl _ _).alloc (by simp) _).alloc (by simp) _) (by omega), a2.below (B := w.heap.size + 3) ((Below.refl _ _).alloc (by simp) _) (by omega), a3⟩
/-- what the program hands back: rows of its own -/
def DefOut (w : World) (e : Ending) (w' : World) : Prop := ∃ n, w.heap.size ≤ n ∧ n + 3 < w'.heap.size ∧ e = .returned (.agg #[.bool true, .bool true, .slice (some ⟨n + 2, 0, none⟩) 10 10, .slice none 0 0, .slice none 0 0, .slice (some ⟨n + 3, 0, none⟩) 3 3, .slice none 0 0, .bool false, .bool false]) ∧ CfRows w' defC (defV n) (defK n) ∧ Below w.heap.size w w'
theorem implDefault_any (w : World) : Calls Try.prog 25 #[] w (DefOut w) := by
  go_enter Try.func25, Try.ntmps25
  go_wp2
  (try simp only [Exit.inBlock, Exit.then])
  refine bodyPost_ret (v := .agg #[.bool true, .bool true, .slice (some ⟨w.heap.size + 2, 0, none⟩) 10 10, .slice none 0 0, .slice none 0 0, .slice (some ⟨w.heap.size + 3, 0, none⟩) 3 3, .slice none 0 0, .bool false, .bool false]) (by simp [results, Try.results25, go_sem]) rfl ?_
  obtain ⟨l1, l2, l3⟩ := lay_three w _ _ _ _ _ _ _ _
  exact ⟨w.heap.size, Nat.le_refl _, by simp, rfl, def_rows l1 l2 l3 (by simp), by go_grown⟩
end Go.Proofs.Ytbcbmgeoaejlmaa
