import Derived.Test.YtlghmcnhdmidnaaDoorOne
import Derived.Test.YtlghmcnhdmidnaaDoorBuf
namespace Go.Proofs.YtlghmcnhdmidnaaDoor
open Go.ChangeShapes Go.WideShapes Go.ChangeAt Go.RowKit

/-- what a text of escapes means, in so many steps -/
def unF : Nat → List UInt8 → List UInt8
  | 0, _ => []
  | _ + 1, [] => []
  | f + 1, c :: r => if c = 38 then (match oneAt (c :: r) with | some (b, n) => b :: unF f ((c :: r).drop n) | none => c :: unF f r) else c :: unF f r
theorem unF_more : ∀ (f g : Nat) (l : List UInt8), l.length ≤ f → l.length ≤ g → unF f l = unF g l
  | 0, 0, _, _, _ => rfl
  | 0, g + 1, l, h, _ => by
    obtain rfl : l = [] := List.length_eq_zero_iff.1 (by omega)
    rfl
  | f + 1, 0, l, _, h => by
    obtain rfl : l = [] := List.length_eq_zero_iff.1 (by omega)
    rfl
  | f + 1, g + 1, [], _, _ => rfl
  | f + 1, g + 1, c :: r, h1, h2 => by
    simp only [List.length_cons] at h1 h2
    unfold unF
    have e : unF f r = unF g r := unF_more f g r (by omega) (by omega)
    split
    · cases ho : oneAt (c :: r) with
      | none => simp only [e]
      | some x =>
        obtain ⟨b, n⟩ := x
        obtain ⟨hn1, _, _, _⟩ := one_len ho
        have : unF f ((c :: r).drop n) = unF g ((c :: r).drop n) := unF_more f g _ (by simp; omega) (by simp; omega)
        simp only [this]
    · rw [e]
def un (l : List UInt8) : List UInt8 := unF l.length l
theorem un_nil : un [] = [] := rfl
theorem un_other {c : UInt8} (r : List UInt8) (h : c ≠ 38) : un (c :: r) = c :: un r := by
  show unF (r.length + 1) (c :: r) = c :: unF r.length r
  rw [unF, if_neg h]
theorem un_none {c : UInt8} {r : List UInt8} (h : oneAt (c :: r) = none) : un (c :: r) = c :: un r := by
  show unF (r.length + 1) (c :: r) = c :: unF r.length r
  rw [unF]
  by_cases e : c = 38
  · rw [if_pos e, h]
  · rw [if_neg e]
theorem un_some {r : List UInt8} {b : UInt8} {n : Nat} (h : oneAt (38 :: r) = some (b, n)) : un (38 :: r) = b :: un ((38 :: r).drop n) := by
  obtain ⟨hn1, hn2, _, _⟩ := one_len h
  show unF (r.length + 1) (38 :: r) = b :: unF _ _
  rw [unF, if_pos rfl, h]
  simp only
  rw [unF_more r.length _ _ (by simp; omega) (Nat.le_refl _)]

theorem OwnB.empty (w : World) : OwnB w (w.alloc (.cells #[] 5)) (.slice (some ⟨w.heap.size, 0, none⟩) 0 0) [] :=
  ⟨World.ownsRow_lit w #[] 0 (Nat.le_refl _) (by decide) rfl, (Below.refl _ _).alloc (Nat.le_refl _) _⟩
theorem OwnB.later {w0 w w' : World} {v : Value} {l : List UInt8} (h : OwnB w0 w v l) (hb : Below w.heap.size w w') : OwnB w0 w' v l := by
  refine ⟨⟨h.1.1, ?_⟩, h.2.trans (hb.mono h.2.size)⟩
  rcases h.1.2 with h2 | ⟨g, cap, cur, h2, h3, h4, h5⟩
  · exact Or.inl h2
  · refine Or.inr ⟨g, cap, cur, h2, h3, ?_, h5⟩
    have hlt : g < w.heap.size := (Array.getElem?_eq_some_iff.1 h4).1
    exact (hb.block g hlt).trans h4
/-- what has been told, and what is to come -/
def UnTo (s : ByteArray) (p : Nat) (l : List UInt8) : Prop := l ++ un (rest s p) = un s.data.toList ∧ l.length ≤ p
theorem UnTo.start (s : ByteArray) : UnTo s 0 [] := ⟨rfl, Nat.le_refl _⟩
theorem rest_drop (s : ByteArray) (p n : Nat) : (rest s p).drop n = rest s (p + n) := by simp [rest, List.drop_drop]
theorem UnTo.other {s : ByteArray} {p : Nat} {l : List UInt8} (h : UnTo s p l) (hp : p < s.size) (hc : s[p] ≠ 38) : UnTo s (p + 1) (l ++ [s[p]]) := by
  refine ⟨?_, by have := h.2; simp; omega⟩
  rw [← h.1, rest_cons hp, un_other _ hc, List.append_assoc]; rfl
theorem UnTo.none {s : ByteArray} {p : Nat} {l : List UInt8} (h : UnTo s p l) (hp : p < s.size) (hc : oneAt (rest s p) = none) : UnTo s (p + 1) (l ++ [s[p]]) := by
  refine ⟨?_, by have := h.2; simp; omega⟩
  rw [rest_cons hp] at hc
  rw [← h.1, rest_cons hp, un_none hc, List.append_assoc]; rfl
theorem UnTo.some {s : ByteArray} {p : Nat} {l : List UInt8} (h : UnTo s p l) (hp : p < s.size) (h38 : s[p] = 38) {b : UInt8} {n : Nat} (hc : oneAt (rest s p) = some (b, n)) : UnTo s (p + n) (l ++ [b]) ∧ p + n ≤ s.size ∧ 1 ≤ n := by
  have hl := one_len hc
  have hrl := rest_len s p
  refine ⟨⟨?_, by have := h.2; simp; omega⟩, by omega, hl.1⟩
  have e := rest_drop s p n
  rw [rest_cons hp, h38] at hc e
  rw [← h.1, rest_cons hp, h38, un_some hc, e, List.append_assoc]; rfl
theorem UnTo.done {s : ByteArray} {l : List UInt8} (h : UnTo s s.size l) : l = un s.data.toList := by
  have := h.1
  rw [show rest s s.size = [] by simp [rest], un_nil, List.append_nil] at this
  exact this
theorem ret_str {a b : List UInt8} (h : a = b) : Ending.returned (.string ⟨a.toArray⟩) = .returned (.string ⟨b.toArray⟩) := by rw [h]

set_option maxHeartbeats 4000000 in
theorem l02Un_any (s : ByteArray) (hs : s.size ≤ 65536) (w : World) :
    Calls Tryd.prog 26 #[.string s] w fun e w' => e = .returned (.string ⟨(un s.data.toList).toArray⟩) ∧ Below w.heap.size w w' := by
  go_enter Tryd.func26, Tryd.ntmps26
  go_wp2
  go_loopw [4, 3] (fun i v wr => ∃ (p : Nat) (l : List UInt8), p ≤ s.size ∧ i = .int .i64 p ∧ OwnB w wr v l ∧ UnTo s p l) (fun i _ _ => s.size - (intOf i).toNat)
  case atStart => exact ⟨0, [], Nat.zero_le _, rfl, OwnB.empty w, UnTo.start s⟩
  case round =>
    obtain ⟨p, l, hp, rfl, hown, hun⟩ := hrel
    have HU := Lib.hid hun
    have hll := hun.2
    clear hun
    by_cases hlt : p < s.size
    · by_cases h38 : ((s[p].toNat : Int) == 38) = true
      · have H38 := Lib.hid (show s[p] = 38 from byte_of_int (n := 38) (by omega) h38)
        go_wp2_with (go_at_call 40; refine (l02One_any s p hlt hs H38.out _).mono ?_)
        rintro e w1 ⟨c, n, rfl, hc, hb⟩
        replace hown := hown.later hb
        clear hb
        rcases hc with ⟨b, m, ho, rfl, rfl⟩ | ⟨ho, rfl, rfl⟩
        · obtain ⟨hu2, hm1, hm2⟩ := HU.out.some hlt H38.out ho
          have HU2 := Lib.hid hu2
          clear hu2 ho
          have hm3 : (0 : Int) < (m : Int) := by omega
          go_wp2_with (at_builtin; refine wpList_append_byte w _ rfl (.tmp 24) (.tmp 26) rfl _ _ _ b rfl rfl hown ?c1 ?c2 ?_)
          case c1 => omega
          case c2 => rfl
          intro v' w2 hown1
          clear hown
          go_wp2
          go_roundw
          case rel => exact ⟨p + m, _, hm1, by go_num, hown1, HU2.out⟩
          case measure => simp [intOf]; omega
        · have HU2 := Lib.hid (HU.out.none hlt ho)
          clear ho
          go_wp2_with (at_builtin; refine wpList_append_byte w _ rfl (.tmp 31) (.tmp 35) rfl _ _ _ s[p] rfl rfl hown ?c1 ?c2 ?_)
          case c1 => omega
          case c2 => rfl
          intro v' w2 hown1
          clear hown
          go_wp2
          go_roundw
          case rel => exact ⟨p + 1, _, by omega, by go_num, hown1, HU2.out⟩
          case measure => simp [intOf]; omega
      · have h38' : ((s[p].toNat : Int) == 38) = false := by simpa using h38
        have HU2 := Lib.hid (HU.out.other hlt (fun e => h38 (by rw [e]; rfl)))
        clear h38
        go_wp2_with (at_builtin; refine wpList_append_byte w _ rfl (.tmp 31) (.tmp 35) rfl _ _ _ s[p] rfl rfl hown ?c1 ?c2 ?_)
        case c1 => omega
        case c2 => rfl
        intro v' w2 hown1
        clear hown
        go_wp2
        go_roundw
        case rel => exact ⟨p + 1, _, by omega, by go_num, hown1, HU2.out⟩
        case measure => simp [intOf]; omega
    · obtain rfl : p = s.size := by omega
      go_wp2_with (refine wpList_string_own w _ rfl (.tmp 39) rfl _ _ rfl hown ?_)
      go_ret
      exact ⟨ret_str HU.out.done, hown.2⟩

/-- the whole answer -/
def unAns (s : ByteArray) : ByteArray := if s.size ≤ 65536 then ⟨(un s.data.toList).toArray⟩ else ⟨#[]⟩
theorem specUnescape_any (s : ByteArray) (w : World) :
    Calls Tryd.prog 12 #[.string s] w fun e w' => e = .returned (.string (unAns s)) ∧ Below w.heap.size w w' := by
  by_cases h : (s.size : Int) ≤ 65536
  · have h' : ¬ (65536 : Int) < s.size := by omega
    go_enter Tryd.func12, Tryd.ntmps12
    go_wp2_with (go_at_call 26; refine (l02Un_any s (by omega) _).mono ?_; rintro e w1 ⟨rfl, hb⟩)
    go_ret
    exact ⟨ret_string (by rw [unAns, if_pos (by omega)]), hb⟩
  · have h' : (65536 : Int) < s.size := by omega
    go_enter Tryd.func12, Tryd.ntmps12
    go_wp2
    go_ret
    exact ⟨ret_string (by rw [unAns, if_neg (by omega)]), Below.refl _ _⟩
end Go.Proofs.YtlghmcnhdmidnaaDoor
