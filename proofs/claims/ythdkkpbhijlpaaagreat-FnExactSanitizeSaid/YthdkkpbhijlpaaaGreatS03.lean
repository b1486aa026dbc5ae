import Derived.Lib.Hide
import Derived.Deep.QuietTactic
import Derived.BigQuiet
import Derived.Test.YthdkkpbhijlpaaaGreatS02
set_option linter.unusedVariables false
namespace Go.Proofs.YthdkkpbhijlpaaaGreat
open Go.ChangeShapes Go.WideShapes Go.ChangeAt Go.RowKit

/-- one of some texts -/
def inL (ls : List (List UInt8)) (s : ByteArray) : Bool := ls.any fun l => l == s.toList
theorem size_toList (s : ByteArray) : s.toList.length = s.size := by rw [ByteArray.toList_eq]; simp
theorem beq_long' {s : ByteArray} {l : List UInt8} (h : l.length < s.size) : (s.toList == l) = false := by
  rw [beq_eq_false_iff_ne]; intro e; have := size_toList s; rw [e] at this; omega
theorem inL_take_snoc {ls : List (List UInt8)} {s : ByteArray} {k : Nat} (hk : k < ls.length) : inL (ls.take (k + 1)) s = (inL (ls.take k) s || (ls[k] == s.toList)) := by
  unfold inL; rw [List.take_succ_eq_append_getElem hk, List.any_append]; simp only [List.any_cons, List.any_nil, Bool.or_false]
theorem inL_hit {ls : List (List UInt8)} {s : ByteArray} {k : Nat} (hk : k < ls.length) (h : (ls[k] == s.toList) = true) : true = inL ls s := by
  symm; rw [inL, List.any_eq_true]; exact ⟨_, List.getElem_mem hk, h⟩
set_option maxHeartbeats 400000 in
theorem l01Has_any (ls : List (List UInt8)) (b off : Nat) (s : ByteArray) (w : World) (hl : ls.length ≤ 100)
    (hc : ∀ k (h : k < ls.length), w.cell? ⟨b, off + k, none⟩ = some (.string ⟨ls[k].toArray⟩)) :
    Calls Tryz.prog 117 #[.slice (some ⟨b, off, none⟩) ls.length ls.length, .string s] w fun e w' => e = .returned (.bool (inL ls s)) ∧ w = w' := by
  have HC := Lib.hid hc
  clear hc
  go_enter Tryz.func117, Tryz.ntmps117
  go_wp2
  go_loop [5] (fun i => ∃ k : Nat, k ≤ ls.length ∧ i = .int .i64 k ∧ inL (ls.take k) s = false) (fun i => ls.length - (intOf i).toNat)
  case atStart => exact ⟨0, by omega, rfl, by simp [inL]⟩
  case round =>
    obtain ⟨k, hk, rfl, hall⟩ := hrel
    have HA := Lib.hid hall
    clear hall
    by_cases hlt : k < ls.length
    · have hck := HC.out k hlt
      by_cases hf : (ls[k] == s.toList) = true
      · have HF := Lib.hid hf
        go_wp2
        go_ret
        exact ⟨ret_bool (inL_hit hlt HF.out), rfl⟩
      · have HF := Lib.hid hf
        have hf' : (ls[k] == s.toList) = false := by simpa using hf
        clear hf
        go_wp2
        go_round
        case rel => exact ⟨k + 1, by omega, by go_num, by rw [inL_take_snoc hlt, HA.out]; simpa using HF.out⟩
        case measure => simp [intOf]; omega
    · obtain rfl : k = ls.length := by omega
      go_wp2
      go_ret
      exact ⟨ret_bool (by have := HA.out; rw [List.take_length] at this; exact this.symm), rfl⟩
theorem cells_of (ls : List (List UInt8)) (w : World) (T : TypeId) (k : Nat) (h : k < ls.length) :
    (w.alloc (.cells (ls.map fun l => Value.string ⟨l.toArray⟩).toArray T)).cell? ⟨w.heap.size, 0 + k, none⟩ = some (.string ⟨ls[k].toArray⟩) := by
  rw [World.cell?_alloc_new]; simp [h]
def voidL : List (List UInt8) := [[98, 114], [104, 114], [105, 109, 103], [105, 110, 112, 117, 116], [109, 101, 116, 97], [108, 105, 110, 107], [98, 97, 115, 101], [101, 109, 98, 101, 100]]
theorem l01Void_any (s : ByteArray) (w : World) :
    Calls Tryz.prog 188 #[.string s] w fun e w' => e = .returned (.bool (inL voidL s)) ∧ Below w.heap.size w w' := by
  go_enter Tryz.func188, Tryz.ntmps188
  go_wp2_with (go_at_call 117; refine (l01Has_any voidL _ 0 _ _ (by decide) (fun k h => cells_of voidL _ _ k h)).mono ?_; rintro e w' ⟨rfl, rfl⟩)
  go_ret
  exact ⟨rfl, (Below.refl _ _).alloc (Nat.le_refl _) _⟩
def rawL : List (List UInt8) := [[115, 116, 121, 108, 101], [115, 99, 114, 105, 112, 116], [120, 109, 112], [105, 102, 114, 97, 109, 101]]
theorem l01Raw_any (s : ByteArray) (w : World) :
    Calls Tryz.prog 155 #[.string s] w fun e w' => e = .returned (.bool (inL rawL s)) ∧ Below w.heap.size w w' := by
  go_enter Tryz.func155, Tryz.ntmps155
  go_wp2_with (go_at_call 117; refine (l01Has_any rawL _ 0 _ _ (by decide) (fun k h => cells_of rawL _ _ k h)).mono ?_; rintro e w' ⟨rfl, rfl⟩)
  go_ret
  exact ⟨rfl, (Below.refl _ _).alloc (Nat.le_refl _) _⟩
def bannedL : List (List UInt8) := [[115, 99, 114, 105, 112, 116], [105, 102, 114, 97, 109, 101], [111, 98, 106, 101, 99, 116], [101, 109, 98, 101, 100], [102, 114, 97, 109, 101], [98, 97, 115, 101], [117, 115, 101]]
theorem l01Banned_any (s : ByteArray) (w : World) :
    Calls Tryz.prog 154 #[.string s] w fun e w' => e = .returned (.bool (inL bannedL s)) ∧ Below w.heap.size w w' := by
  go_enter Tryz.func154, Tryz.ntmps154
  go_wp2_with (go_at_call 117; refine (l01Has_any bannedL _ 0 _ _ (by decide) (fun k h => cells_of bannedL _ _ k h)).mono ?_; rintro e w' ⟨rfl, rfl⟩)
  go_ret
  exact ⟨rfl, (Below.refl _ _).alloc (Nat.le_refl _) _⟩
def linkL : List (List UInt8) := [[104, 114, 101, 102], [115, 114, 99], [97, 99, 116, 105, 111, 110], [102, 111, 114, 109, 97, 99, 116, 105, 111, 110], [120, 108, 105, 110, 107, 45, 104, 114, 101, 102]]
theorem l01Link_any (s : ByteArray) (w : World) :
    Calls Tryz.prog 152 #[.string s] w fun e w' => e = .returned (.bool (inL linkL s)) ∧ Below w.heap.size w w' := by
  go_enter Tryz.func152, Tryz.ntmps152
  go_wp2_with (go_at_call 117; refine (l01Has_any linkL _ 0 _ _ (by decide) (fun k h => cells_of linkL _ _ k h)).mono ?_; rintro e w' ⟨rfl, rfl⟩)
  go_ret
  exact ⟨rfl, (Below.refl _ _).alloc (Nat.le_refl _) _⟩
end Go.Proofs.YthdkkpbhijlpaaaGreat
namespace Go.Proofs.YthdkkpbhijlpaaaGreat
open Go.ChangeShapes Go.WideShapes Go.ChangeAt Go.RowKit

/-- from place a on, up to place k, all bytes are so -/
def AllTo (F : Int → Bool) (s : ByteArray) (a k : Nat) : Prop := ∀ i (h : i < s.size), a ≤ i → i < k → F (s[i].toNat : Int) = true
def Named (B F : Int → Bool) (s : ByteArray) : Prop := ∃ h : 0 < s.size, s.size ≤ 12 ∧ B (s[0].toNat : Int) = true ∧ AllTo F s 1 s.size
open Classical in
noncomputable def namedB (B F : Int → Bool) (s : ByteArray) : Bool := decide (Named B F s)
theorem namedB_true {B F : Int → Bool} {s : ByteArray} (h : Named B F s) : true = namedB B F s := by simp [namedB, h]
theorem namedB_false {B F : Int → Bool} {s : ByteArray} (h : ¬ Named B F s) : false = namedB B F s := by simp [namedB, h]
theorem allTo_step {F : Int → Bool} {s : ByteArray} {a k : Nat} (h : AllTo F s a k) (hk : k < s.size) (hf : F (s[k].toNat : Int) = true) : AllTo F s a (k + 1) := by
  intro i hi h1 h2
  by_cases e : i = k
  · subst e; exact hf
  · exact h i hi h1 (by omega)
theorem ne_nil {s : ByteArray} (h : 0 < s.size) : ¬ s.toList = [] := by
  intro e
  have h2 : s.toList.length = s.size := by rw [ByteArray.toList_eq]; simp
  rw [e] at h2; simp at h2; omega
theorem ne_empty {s : ByteArray} (h : 0 < s.size) : s.toList.isEmpty = false := by
  rw [List.isEmpty_eq_false_iff]; exact ne_nil h
theorem is_nil {s : ByteArray} (h : ¬ 0 < s.size) : s.toList = [] := by
  have h2 : s.toList.length = s.size := by rw [ByteArray.toList_eq]; simp
  exact List.length_eq_zero_iff.mp (by omega)
set_option maxHeartbeats 400000 in
theorem isNameOf_tag (s : ByteArray) (w : World) (hs : s.size ≤ maxLen) :
    Calls Tryz.prog 164 #[.string s, .func (.func 165) #[] #[], .func (.func 166) #[] #[]] w fun e w' => e = .returned (.bool (namedB small tagB s)) ∧ w = w' := by
  unfold maxLen at hs
  by_cases h0 : 0 < s.size
  · have hn := ne_nil h0
    have he := ne_empty h0
    by_cases h12 : s.size ≤ 12
    · by_cases hb : small (s[0].toNat : Int) = true
      · go_enter Tryz.func164, Tryz.ntmps164
        go_wp2_with (go_at_call 165; refine (isSmall_any _ _).mono ?_; rintro e w' ⟨rfl, rfl⟩)
        go_loop [7] (fun i => ∃ k : Nat, 1 ≤ k ∧ k ≤ s.size ∧ i = .int .i64 k ∧ AllTo tagB s 1 k) (fun i => s.size - (intOf i).toNat)
        case atStart => exact ⟨1, by omega, by omega, rfl, fun i _ _ _ => by omega⟩
        case round =>
          obtain ⟨k, hk1, hk, rfl, hall⟩ := hrel
          have HA := Lib.hid hall
          clear hall
          by_cases hlt : k < s.size
          · by_cases hf : tagB (s[k].toNat : Int) = true
            · go_wp2_with (go_at_call 166; refine (followsInTag_any _ _).mono ?_; rintro e w' ⟨rfl, rfl⟩)
              go_round
              case rel => exact ⟨k + 1, by omega, by omega, by go_num, allTo_step HA.out hlt hf⟩
              case measure => simp [intOf]; omega
            · go_wp2_with (go_at_call 166; refine (followsInTag_any _ _).mono ?_; rintro e w' ⟨rfl, rfl⟩)
              go_ret
              exact ⟨ret_bool (namedB_false fun h => hf (h.2.2.2 k hlt hk1 (by omega))), rfl⟩
          · obtain rfl : k = s.size := by omega
            go_wp2
            go_ret
            exact ⟨ret_bool (namedB_true ⟨h0, h12, hb, HA.out⟩), rfl⟩
      · go_enter Tryz.func164, Tryz.ntmps164
        go_wp2_with (go_at_call 165; refine (isSmall_any _ _).mono ?_; rintro e w' ⟨rfl, rfl⟩)
        go_ret
        exact ⟨ret_bool (namedB_false fun h => hb h.2.2.1), rfl⟩
    · go_enter Tryz.func164, Tryz.ntmps164
      go_wp2
      go_ret
      exact ⟨ret_bool (namedB_false fun h => h12 h.2.1), rfl⟩
  · have hn := is_nil h0
    go_enter Tryz.func164, Tryz.ntmps164
    go_wp2
    go_ret
    exact ⟨ret_bool (namedB_false fun h => h0 h.1), rfl⟩
theorem implTagOK_any (s : ByteArray) (w : World) (hs : s.size ≤ maxLen) :
    Calls Tryz.prog 110 #[.string s] w fun e w' => e = .returned (.bool (namedB small tagB s)) ∧ w = w' := by
  go_enter Tryz.func110, Tryz.ntmps110
  go_wp2_with (go_at_call 164; refine (isNameOf_tag _ _ hs).mono ?_; rintro e w' ⟨rfl, rfl⟩)
  go_ret
  exact ⟨rfl, rfl⟩
end Go.Proofs.YthdkkpbhijlpaaaGreat
namespace Go.Proofs.YthdkkpbhijlpaaaGreat
open Go.ChangeShapes Go.WideShapes Go.ChangeAt Go.RowKit

/-- the bytes up to place k are those of a tag's name -/
def TagTo (s : ByteArray) (k : Nat) : Prop := ∀ i (h : i < s.size), i < k → (if i = 0 then small (s[i].toNat : Int) else tagB (s[i].toNat : Int)) = true
theorem tagTo_step {s : ByteArray} {k : Nat} (h : TagTo s k) (hk : k < s.size) (hf : (if k = 0 then small (s[k].toNat : Int) else tagB (s[k].toNat : Int)) = true) : TagTo s (k + 1) := by
  intro i hi h2
  by_cases e : i = k
  · subst e; exact hf
  · exact h i hi (by omega)
theorem tagTo_named {s : ByteArray} (h0 : 0 < s.size) (h12 : s.size ≤ 12) (h : TagTo s s.size) : Named small tagB s :=
  ⟨h0, h12, by simpa using h 0 h0 h0, fun i hi h1 _ => by have := h i hi hi; rwa [if_neg (by omega)] at this⟩
theorem named_tagTo {s : ByteArray} (h : Named small tagB s) {k : Nat} (hk : k < s.size) : (if k = 0 then small (s[k].toNat : Int) else tagB (s[k].toNat : Int)) = true := by
  obtain ⟨h0, _, hb, ha⟩ := h
  by_cases e : k = 0
  · subst e; rw [if_pos rfl]; exact hb
  · rw [if_neg e]; exact ha k hk (by omega) hk
theorem small_yes {c : Int} (h : small c = true) : 97 ≤ c ∧ c ≤ 122 := by simpa [small] using h
theorem small_tag {c : Int} (h : small c = true) : tagB c = true := by simp [tagB, h]
theorem digit_tag {c : Int} (h : digit c = true) : tagB c = true := by simp [tagB, h]
theorem not_tag {c : Int} (h1 : ¬ small c = true) (h2 : ¬ digit c = true) (h3 : ¬ c = 45) : ¬ tagB c = true := by simp [tagB, h1, h2, h3]
set_option maxHeartbeats 1000000 in
theorem l01Tag_any (s : ByteArray) (w : World) (hs : s.size ≤ maxLen) :
    Calls Tryz.prog 163 #[.string s] w fun e w' => e = .returned (.bool (namedB small tagB s)) ∧ w = w' := by
  unfold maxLen at hs
  by_cases h0 : 0 < s.size
  · by_cases h12 : s.size ≤ 12
    · have hb1 : (decide ((1 : Int) ≤ s.size) && decide ((s.size : Int) ≤ 12)) = true := by simp; omega
      have HB := Lib.hid hb1
      clear hb1
      go_enter Tryz.func163, Tryz.ntmps163
      go_wp2_with (go_at_call 186; refine (l01In_any _ _ _ _).mono ?_; rintro e w' ⟨rfl, rfl⟩; rw [HB.out])
      go_loop [3, 4] (fun i b => ∃ k : Nat, k ≤ s.size ∧ i = .int .i64 k ∧ TagTo s k) (fun i _ => s.size - (intOf i).toNat)
      case atStart => exact ⟨0, by omega, rfl, fun i _ _ => by omega⟩
      case round =>
        obtain ⟨k, hk, rfl, hall⟩ := hrel
        have HA := Lib.hid hall
        clear hall
        by_cases hlt : k < s.size
        · by_cases hf : small (s[k].toNat : Int) = true
          · have HF := Lib.hid hf
            obtain ⟨f1, f2⟩ := small_yes hf
            clear hf
            go_wp2
            go_round
            case rel => exact ⟨k + 1, by omega, by go_num, tagTo_step HA.out hlt (by split; exact HF.out; exact small_tag HF.out)⟩
            case measure => simp [intOf]; omega
          · have hf2 : (s[k].toNat : Int) < 97 ∨ (97 ≤ (s[k].toNat : Int) ∧ decide ((s[k].toNat : Int) ≤ 122) = false) := by
              simp [small] at hf
              by_cases q : (s[k].toNat : Int) < 97
              · exact Or.inl q
              · exact Or.inr ⟨by omega, by simp; omega⟩
            have HF := Lib.hid hf
            clear hf
            by_cases e0 : k = 0
            · subst e0
              rcases hf2 with f | ⟨f, fd⟩
              all_goals
                go_wp2
                go_ret
                exact ⟨ret_bool (namedB_false fun h => HF.out (by simpa using named_tagTo h hlt)), rfl⟩
            · have e0' : ((k : Int) == 0) = false := by simp; omega
              by_cases hd : digit (s[k].toNat : Int) = true
              · rcases hf2 with f | ⟨f, fd⟩
                all_goals
                  go_wp2_with (go_at_call 190; refine (l00Digit_any _ _).mono ?_; rintro e w' ⟨rfl, rfl⟩)
                  go_round
                  case rel => exact ⟨k + 1, by omega, by go_num, tagTo_step HA.out hlt (by rw [if_neg e0]; exact digit_tag hd)⟩
                  case measure => simp [intOf]; omega
              · by_cases hm : ((s[k].toNat : Int) != 45) = true
                · rcases hf2 with f | ⟨f, fd⟩
                  all_goals
                    go_wp2_with (go_at_call 190; refine (l00Digit_any _ _).mono ?_; rintro e w' ⟨rfl, rfl⟩)
                    go_ret
                    exact ⟨ret_bool (namedB_false fun h => not_tag HF.out hd (by simpa using hm) (by have := named_tagTo h hlt; rwa [if_neg e0] at this)), rfl⟩
                · have hm' : ((s[k].toNat : Int) != 45) = false := by simpa using hm
                  clear hm
                  rcases hf2 with f | ⟨f, fd⟩
                  all_goals
                    go_wp2_with (go_at_call 190; refine (l00Digit_any _ _).mono ?_; rintro e w' ⟨rfl, rfl⟩)
                    go_round
                    case rel => exact ⟨k + 1, by omega, by go_num, tagTo_step HA.out hlt (by rw [if_neg e0, tagB]; simp at hm'; simp [hm'])⟩
                    case measure => simp [intOf]; omega
        · obtain rfl : k = s.size := by omega
          go_wp2
          go_ret
          exact ⟨ret_bool (namedB_true (tagTo_named h0 h12 HA.out)), rfl⟩
    · have hb1 : (decide ((1 : Int) ≤ s.size) && decide ((s.size : Int) ≤ 12)) = false := by simp; omega
      have HB := Lib.hid hb1
      clear hb1
      go_enter Tryz.func163, Tryz.ntmps163
      go_wp2_with (go_at_call 186; refine (l01In_any _ _ _ _).mono ?_; rintro e w' ⟨rfl, rfl⟩; rw [HB.out])
      go_ret
      exact ⟨ret_bool (namedB_false fun h => h12 h.2.1), rfl⟩
  · have hb1 : (decide ((1 : Int) ≤ s.size) && decide ((s.size : Int) ≤ 12)) = false := by simp; omega
    have HB := Lib.hid hb1
    clear hb1
    go_enter Tryz.func163, Tryz.ntmps163
    go_wp2_with (go_at_call 186; refine (l01In_any _ _ _ _).mono ?_; rintro e w' ⟨rfl, rfl⟩; rw [HB.out])
    go_ret
    exact ⟨ret_bool (namedB_false fun h => h0 h.1), rfl⟩
end Go.Proofs.YthdkkpbhijlpaaaGreat
namespace Go.Proofs.YthdkkpbhijlpaaaGreat
open Go.ChangeShapes Go.WideShapes Go.ChangeAt Go.RowKit Go.Deep

theorem addr_inj {a b o o' : Nat} (h : some (⟨a, o, none⟩ : Addr) = some ⟨b, o', none⟩) : a = b ∧ o = o' := by cases h; exact ⟨rfl, rfl⟩
/-- texts that stand somewhere -/
def NmIn (w : World) (A : Option Addr) (l : List ByteArray) : Prop :=
  l.length ≤ maxLen ∧ (l = [] ∨ ∃ g o, A = some ⟨g, o, none⟩ ∧ ∀ k (h : k < l.length), w.cell? ⟨g, o + k, none⟩ = some (.string l[k]) ∧ l[k].size ≤ maxLen)
theorem NmIn.carry {w w' : World} {A : Option Addr} {l : List ByteArray} (h : NmIn w A l) (hs : ∀ g o, A = some ⟨g, o, none⟩ → g < w.heap.size → ∀ j, j < l.length → w'.cell? ⟨g, o + j, none⟩ = w.cell? ⟨g, o + j, none⟩) : NmIn w' A l := by
  refine ⟨h.1, ?_⟩
  rcases h.2 with h | ⟨g, o, e, h⟩
  · exact Or.inl h
  · exact Or.inr ⟨g, o, e, fun k hk => ⟨(hs g o e (World.block_lt_of_cell? w _ (h k hk).1) k hk).trans (h k hk).1, (h k hk).2⟩⟩
theorem NmIn.next {w w' : World} {A : Option Addr} {l : List ByteArray} (h : NmIn w A l) (hB : Below w.heap.size w w') : NmIn w' A l :=
  h.carry fun g o _ hg j _ => hB.cell (p := ⟨g, o + j, none⟩) hg
theorem NmIn.drew {w : World} {A : Option Addr} {l : List ByteArray} (h : NmIn w A l) : NmIn w.drew A l := h.next (Below.refl _ _).drew
/-- .. the k-th -/
theorem NmIn.get {w : World} {A : Option Addr} {l : List ByteArray} (h : NmIn w A l) {k : Nat} (hk : k < l.length) : ∃ g o, A = some ⟨g, o, none⟩ ∧ g < w.heap.size ∧ w.cell? ⟨g, o + k, none⟩ = some (.string l[k]) ∧ l[k].size ≤ maxLen := by
  rcases h.2 with h | ⟨g, o, e, h⟩
  · subst h; exact absurd hk (Nat.not_lt_zero _)
  · exact ⟨g, o, e, World.block_lt_of_cell? w _ (h k hk).1, h k hk⟩
theorem NmIn.take {w : World} {A : Option Addr} {l : List ByteArray} (h : NmIn w A l) (k : Nat) : NmIn w A (l.take k) := by
  refine ⟨by have := h.1; simp; omega, ?_⟩
  rcases h.2 with h | ⟨g, o, e, h⟩
  · subst h; exact Or.inl (by simp)
  · exact Or.inr ⟨g, o, e, fun j hj => by
      have hj' : j < l.length := by simp at hj; omega
      rw [List.getElem_take]; exact h j hj'⟩
theorem NmIn.nil (w : World) (A : Option Addr) : NmIn w A [] := ⟨Nat.zero_le _, Or.inl rfl⟩
def nmSize : List ByteArray → Nat
  | [] => 0
  | x :: r => x.size + nmSize r
theorem nmSize_take {l : List ByteArray} {k : Nat} (hk : k < l.length) : nmSize (l.take (k + 1)) = nmSize (l.take k) + l[k].size := by
  induction l generalizing k with
  | nil => exact absurd hk (Nat.not_lt_zero _)
  | cons x r ih =>
    cases k with
    | zero => simp [nmSize]
    | succ k => simp only [List.take_succ_cons, nmSize, List.getElem_cons_succ]; rw [ih (by simpa using hk)]; omega
theorem nmSize_le (l : List ByteArray) (k : Nat) : nmSize (l.take k) ≤ nmSize l := by
  induction l generalizing k with
  | nil => simp [nmSize]
  | cons x r ih =>
    cases k with
    | zero => simp [nmSize]
    | succ k => simp only [List.take_succ_cons, nmSize]; have := ih k; omega
theorem szStringS_any (l : List ByteArray) (m : Nat) (w : World) (A : Option Addr) (c : Nat) (hm : m ≤ 1048576) (h : NmIn w A l) :
    Calls Tryz.prog 32 #[.slice A l.length c, .int .i64 (m : Int)] w fun e w' => e = .returned (.int .i64 (left m (l.length + nmSize l))) ∧ w = w' := by
  have hlen := h.1
  unfold maxLen at hlen
  by_cases c1 : l.length ≤ m
  · have HA := Lib.hid h
    clear h
    go_enter Tryz.func32, Tryz.ntmps32
    go_wp2
    go_loop [1, 5] (fun x i => ∃ k q : Nat, x = .int .i64 (q : Int) ∧ i = .int .i64 (k : Int) ∧ k ≤ l.length ∧ q + (l.length + nmSize (l.take k)) = m) (fun x i => l.length - (intOf i).toNat)
    case atStart => exact ⟨0, m - l.length, by go_num, rfl, by omega, by simp [nmSize]; omega⟩
    case round =>
      obtain ⟨k, q, rfl, rfl, hk, hq⟩ := hrel
      by_cases hlt : k < l.length
      · obtain ⟨g, o, rfl, hg, t1, t2⟩ := HA.out.get hlt
        have hs := nmSize_take hlt
        have hle := nmSize_le l (k + 1)
        have hle2 : nmSize (l.take (k + 1)) ≤ nmSize l := hle
        unfold maxLen at t2
        by_cases c2 : l[k].size ≤ q
        · go_wp2
          go_round
          case rel => exact ⟨k + 1, q - l[k].size, by go_num, by go_num, by omega, by rw [hs]; omega⟩
          case measure => simp [intOf]; omega
        · have HL := Lib.hid (left_gt (l := m) (n := l.length + nmSize l) (by omega))
          go_wp2
          go_ret
          exact ⟨by rw [HL.out]; rfl, rfl⟩
      · obtain rfl : k = l.length := by omega
        rw [List.take_length] at hq
        have HL := Lib.hid (left_le (l := m) (n := l.length + nmSize l) (by omega))
        go_wp2
        go_ret
        exact ⟨by rw [HL.out]; go_num, rfl⟩
  · have HL := Lib.hid (left_gt (l := m) (n := l.length + nmSize l) (by omega))
    clear h
    go_enter Tryz.func32, Tryz.ntmps32
    go_wp2
    go_ret
    exact ⟨by rw [HL.out]; rfl, rfl⟩
theorem make_texts (n : Nat) (hn : n ≤ 1048576) (w : World) : (Instr.makeSlice 24 (.int .i64 (n : Int)) (.int .i64 (n : Int))).run Tryz.prog w = .ok (.slice (some ⟨w.heap.size, 0, none⟩) n n) (w.alloc (.cells (madeCells #[.string ⟨#[]⟩] n) 9)) := by
  have hinfo : (Tryz.prog.info? 9).map (fun i => (i.zero, i.size, i.bytes)) = some (some (.string ⟨#[]⟩), 1, 16) := by kernel_rfl
  obtain ⟨i, hi, hzz⟩ := Option.map_eq_some_iff.1 hinfo
  simp only [Prod.mk.injEq] at hzz
  obtain ⟨hz, hs, hb⟩ := hzz
  have := run_make (P := Tryz.prog) w 24 9 i _ Tryz.underlying24 hi hz .i64 .i64 n n (by omega) (Int.le_refl _) (by rw [hb]; omega) (by omega)
  simp only [Int.toNat_natCast, hs, Nat.mul_one] at this
  exact this
theorem toStringS_any (l : List ByteArray) (w : World) (A : Option Addr) (c : Nat) (hl : l.length ≤ 1048576) (h : NmIn w A l) :
    Calls Tryz.prog 37 #[.slice A l.length c] w fun e w' => e = .returned (.slice (some ⟨w.heap.size, 0, none⟩) l.length l.length) ∧ Below w.heap.size w w' ∧ NmIn w' (some ⟨w.heap.size, 0, none⟩) l := by
  have hmk := make_texts l.length hl w
  have HA := Lib.hid h
  clear h
  go_enter Tryz.func37, Tryz.ntmps37
  go_wp2
  go_loopw [4] (fun i wr => ∃ k : Nat, i = .int .i64 (k : Int) ∧ k ≤ l.length ∧ Hid (Below w.heap.size w wr ∧ w.heap.size < wr.heap.size ∧ (∀ j (h : j < l.length), j < k → wr.cell? ⟨w.heap.size, j, none⟩ = some (.string l[j])) ∧ Room wr w.heap.size l.length)) (fun i wr => l.length - (intOf i).toNat)
  case atStart => exact ⟨0, rfl, Nat.zero_le _, Lib.hid ⟨(Below.refl _ _).alloc (Nat.le_refl _) _, by simp, fun j _ h => absurd h (Nat.not_lt_zero _), room_made _ _ _ _⟩⟩
  case round =>
    obtain ⟨k, rfl, hk, HH⟩ := hrel
    by_cases hlt : k < l.length
    · obtain ⟨g, o, rfl, hg, t1, t2⟩ := HA.out.get hlt
      have s1 := (HH.out.1.cell (p := ⟨g, o + k, none⟩) hg).trans t1
      obtain ⟨⟨v0, e0⟩, f0⟩ := HH.out.2.2.2 k (by omega)
      clear t1
      go_wp2
      go_roundw
      case rel =>
        refine ⟨k + 1, by go_num, by omega, Lib.hid ⟨HH.out.1.setCell (p := ⟨_, _, none⟩) (Nat.le_refl _) _, by simpa using HH.out.2.1, fun j hj hj' => ?_, HH.out.2.2.2.set _ _⟩⟩
        by_cases e : j = k
        · subst e; exact World.cell?_setCell_same _ _ _ e0
        · rw [World.cell?_setCell_other (h := by simp <;> omega)]; exact HH.out.2.2.1 j hj (by omega)
      case measure => simp [intOf]; omega
    · obtain rfl : k = l.length := by omega
      go_wp2
      go_ret
      exact ⟨rfl, HH.out.1, HA.out.1, Or.inr ⟨_, 0, rfl, fun k hk => ⟨by rw [Nat.zero_add]; exact HH.out.2.2.1 k hk hk, by obtain ⟨_, _, _, _, _, h⟩ := HA.out.get hk; exact h⟩⟩⟩
/-- the same texts -/
theorem eqNm_same (l : List ByteArray) (w : World) (A A' : Option Addr) (c c' : Nat) (h : NmIn w A l) (h' : NmIn w A' l) :
    Calls Tryz.prog 43 #[.slice A l.length c, .slice A' l.length c'] w fun e w' => e = .returned (.bool true) ∧ Below w.heap.size w w' := by
  have hlen := h.1
  unfold maxLen at hlen
  have HA := Lib.hid h
  have HA' := Lib.hid h'
  clear h h'
  go_enter Tryz.func43, Tryz.ntmps43
  go_wp2
  go_loopw [5] (fun i wr => ∃ k : Nat, k ≤ l.length ∧ i = .int .i64 k ∧ Hid (Below w.heap.size w wr)) (fun i wr => l.length - (intOf i).toNat)
  case atStart => exact ⟨0, by omega, rfl, Lib.hid (Below.refl _ _)⟩
  case round =>
    obtain ⟨k, hk, rfl, HB⟩ := hrel
    by_cases hlt : k < l.length
    · obtain ⟨g, o, rfl, hg, t1, _⟩ := HA.out.get hlt
      obtain ⟨g', o', rfl, hg', t1', _⟩ := HA'.out.get hlt
      have s1 := (HB.out.cell (p := ⟨g, o + k, none⟩) hg).trans t1
      have s1' := (HB.out.cell (p := ⟨g', o' + k, none⟩) hg').trans t1'
      clear t1 t1'
      go_wp2
      go_quiet (fail)
      go_wp2
      go_roundw
      case rel => exact ⟨k + 1, by omega, by go_num, Lib.hid (below_drewN HB.out _)⟩
      case measure => simp [intOf]; omega
    · obtain rfl : k = l.length := by omega
      go_wp2
      go_ret
      exact ⟨rfl, HB.out⟩
end Go.Proofs.YthdkkpbhijlpaaaGreat
