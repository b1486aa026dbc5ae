import Derived.Lib.Hide
import Derived.Test.YtpennadfomnenaaGreatDoorRows
import Derived.WalkKit
import Derived.ProofKit
import Derived.OpenShut
import Derived.ShutString
import Derived.ChangeOld
import Derived.Below
import Derived.Deep.Slices
import Derived.Deep.Strs
import Derived.Deep.SlicePairs
import Derived.Test.YtpennadfomnenaaGreatDoorQ00
import Derived.Test.YtpennadfomnenaaGreatDoorQ01
import Derived.Test.YtpennadfomnenaaGreatDoorQ03
set_option linter.unusedVariables false
namespace Go.Proofs.YtpennadfomnenaaGreatDoor
open Go.ChangeShapes Go.WideShapes Go.ChangeAt Go.RowKit

/-- one of some texts -/
def inL (ls : List (List UInt8)) (s : ByteArray) : Bool := ls.any fun l => l == s.toList
theorem inL_take_snoc {ls : List (List UInt8)} {s : ByteArray} {k : Nat} (hk : k < ls.length) : inL (ls.take (k + 1)) s = (inL (ls.take k) s || (ls[k] == s.toList)) := by
  unfold inL; rw [List.take_succ_eq_append_getElem hk, List.any_append]; simp only [List.any_cons, List.any_nil, Bool.or_false]
theorem inL_hit {ls : List (List UInt8)} {s : ByteArray} {k : Nat} (hk : k < ls.length) (h : (ls[k] == s.toList) = true) : true = inL ls s := by
  symm; rw [inL, List.any_eq_true]; exact ⟨_, List.getElem_mem hk, h⟩
set_option maxHeartbeats 400000 in
theorem l01Has_any (ls : List (List UInt8)) (b off : Nat) (s : ByteArray) (w : World) (hl : ls.length ≤ 100)
    (hc : ∀ k (h : k < ls.length), w.cell? ⟨b, off + k, none⟩ = some (.string ⟨ls[k].toArray⟩)) :
    Calls Tryz.prog 132 #[.slice (some ⟨b, off, none⟩) ls.length ls.length, .string s] w fun e w' => e = .returned (.bool (inL ls s)) ∧ w = w' := by
  have HC := Lib.hid hc
  clear hc
  go_enter Tryz.func132, Tryz.ntmps132
  go_wp2
  go_loop [5] (fun i => ∃ k : Nat, k ≤ ls.length ∧ i = .int .i64 k ∧ inL (ls.take k) s = false) (fun i => ls.length - (intOf i).toNat)
  case atStart => exact ⟨0, by omega, rfl, by simp [inL]⟩
  case round =>
    obtain ⟨k, hk, rfl, hall⟩ := hrel
    have HA := Lib.hid hall
    clear hall
    by_cases hlt : k < ls.length
    · have hck := HC.out k hlt
      by_cases hf : (ls[k] == s.toList) = true
      · have HF := Lib.hid hf
        go_wp2
        go_ret
        exact ⟨ret_bool (inL_hit hlt HF.out), rfl⟩
      · have HF := Lib.hid hf
        have hf' : (ls[k] == s.toList) = false := by simpa using hf
        clear hf
        go_wp2
        go_round
        case rel => exact ⟨k + 1, by omega, by go_num, by rw [inL_take_snoc hlt, HA.out]; simpa using HF.out⟩
        case measure => simp [intOf]; omega
    · obtain rfl : k = ls.length := by omega
      go_wp2
      go_ret
      exact ⟨ret_bool (by have := HA.out; rw [List.take_length] at this; exact this.symm), rfl⟩
theorem cells_of (ls : List (List UInt8)) (w : World) (T : TypeId) (k : Nat) (h : k < ls.length) :
    (w.alloc (.cells (ls.map fun l => Value.string ⟨l.toArray⟩).toArray T)).cell? ⟨w.heap.size, 0 + k, none⟩ = some (.string ⟨ls[k].toArray⟩) := by
  rw [World.cell?_alloc_new]; simp [h]
def voidL : List (List UInt8) := [[98, 114], [104, 114], [105, 109, 103], [105, 110, 112, 117, 116], [109, 101, 116, 97], [108, 105, 110, 107], [98, 97, 115, 101], [101, 109, 98, 101, 100]]
theorem l01Void_any (s : ByteArray) (w : World) :
    Calls Tryz.prog 80 #[.string s] w fun e w' => e = .returned (.bool (inL voidL s)) ∧ Below w.heap.size w w' := by
  go_enter Tryz.func80, Tryz.ntmps80
  go_wp2_with (go_at_call 132; refine (l01Has_any voidL _ 0 _ _ (by decide) (fun k h => cells_of voidL _ _ k h)).mono ?_; rintro e w' ⟨rfl, rfl⟩)
  go_ret
  exact ⟨rfl, (Below.refl _ _).alloc (Nat.le_refl _) _⟩
def rawL : List (List UInt8) := [[115, 116, 121, 108, 101], [115, 99, 114, 105, 112, 116], [120, 109, 112], [105, 102, 114, 97, 109, 101]]
theorem l01Raw_any (s : ByteArray) (w : World) :
    Calls Tryz.prog 67 #[.string s] w fun e w' => e = .returned (.bool (inL rawL s)) ∧ Below w.heap.size w w' := by
  go_enter Tryz.func67, Tryz.ntmps67
  go_wp2_with (go_at_call 132; refine (l01Has_any rawL _ 0 _ _ (by decide) (fun k h => cells_of rawL _ _ k h)).mono ?_; rintro e w' ⟨rfl, rfl⟩)
  go_ret
  exact ⟨rfl, (Below.refl _ _).alloc (Nat.le_refl _) _⟩
def outL : List (List UInt8) := [[112], [100, 105, 118], [98], [105], [98, 114], [105, 109, 103], [117, 108], [108, 105], [116, 97, 98, 108, 101], [104, 49]]
theorem l01Out_any (s : ByteArray) (w : World) :
    Calls Tryz.prog 233 #[.string s] w fun e w' => e = .returned (.bool (inL outL s)) ∧ Below w.heap.size w w' := by
  go_enter Tryz.func233, Tryz.ntmps233
  go_wp2_with (go_at_call 132; refine (l01Has_any outL _ 0 _ _ (by decide) (fun k h => cells_of outL _ _ k h)).mono ?_; rintro e w' ⟨rfl, rfl⟩)
  go_ret
  exact ⟨rfl, (Below.refl _ _).alloc (Nat.le_refl _) _⟩
end Go.Proofs.YtpennadfomnenaaGreatDoor
namespace Go.Proofs.YtpennadfomnenaaGreatDoor
open Go.ChangeShapes Go.WideShapes Go.ChangeAt Go.RowKit

theorem beq_flip (a b : List UInt8) : (a == b) = (b == a) := by rw [Bool.eq_iff_iff, beq_iff_eq, beq_iff_eq]; exact eq_comm
theorem implIsVoid_any (s : ByteArray) (w : World) :
    Calls Tryz.prog 197 #[.string s] w fun e w' => e = .returned (.bool (inL voidL s)) ∧ w = w' := by
  go_enter Tryz.func197, Tryz.ntmps197
  go_wp2
  all_goals (go_ret; exact ⟨ret_bool (by first | (simp only [inL, voidL, List.any_cons, List.any_nil, beq_flip _ s.toList, *]; rfl) | (exfalso; simp_all; done)), rfl⟩)
theorem implIsRaw_any (s : ByteArray) (w : World) :
    Calls Tryz.prog 65 #[.string s] w fun e w' => e = .returned (.bool (inL rawL s)) ∧ w = w' := by
  go_enter Tryz.func65, Tryz.ntmps65
  go_wp2
  all_goals (go_ret; exact ⟨ret_bool (by first | (simp only [inL, rawL, List.any_cons, List.any_nil, beq_flip _ s.toList, *]; rfl) | (exfalso; simp_all; done)), rfl⟩)
def spaceI (s : ByteArray) : Int := if ([115, 118, 103] == s.toList) = true then 1 else if ([109, 97, 116, 104] == s.toList) = true then 2 else 0
theorem implSpaceOf_any (s : ByteArray) (w : World) :
    Calls Tryz.prog 261 #[.string s] w fun e w' => e = .returned (.int .i64 (spaceI s)) ∧ w = w' := by
  go_enter Tryz.func261, Tryz.ntmps261
  go_wp2
  all_goals (go_ret; exact ⟨ret_int (by first | (simp only [spaceI, beq_flip _ s.toList, *]; rfl) | (exfalso; simp_all; done)), rfl⟩)
theorem l01Space_any (s : ByteArray) (w : World) :
    Calls Tryz.prog 206 #[.string s] w fun e w' => e = .returned (.int .i64 (spaceI s)) ∧ w = w' := by
  go_enter Tryz.func206, Tryz.ntmps206
  go_wp2
  all_goals (go_ret; exact ⟨ret_int (by first | (simp only [spaceI, beq_flip _ s.toList, *]; rfl) | (exfalso; simp_all; done)), rfl⟩)
end Go.Proofs.YtpennadfomnenaaGreatDoor
namespace Go.Proofs.YtpennadfomnenaaGreatDoor
open Go.ChangeShapes Go.WideShapes Go.ChangeAt Go.RowKit

theorem drop_cons {s : ByteArray} {n : Nat} (h : n < s.size) : s.data.toList.drop n = s[n] :: s.data.toList.drop (n + 1) := by
  rw [List.drop_eq_getElem_cons (by simpa using h)]; rfl
theorem low_great {c : Int} (h1 : 65 ≤ c) (h2 : c ≤ 90) : lowB c = c + 32 := by simp [lowB, great, h1, h2]
theorem low_other {c : Int} (h : ¬ (65 ≤ c ∧ c ≤ 90)) : lowB c = c := by rw [lowB, if_neg (by simp [great]; omega)]
end Go.Proofs.YtpennadfomnenaaGreatDoor
namespace Go.Proofs.YtpennadfomnenaaGreatDoor
open Go.ChangeShapes Go.WideShapes Go.ChangeAt Go.RowKit

def lowU (c : UInt8) : UInt8 := if 65 ≤ c ∧ c ≤ 90 then c + 32 else c
theorem lowU_nat (c : UInt8) : ((lowU c).toNat : Int) = lowB (c.toNat : Int) := by
  unfold lowU lowB great
  by_cases h : 65 ≤ c ∧ c ≤ 90
  · rw [if_pos h]
    obtain ⟨h1, h2⟩ := h
    rw [UInt8.le_iff_toNat_le] at h1 h2
    simp at h1 h2
    rw [if_pos (by simp; omega), UInt8.toNat_add]
    simp; omega
  · rw [if_neg h, if_neg]
    intro e; apply h
    simp at e
    rw [UInt8.le_iff_toNat_le, UInt8.le_iff_toNat_le]; simp; omega
theorem take_map_snoc {s : ByteArray} {k : Nat} (f : UInt8 → UInt8) (h : k < s.size) : (s.data.toList.take (k + 1)).map f = (s.data.toList.take k).map f ++ [f s[k]] := by
  rw [List.take_succ_eq_append_getElem (by simpa using h), List.map_append]; rfl
theorem take_len {s : ByteArray} {k : Nat} (f : UInt8 → UInt8) : ((s.data.toList.take k).map f).length ≤ k := by simp; omega
set_option maxHeartbeats 1000000 in
theorem l01Lower_any (s : ByteArray) (w : World) (hs : s.size ≤ 65536) :
    Calls Tryz.prog 181 #[.string s] w fun e w' => e = .returned (.string ⟨(s.data.toList.map lowU).toArray⟩) ∧ Below w.heap.size w w' := by
  go_enter Tryz.func181, Tryz.ntmps181
  go_wp2
  go_loopw [4, 3, 5] (fun i v _ wr => ∃ k : Nat, k ≤ s.size ∧ i = .int .i64 k ∧ OwnB w wr v ((s.data.toList.take k).map lowU)) (fun i _ _ _ => s.size - (intOf i).toNat)
  case atStart => exact ⟨0, by omega, rfl, OwnB.empty w⟩
  case round =>
    obtain ⟨k, hk, rfl, hown⟩ := hrel
    by_cases hlt : k < s.size
    · have HB := Lib.hid (lowU_nat s[k])
      have HL := Lib.hid (take_len (s := s) (k := k) lowU)
      by_cases hg : 65 ≤ (s[k].toNat : Int) ∧ (s[k].toNat : Int) ≤ 90
      · obtain ⟨g1, g2⟩ := hg
        go_wp2_with (at_builtin; refine wpList_append_byte w _ rfl (.tmp 24) (.tmp 26) rfl _ _ _ (lowU s[k]) rfl rfl hown ?c1 ?c2 ?_)
        case c1 => have := HL.out; omega
        case c2 => rw [HB.out, low_great g1 g2]
        intro v' w1 hown1
        clear hown
        go_wp2
        go_roundw
        case rel => exact ⟨k + 1, by omega, by go_num, by rw [take_map_snoc _ hlt, List.map_take]; exact hown1⟩
        case measure => simp [intOf]; omega
      · have HG := Lib.hid hg
        have hg' : (s[k].toNat : Int) < 65 ∨ (65 ≤ (s[k].toNat : Int) ∧ decide ((s[k].toNat : Int) ≤ 90) = false) := by
          by_cases q : (s[k].toNat : Int) < 65
          · exact Or.inl q
          · exact Or.inr ⟨by omega, by simp; omega⟩
        clear hg
        rcases hg' with q3 | ⟨q3, q4⟩
        all_goals
          go_wp2_with (at_builtin; refine wpList_append_byte w _ rfl (.tmp 24) (.tmp 26) rfl _ _ _ (lowU s[k]) rfl rfl hown ?c1 ?c2 ?_)
          case c1 => have := HL.out; omega
          case c2 => rw [HB.out, low_other HG.out]
          intro v' w1 hown1
          clear hown
          go_wp2
          go_roundw
          case rel => exact ⟨k + 1, by omega, by go_num, by rw [take_map_snoc _ hlt, List.map_take]; exact hown1⟩
          case measure => simp [intOf]; omega
    · obtain rfl : k = s.size := by omega
      rw [List.take_of_length_le (by simp)] at hown
      go_wp2_with (refine wpList_string_own w _ rfl (.tmp 28) rfl _ _ rfl hown ?_)
      go_ret
      exact ⟨rfl, hown.2⟩
end Go.Proofs.YtpennadfomnenaaGreatDoor
namespace Go.Proofs.YtpennadfomnenaaGreatDoor
open Go.ChangeShapes Go.WideShapes Go.ChangeAt Go.RowKit Go.Deep

/-- A forest: a node (kind, space, name, text, attributes), what stands within it, what stands behind it. -/
inductive Fo where
  | nil
  | cons (k sp : Int) (n t : ByteArray) (al : List (ByteArray × ByteArray)) (kids rest : Fo)
def Fo.len : Fo → Nat
  | .nil => 0
  | .cons _ _ _ _ _ _ r => r.len + 1
/-- from ⟨b, o⟩ on the attributes stand, two cells each -/
def AsAt (w : World) (b : Nat) : Nat → List (ByteArray × ByteArray) → Prop
  | _, [] => True
  | o, x :: r => w.cell? ⟨b, o, none⟩ = some (.string x.1) ∧ w.cell? ⟨b, o + 1, none⟩ = some (.string x.2) ∧ x.1.size ≤ maxLen ∧ x.2.size ≤ maxLen ∧ AsAt w b (o + 2) r
/-- a row's address: only a row with something in it has one -/
def RowAt (lo hi : Nat) (A : Option Addr) (n b o : Nat) : Prop := n ≤ maxLen ∧ (0 < n → A = some ⟨b, o, none⟩ ∧ lo ≤ b ∧ b < hi)
/-- .. and within its capacity -/
def RowC (lo hi : Nat) (A : Option Addr) (n c b o : Nat) : Prop := n ≤ c ∧ RowAt lo hi A n b o
/-- from ⟨b, o⟩ on the forest stands, six cells a node; all of it lies in blocks from lo up to hi -/
def FoAt (w : World) (lo hi : Nat) : Nat → Nat → Fo → Prop
  | _, _, .nil => True
  | b, o, .cons k sp n t al kids rest =>
    (w.cell? ⟨b, o, none⟩ = some (.int .i64 k) ∧ w.cell? ⟨b, o + 1, none⟩ = some (.int .i64 sp) ∧ w.cell? ⟨b, o + 2, none⟩ = some (.string n) ∧ w.cell? ⟨b, o + 3, none⟩ = some (.string t) ∧ n.size ≤ maxLen ∧ t.size ≤ maxLen) ∧
    (∃ A c b' o', w.cell? ⟨b, o + 4, none⟩ = some (.slice A al.length c) ∧ RowC lo hi A al.length c b' o' ∧ AsAt w b' o' al) ∧
    (∃ A c b' o', w.cell? ⟨b, o + 5, none⟩ = some (.slice A kids.len c) ∧ RowC lo hi A kids.len c b' o' ∧ FoAt w lo hi b' o' kids) ∧
    FoAt w lo hi b (o + 6) rest
theorem RowAt.mono {lo hi lo' hi' : Nat} {A : Option Addr} {n b o : Nat} (h : RowAt lo hi A n b o) (hl : lo' ≤ lo) (hh : hi ≤ hi') : RowAt lo' hi' A n b o :=
  ⟨h.1, fun h0 => ⟨(h.2 h0).1, by have := (h.2 h0).2.1; omega, by have := (h.2 h0).2.2; omega⟩⟩
theorem AsAt.carry {w w' : World} {b : Nat} : ∀ {al : List (ByteArray × ByteArray)} {o : Nat}, AsAt w b o al → (∀ o, w'.cell? ⟨b, o, none⟩ = w.cell? ⟨b, o, none⟩) → AsAt w' b o al
  | [], _, _, _ => trivial
  | _ :: _, _, ⟨h1, h2, h3, h4, h5⟩, hs => ⟨(hs _).trans h1, (hs _).trans h2, h3, h4, AsAt.carry h5 hs⟩
theorem FoAt.carry {w w' : World} {lo hi lo' hi' : Nat} (hl : lo' ≤ lo) (hh : hi ≤ hi') (hs : ∀ b o, lo ≤ b → b < hi → w'.cell? ⟨b, o, none⟩ = w.cell? ⟨b, o, none⟩) :
    ∀ {F : Fo} {b o : Nat}, FoAt w lo hi b o F → (∀ j, j < 6 * F.len → w'.cell? ⟨b, o + j, none⟩ = w.cell? ⟨b, o + j, none⟩) → FoAt w' lo' hi' b o F
  | .nil, _, _, _, _ => trivial
  | .cons k sp n t al kids rest, b, o, ⟨⟨c0, c1, c2, c3, c4, c5⟩, ⟨A, c, b', o', d1, d2, d3⟩, ⟨K, kc, kb, ko, e1, e2, e3⟩, hr⟩, s => by
    have hL : 6 ≤ 6 * (Fo.cons k sp n t al kids rest).len := by simp [Fo.len]; omega
    refine ⟨⟨(s 0 (by omega)).trans c0, (s 1 (by omega)).trans c1, (s 2 (by omega)).trans c2, (s 3 (by omega)).trans c3, c4, c5⟩, ⟨A, c, b', o', (s 4 (by omega)).trans d1, ⟨d2.1, d2.2.mono hl hh⟩, ?_⟩,
      ⟨K, kc, kb, ko, (s 5 (by omega)).trans e1, ⟨e2.1, e2.2.mono hl hh⟩, FoAt.carry hl hh hs e3 fun j hj => ?_⟩, FoAt.carry hl hh hs hr fun j hj => ?_⟩
    · cases al with
      | nil => trivial
      | cons x r =>
        have := d2.2.2 (by simp)
        exact d3.carry fun o => hs _ _ this.2.1 this.2.2
    · have := e2.2.2 (by omega)
      exact hs _ _ this.2.1 this.2.2
    · have := s (6 + j) (by simp [Fo.len]; omega)
      rwa [← Nat.add_assoc] at this
/-- what lies below B stays, while all below B stays -/
theorem FoAt.below {w w' : World} {lo hi B : Nat} {A : Option Addr} {F : Fo} {b o : Nat} (hA : RowAt lo hi A F.len b o) (h : FoAt w lo hi b o F) (hB : Below B w w') (hh : hi ≤ B) : FoAt w' lo hi b o F :=
  h.carry (Nat.le_refl _) (Nat.le_refl _) (fun b o _ h2 => hB.cell (p := ⟨b, o, none⟩) (by show b < B; omega)) (fun j hj => hB.cell (p := ⟨b, o + j, none⟩) (by have := (hA.2 (by omega)).2.2; show b < B; omega))
/-- forests side by side -/
def Fo.app : Fo → Fo → Fo
  | .nil, G => G
  | .cons k sp n t al kids rest, G => .cons k sp n t al kids (rest.app G)
theorem Fo.len_app : ∀ (F G : Fo), (F.app G).len = F.len + G.len
  | .nil, G => by simp [Fo.app, Fo.len]
  | .cons _ _ _ _ _ _ r, G => by simp [Fo.app, Fo.len, Fo.len_app r G]; omega
theorem Fo.app_nil : ∀ F : Fo, F.app .nil = F
  | .nil => rfl
  | .cons k sp n t al kids r => by simp [Fo.app, Fo.app_nil r]
theorem Fo.app_assoc : ∀ F G H : Fo, (F.app G).app H = F.app (G.app H)
  | .nil, _, _ => rfl
  | .cons k sp n t al kids r, G, H => by simp [Fo.app, Fo.app_assoc r G H]
def Fo.one (k sp : Int) (n t : ByteArray) (al : List (ByteArray × ByteArray)) (kids : Fo) : Fo := .cons k sp n t al kids .nil
/-- a new block's cell -/
theorem new_cell {w : World} {cs : Array Value} {t : TypeId} {j : Nat} {v : Value} (hv : cs[j]? = some v) : (w.alloc (.cells cs t)).cell? ⟨w.heap.size, j, none⟩ = some v := by
  rw [World.cell?_alloc_new]; exact hv
/-- block g holds just these cells, and they may be written -/
def Lay (w : World) (g : Nat) (cs : Array Value) : Prop := (∀ j, w.cell? ⟨g, j, none⟩ = cs[j]?) ∧ ∀ j, w.frozen? ⟨g, j, none⟩ = false
theorem Lay.below {w w' : World} {g B : Nat} {cs : Array Value} (h : Lay w g cs) (hB : Below B w w') (hg : g < B) : Lay w' g cs :=
  ⟨fun j => (hB.cell (p := ⟨g, j, none⟩) hg).trans (h.1 j), fun j => (hB.frozen (p := ⟨g, j, none⟩) hg).trans (h.2 j)⟩
theorem Lay.new (w : World) (cs : Array Value) (t : TypeId) : Lay (w.alloc (.cells cs t)) w.heap.size cs := ⟨fun j => World.cell?_alloc_new _ _ _ _, fun j => by simp⟩
theorem Lay.alloc {w : World} {g : Nat} {cs : Array Value} (h : Lay w g cs) (hg : g < w.heap.size) (o : Obj) : Lay (w.alloc o) g cs :=
  h.below ((Below.refl w.heap.size w).alloc (Nat.le_refl _) o) hg
theorem Lay.set {w : World} {g : Nat} {cs : Array Value} (h : Lay w g cs) (i : Nat) (v : Value) : Lay (w.setCell ⟨g, i, none⟩ v) g (cs.setIfInBounds i v) := by
  refine ⟨fun j => ?_, fun j => by rw [World.frozen?_setCell]; exact h.2 j⟩
  by_cases e : j = i
  · subst e
    by_cases hj : j < cs.size
    · rw [World.cell?_setCell_same (u := cs[j]) _ _ _ (by rw [h.1]; simp [hj])]; simp [hj]
    · have h1 := h.1 j
      have : (w.setCell ⟨g, j, none⟩ v).cell? ⟨g, j, none⟩ = none := by
        have h2 : w.cell? ⟨g, j, none⟩ = none := by rw [h1]; exact Array.getElem?_eq_none (by omega)
        cases hc : (w.setCell ⟨g, j, none⟩ v).cell? ⟨g, j, none⟩ with
        | none => rfl
        | some u =>
          exfalso
          simp only [World.cell?, World.setCell] at hc h2
          simp [Array.getElem?_modify] at hc
          cases hb : w.heap[g]? with
          | none => simp [hb] at hc
          | some ob =>
            simp [hb] at hc h2
            cases ob <;> simp_all
      rw [this]; exact (Array.getElem?_eq_none (by simp; omega)).symm
  · rw [World.cell?_setCell_other (h := by simp <;> omega), h.1]; simp [Ne.symm e]
theorem oth0 {w : World} {g i b o : Nat} {v : Value} (h : g ≠ b) : (w.setCell ⟨g, i, none⟩ v).cell? ⟨b, o, none⟩ = w.cell? ⟨b, o, none⟩ := World.cell?_setCell_other _ _ _ _ (fun e => h (by injection e))
theorem Lay.setOther {w : World} {g g' : Nat} {cs : Array Value} (h : Lay w g cs) (hg : g' ≠ g) (i : Nat) (v : Value) : Lay (w.setCell ⟨g', i, none⟩ v) g cs :=
  ⟨fun j => by rw [oth0 hg]; exact h.1 j, fun j => by rw [World.frozen?_setCell]; exact h.2 j⟩
/-! ### An argument opened -/
section
variable {H : Type} {enc : TypeId × Value → H} {P : Program} {w : World} {base : Nat} {spare : Nat → Bool} {held : Bool}

end
end Go.Proofs.YtpennadfomnenaaGreatDoor
namespace Go.Proofs.YtpennadfomnenaaGreatDoor
open Go.ChangeShapes Go.WideShapes Go.ChangeAt Go.RowKit

/-- from place a on, up to place k, all bytes are so -/
def AllTo (F : Int → Bool) (s : ByteArray) (a k : Nat) : Prop := ∀ i (h : i < s.size), a ≤ i → i < k → F (s[i].toNat : Int) = true
def Named (B F : Int → Bool) (s : ByteArray) : Prop := ∃ h : 0 < s.size, s.size ≤ 12 ∧ B (s[0].toNat : Int) = true ∧ AllTo F s 1 s.size
open Classical in
noncomputable def namedB (B F : Int → Bool) (s : ByteArray) : Bool := decide (Named B F s)
theorem namedB_true {B F : Int → Bool} {s : ByteArray} (h : Named B F s) : true = namedB B F s := by simp [namedB, h]
theorem namedB_false {B F : Int → Bool} {s : ByteArray} (h : ¬ Named B F s) : false = namedB B F s := by simp [namedB, h]
theorem allTo_step {F : Int → Bool} {s : ByteArray} {a k : Nat} (h : AllTo F s a k) (hk : k < s.size) (hf : F (s[k].toNat : Int) = true) : AllTo F s a (k + 1) := by
  intro i hi h1 h2
  by_cases e : i = k
  · subst e; exact hf
  · exact h i hi h1 (by omega)
theorem ne_nil {s : ByteArray} (h : 0 < s.size) : ¬ s.toList = [] := by
  intro e
  have h2 : s.toList.length = s.size := by rw [ByteArray.toList_eq]; simp
  rw [e] at h2; simp at h2; omega
theorem ne_empty {s : ByteArray} (h : 0 < s.size) : s.toList.isEmpty = false := by
  rw [List.isEmpty_eq_false_iff]; exact ne_nil h
theorem is_nil {s : ByteArray} (h : ¬ 0 < s.size) : s.toList = [] := by
  have h2 : s.toList.length = s.size := by rw [ByteArray.toList_eq]; simp
  exact List.length_eq_zero_iff.mp (by omega)
set_option maxHeartbeats 400000 in
theorem isNameOf_tag (s : ByteArray) (w : World) (hs : s.size ≤ maxLen) :
    Calls Tryz.prog 133 #[.string s, .func (.func 134) #[] #[], .func (.func 135) #[] #[]] w fun e w' => e = .returned (.bool (namedB small tagB s)) ∧ w = w' := by
  unfold maxLen at hs
  by_cases h0 : 0 < s.size
  · have hn := ne_nil h0
    have he := ne_empty h0
    by_cases h12 : s.size ≤ 12
    · by_cases hb : small (s[0].toNat : Int) = true
      · go_enter Tryz.func133, Tryz.ntmps133
        go_wp2_with (go_at_call 134; refine (isSmall_any _ _).mono ?_; rintro e w' ⟨rfl, rfl⟩)
        go_loop [7] (fun i => ∃ k : Nat, 1 ≤ k ∧ k ≤ s.size ∧ i = .int .i64 k ∧ AllTo tagB s 1 k) (fun i => s.size - (intOf i).toNat)
        case atStart => exact ⟨1, by omega, by omega, rfl, fun i _ _ _ => by omega⟩
        case round =>
          obtain ⟨k, hk1, hk, rfl, hall⟩ := hrel
          have HA := Lib.hid hall
          clear hall
          by_cases hlt : k < s.size
          · by_cases hf : tagB (s[k].toNat : Int) = true
            · go_wp2_with (go_at_call 135; refine (followsInTag_any _ _).mono ?_; rintro e w' ⟨rfl, rfl⟩)
              go_round
              case rel => exact ⟨k + 1, by omega, by omega, by go_num, allTo_step HA.out hlt hf⟩
              case measure => simp [intOf]; omega
            · go_wp2_with (go_at_call 135; refine (followsInTag_any _ _).mono ?_; rintro e w' ⟨rfl, rfl⟩)
              go_ret
              exact ⟨ret_bool (namedB_false fun h => hf (h.2.2.2 k hlt hk1 (by omega))), rfl⟩
          · obtain rfl : k = s.size := by omega
            go_wp2
            go_ret
            exact ⟨ret_bool (namedB_true ⟨h0, h12, hb, HA.out⟩), rfl⟩
      · go_enter Tryz.func133, Tryz.ntmps133
        go_wp2_with (go_at_call 134; refine (isSmall_any _ _).mono ?_; rintro e w' ⟨rfl, rfl⟩)
        go_ret
        exact ⟨ret_bool (namedB_false fun h => hb h.2.2.1), rfl⟩
    · go_enter Tryz.func133, Tryz.ntmps133
      go_wp2
      go_ret
      exact ⟨ret_bool (namedB_false fun h => h12 h.2.1), rfl⟩
  · have hn := is_nil h0
    go_enter Tryz.func133, Tryz.ntmps133
    go_wp2
    go_ret
    exact ⟨ret_bool (namedB_false fun h => h0 h.1), rfl⟩
theorem implTagOK_any (s : ByteArray) (w : World) (hs : s.size ≤ maxLen) :
    Calls Tryz.prog 68 #[.string s] w fun e w' => e = .returned (.bool (namedB small tagB s)) ∧ w = w' := by
  go_enter Tryz.func68, Tryz.ntmps68
  go_wp2_with (go_at_call 133; refine (isNameOf_tag _ _ hs).mono ?_; rintro e w' ⟨rfl, rfl⟩)
  go_ret
  exact ⟨rfl, rfl⟩
end Go.Proofs.YtpennadfomnenaaGreatDoor
