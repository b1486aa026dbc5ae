import Derived.Laws.BytesArg
import Derived.Laws.IdiomStrings
import Derived.Test.YtpennadfomnenaaGreatDoorQ09
set_option linter.unusedVariables false
namespace Go.Proofs.YtpennadfomnenaaGreatDoor
open Go.ChangeShapes Go.WideShapes Go.ChangeAt Go.RowKit Go.Deep

theorem AlLay.app {w : World} {a : Nat} : ∀ {p q : List (ByteArray × ByteArray)} {o : Nat}, AlLay w a o p → AlLay w a (o + 2 * p.length) q → AlLay w a o (p ++ q)
  | [], _, _, _, h => by simpa using h
  | x :: p, q, o, ⟨h1, h2, h3, h4, h5⟩, h => ⟨h1, h2, h3, h4, AlLay.app h5 (by simp at h; rw [show o + 2 + 2 * p.length = o + 2 * (p.length + 1) by omega]; exact h)⟩
end Go.Proofs.YtpennadfomnenaaGreatDoor
namespace Go.Proofs.YtpennadfomnenaaGreatDoor
open Go.ChangeShapes Go.WideShapes Go.ChangeAt Go.RowKit Go.Deep

/-! ### The text of a mark -/
/-- the digits of a number, none of nought -/
def decAll (k : Nat) : List UInt8 := if _h : k = 0 then [] else decAll (k / 10) ++ [UInt8.ofNat (48 + k % 10)]
termination_by k
decreasing_by omega
theorem decAll_zero : decAll 0 = [] := by rw [decAll]; rfl
theorem decAll_step {k : Nat} (h : 0 < k) : decAll k = decAll (k / 10) ++ [UInt8.ofNat (48 + k % 10)] := by rw [decAll, dif_neg (by omega)]
theorem decAll_len : ∀ k : Nat, (decAll k).length ≤ k := by
  intro k
  induction k using Nat.strongRecOn with
  | _ k ih =>
    by_cases h : k = 0
    · subst h; rw [decAll_zero]; exact Nat.le_refl _
    · rw [decAll_step (by omega), List.length_append]
      have := ih (k / 10) (by omega)
      simp only [List.length_cons, List.length_nil]
      omega
def markT (k : Nat) : ByteArray := ⟨(109 :: decAll k).toArray⟩
theorem markT_size (k : Nat) : (markT k).size ≤ k + 1 := by
  show (109 :: decAll k).toArray.size ≤ _
  rw [List.size_toArray, List.length_cons]
  have := decAll_len k
  omega
theorem ba_ext' {a b : ByteArray} (h : a.data.toList = b.data.toList) : a = b := by
  obtain ⟨⟨x⟩⟩ := a
  obtain ⟨⟨y⟩⟩ := b
  simp at h
  subst h
  rfl
theorem conv_byte (L : Nat) (c : UInt8) (n : Int) (hn : (c.toNat : Int) = n) (W : World) (h : W.cell? ⟨L, 0, none⟩ = some (.int .u8 n)) : (convert 22 9 (.slice (some ⟨L, 0, none⟩) 1 1)).run Tryz.prog W = .ok (.string ⟨[c].toArray⟩) W :=
  run_convert_bytes_back W 22 9 5 ⟨L, 0, none⟩ 1 [c] Tryz.underlying22 Tryz.underlying5 Tryz.underlying9 (fun j hj => by
    obtain rfl : j = 0 := by simpa using hj
    rw [← hn] at h
    exact h)
set_option maxHeartbeats 1000000 in
theorem markText_any (n : Nat) (h1 : 1 ≤ n) (h2 : n ≤ 1073741824) (w : World) :
    Calls Tryz.prog 107 #[.int .i64 (n : Int)] w fun e w' => e = .returned (.string (markT n)) ∧ Below w.heap.size w w' := by
  go_enter Tryz.func107, Tryz.ntmps107
  go_wp2
  go_loopw [0, 3] (fun i v wr => ∃ (j : Nat) (l : List UInt8), i = .int .i64 (j : Int) ∧ v = .string ⟨l.toArray⟩ ∧ j ≤ n ∧ l.length + j ≤ n + 0 ∧ Hid (decAll j ++ l = decAll n ∧ Below w.heap.size w wr)) (fun i _ _ => (intOf i).toNat)
  case atStart => exact ⟨n, [], rfl, rfl, Nat.le_refl _, by simp, Lib.hid ⟨by simp, Below.refl _ _⟩⟩
  case round =>
    obtain ⟨j, l, rfl, rfl, hj, hl, HH⟩ := hrel
    have hls : (⟨l.toArray⟩ : ByteArray).size = l.length := by simp [ByteArray.size]
    by_cases h0 : 0 < j
    · have hc : (((UInt8.ofNat (48 + j % 10)).toNat : Nat) : Int) = 48 + (j : Int) % 10 := by simp; omega
      have hst := decAll_step h0
      generalize UInt8.ofNat (48 + j % 10) = c at hc hst
      have e1 : (⟨[c].toArray⟩ : ByteArray) ++ ⟨l.toArray⟩ = ⟨(c :: l).toArray⟩ := ba_ext' (by simp [ByteArray.data_append])
      have n1 : (⟨[c].toArray⟩ : ByteArray).size = 1 := rfl
      have a1 : ∀ W, (Op.stringOp .add ⟨[c].toArray⟩ ⟨l.toArray⟩).run Tryz.prog W = .ok (.string ⟨(c :: l).toArray⟩) W := fun W => by rw [run_string_add_sum W _ _ (by omega), e1]
      have hcell : (wr.alloc (.cells #[.int .u8 (48 + (j : Int) % 10)] 5)).cell? ⟨wr.heap.size, 0, none⟩ = some (.int .u8 (48 + (j : Int) % 10)) := new_cell rfl
      have hcv := conv_byte wr.heap.size c (48 + (j : Int) % 10) hc _ hcell
      have HST := Lib.hid hst
      have HC := Lib.hid hc
      clear e1 n1 hst hc hls
      have h0' : 0 < (j : Int) := by omega
      have hw : IntKind.u8.wrap (48 + (j : Int) % 10) = 48 + (j : Int) % 10 := IntWalk.u8_in _ (by omega)
      go_wp2
      go_roundw
      case rel => exact ⟨j / 10, c :: l, by go_num, rfl, by omega, by simp; omega, Lib.hid ⟨by rw [← HH.out.1, HST.out, List.append_assoc]; rfl, HH.out.2.alloc HH.out.2.size _⟩⟩
      case measure => simp [intOf]; omega
    · obtain rfl : j = 0 := by omega
      have hl2 : l = decAll n := by have := HH.out.1; rw [decAll_zero] at this; simpa using this
      have e1 : (⟨#[109]⟩ : ByteArray) ++ ⟨l.toArray⟩ = markT n := ba_ext' (by rw [markT, hl2]; simp [ByteArray.data_append])
      have n1 : (⟨#[109]⟩ : ByteArray).size = 1 := rfl
      have a1 : ∀ W, (Op.stringOp .add ⟨#[109]⟩ ⟨l.toArray⟩).run Tryz.prog W = .ok (.string (markT n)) W := fun W => by rw [run_string_add_sum W _ _ (by omega), e1]
      clear e1 n1 hl2 hls
      go_wp2
      go_ret
      exact ⟨rfl, HH.out.2⟩
end Go.Proofs.YtpennadfomnenaaGreatDoor
namespace Go.Proofs.YtpennadfomnenaaGreatDoor
open Go.ChangeShapes Go.WideShapes Go.ChangeAt Go.RowKit Go.Deep

def markAl : List (ByteArray × ByteArray) → Nat → List (ByteArray × ByteArray)
  | [], _ => []
  | _ :: r, m => (markT m, markT (m + 1)) :: markAl r (m + 2)
theorem markAl_len : ∀ (al : List (ByteArray × ByteArray)) (m : Nat), (markAl al m).length = al.length
  | [], _ => rfl
  | _ :: r, m => by simp [markAl, markAl_len r]
theorem markAl_snoc : ∀ (pre : List (ByteArray × ByteArray)) (x : ByteArray × ByteArray) (m : Nat), markAl (pre ++ [x]) m = markAl pre m ++ [(markT (m + 2 * pre.length), markT (m + 2 * pre.length + 1))]
  | [], _, _ => rfl
  | _ :: p, x, m => by
    simp only [List.cons_append, markAl, markAl_snoc p x (m + 2), List.length_cons]
    rw [show m + 2 + 2 * p.length = m + 2 * (p.length + 1) by omega]
/-- how many marks -/
def Fo.cnt : Fo → Nat
  | .nil => 0
  | .cons _ _ _ _ al kids rest => 4 + 2 * al.length + kids.cnt + rest.cnt
def markFo : Fo → Nat → Fo
  | .nil, _ => .nil
  | .cons _ _ _ _ al kids rest, m => .cons m ((m + 1 : Nat) : Int) (markT (m + 2)) (markT (m + 3)) (markAl al (m + 4)) (markFo kids (m + 4 + 2 * al.length)) (markFo rest (m + 4 + 2 * al.length + kids.cnt))
theorem markFo_len : ∀ (F : Fo) (m : Nat), (markFo F m).len = F.len
  | .nil, _ => rfl
  | .cons _ _ _ _ _ _ rest, m => by simp [markFo, Fo.len, markFo_len rest]
theorem AlLay.split {w : World} {a : Nat} : ∀ {p q : List (ByteArray × ByteArray)} {o : Nat}, AlLay w a o (p ++ q) → AlLay w a o p ∧ AlLay w a (o + 2 * p.length) q
  | [], _, _, h => ⟨trivial, by simpa using h⟩
  | x :: p, q, o, ⟨h1, h2, h3, h4, h5⟩ => by
    obtain ⟨i1, i2⟩ := AlLay.split h5
    refine ⟨⟨h1, h2, h3, h4, i1⟩, ?_⟩
    simp only [List.length_cons]
    rw [show o + 2 * (p.length + 1) = o + 2 + 2 * p.length by omega]; exact i2
theorem AlLay.off {w : World} {a : Nat} : ∀ {al : List (ByteArray × ByteArray)} {o : Nat} {g' o' : Nat}, AlLay w a o al → (g' ≠ a ∨ o' < o ∨ o + 2 * al.length ≤ o') → ∀ u, AlLay (w.setCell ⟨g', o', none⟩ u) a o al
  | [], _, _, _, _, _, _ => trivial
  | x :: r, o, g', o', ⟨h1, h2, h3, h4, h5⟩, hne, u => by
    simp only [List.length_cons] at hne
    exact ⟨h1.set (hne.imp id fun h => by omega) u, h2.set (hne.imp id fun h => by omega) u, h3, h4, AlLay.off h5 (hne.imp id fun h => by omega) u⟩
/-- only these blocks have been written -/
abbrev OnlyAt (w w' : World) (l : List Nat) : Prop := But (fun k => k ∈ l) w w'
theorem markAttrS_any (al : List (ByteArray × ByteArray)) (m : Nat) (w : World) (A : Option Addr) (c : Nat) (ba : List Nat) (h1 : 1 ≤ m) (h2 : m + 2 * al.length ≤ 1073741824) (hr : AlRow w A al ba) :
    Calls Tryz.prog 108 #[.slice A al.length c, .int .i64 (m : Int)] w fun e w' => e = .returned (.int .i64 ((m + 2 * al.length : Nat) : Int)) ∧ AlRow w' A (markAl al m) ba ∧ OnlyAt w w' ba := by
  rcases hr with ⟨rfl, rfl⟩ | ⟨a, rfl, rfl, hl⟩
  · simp only [List.length_nil]
    go_enter Tryz.func108, Tryz.ntmps108
    go_wp2
    refine wp_loop_rounds 1 ?_
    rw [rounds_succ]
    go_wp2
    go_ret
    exact ⟨rfl, Or.inl ⟨rfl, rfl⟩, But.refl _ _⟩
  · have HL := Lib.hid hl
    clear hl
    go_enter Tryz.func108, Tryz.ntmps108
    go_wp2
    go_loopw [1, 5] (fun x i wr => ∃ (k : Nat) (pre suf : List (ByteArray × ByteArray)), x = .int .i64 ((m + 2 * k : Nat) : Int) ∧ i = .int .i64 (k : Int) ∧ al = pre ++ suf ∧ pre.length = k ∧ Hid (AlLay wr a 0 (markAl pre m ++ suf) ∧ OnlyAt w wr [a])) (fun x i wr => al.length - (intOf i).toNat)
    case atStart => exact ⟨0, [], al, by simp, rfl, rfl, rfl, Lib.hid ⟨HL.out, But.refl _ _⟩⟩
    case round =>
      obtain ⟨k, pre, suf, rfl, rfl, hp, hk, HH⟩ := hrel
      have HP := Lib.hid hp
      cases suf with
      | nil =>
        have hkl : k = al.length := by rw [hp]; simp [hk]
        clear hp hk
        subst hkl
        go_wp2
        go_ret
        obtain ⟨i1, i2⟩ := HH.out
        have hp := HP.out
        simp only [List.append_nil] at hp i1
        exact ⟨rfl, Or.inr ⟨a, rfl, rfl, by rw [hp]; exact i1⟩, i2⟩
      | cons x r =>
        have hkl : k < al.length := by rw [hp]; simp [hk]
        obtain ⟨i1, i2⟩ := HH.out
        obtain ⟨j1, j2⟩ := i1.split
        rw [markAl_len, hk] at j2
        obtain ⟨s1, s2, s3, s4, s5⟩ := j2
        rw [show 0 + 2 * k = k * 2 by omega] at s1 s2 s5
        have HK := Lib.hid hk
        have HJ := Lib.hid (And.intro j1 (And.intro i2 s5))
        have c1 := s1.1
        have f1 := s1.2
        have HS2 := Lib.hid s2
        have HS1 := Lib.hid s1
        clear HH hp hk i1 i2 j1 s1 s2 s3 s4 s5
        have ha : a < wr.heap.size := HS1.out.lt
        go_wp2_with fail
        rw [show ((m + 2 * k : Nat) : Int) = ((m + 2 * k : Nat) : Int) from rfl]
        refine (markText_any (m + 2 * k) (by omega) (by omega) _).mono ?_
        rintro e w1 ⟨rfl, hB1⟩
        have d1 := HS1.out.same (hB1.block a ha)
        have e1 := d1.1
        have g1 := d1.2
        have D2 := Lib.hid (HS2.out.same (hB1.block a ha))
        have D1 := Lib.hid d1
        have B1 := Lib.hid hB1
        clear hB1 d1
        go_wp2_with fail
        refine (markText_any (m + 2 * k + 1) (by omega) (by omega) _).mono ?_
        rintro e w2 ⟨rfl, hB2⟩
        have ha1 : a < (w1.setCell ⟨a, k * 2, none⟩ (.string (markT (m + 2 * k)))).heap.size := by rw [World.size_setCell]; exact D1.out.lt
        have d2 := (D2.out.set (g' := a) (o' := k * 2) (Or.inr (by omega)) (.string (markT (m + 2 * k)))).same (hB2.block a ha1)
        have e2 := d2.1
        have g2 := d2.2
        have D2' := Lib.hid d2
        have D1' := Lib.hid ((D1.out.put (.string (markT (m + 2 * k)))).same (hB2.block a ha1))
        have B2 := Lib.hid hB2
        clear hB2 d2
        go_wp2
        go_roundw
        case rel =>
          obtain ⟨j1, i2, s5⟩ := HJ.out
          have k1 := (((j1.same (B1.out.block a ha)).off (g' := a) (o' := k * 2) (Or.inr (Or.inr (by rw [markAl_len, HK.out]; omega))) (.string (markT (m + 2 * k)))).same (B2.out.block a ha1)).off (g' := a) (o' := k * 2 + 1) (Or.inr (Or.inr (by rw [markAl_len, HK.out]; omega))) (.string (markT (m + 2 * k + 1)))
          have k2 := (((s5.same (B1.out.block a ha)).off (g' := a) (o' := k * 2) (Or.inr (Or.inl (by omega))) (.string (markT (m + 2 * k)))).same (B2.out.block a ha1)).off (g' := a) (o' := k * 2 + 1) (Or.inr (Or.inl (by omega))) (.string (markT (m + 2 * k + 1)))
          have z1 := markT_size (m + 2 * k)
          have z2 := markT_size (m + 2 * k + 1)
          have hpl := HK.out
          refine ⟨k + 1, pre ++ [x], r, by go_num, by go_num, by rw [HP.out]; simp, by simp [HK.out], Lib.hid ⟨?_, ?_⟩⟩
          · have hm : markAl (pre ++ [x]) m = markAl pre m ++ [(markT (m + 2 * k), markT (m + 2 * k + 1))] := by rw [← hpl]; exact markAl_snoc pre x m
            rw [hm, List.append_assoc]
            refine AlLay.app k1 ?_
            rw [markAl_len, hpl, show 0 + 2 * k = k * 2 by omega]
            exact ⟨D1'.out.set (Or.inr (by omega)) _, D2'.out.put _, by show (markT (m + 2 * k)).size ≤ _; unfold maxLen; omega, by show (markT (m + 2 * k + 1)).size ≤ _; unfold maxLen; omega, k2⟩
          · exact (((i2.trans (But.of_below (C := fun k => k ∈ [a]) B1.out) (fun _ h => Or.inl h)).setCell (p := ⟨a, k * 2, none⟩) (Or.inl (by simp)) _).trans (But.of_below (C := fun k => k ∈ [a]) B2.out) (fun _ h => Or.inl h)).setCell (p := ⟨a, k * 2 + 1, none⟩) (Or.inl (by simp)) _
        case measure => simp [intOf]; omega
end Go.Proofs.YtpennadfomnenaaGreatDoor
namespace Go.Proofs.YtpennadfomnenaaGreatDoor
open Go.ChangeShapes Go.WideShapes Go.ChangeAt Go.RowKit Go.Deep

theorem FoLay.split {w : World} {g : Nat} : ∀ {P S : Fo} {o : Nat} {bl : List Nat}, FoLay w g o (P.app S) bl → ∃ b1 b2, bl = b1 ++ b2 ∧ FoLay w g o P b1 ∧ FoLay w g (o + 6 * P.len) S b2
  | .nil, S, o, bl, h => ⟨[], bl, rfl, rfl, by simpa [Fo.app, Fo.len] using h⟩
  | .cons k sp n t al kids r, S, o, bl, ⟨A, K, ca, ck, ba, bk, br, hbl, h1, h2, h3, h4⟩ => by
    obtain ⟨b1, b2, e, i1, i2⟩ := FoLay.split h4
    refine ⟨ba ++ bk ++ b1, b2, by rw [hbl, e]; simp [List.append_assoc], ⟨A, K, ca, ck, ba, bk, b1, rfl, h1, h2, h3, i1⟩, ?_⟩
    simp only [Fo.len]
    rw [show o + 6 * (r.len + 1) = o + 6 + 6 * r.len by omega]; exact i2
/-- behind a write elsewhere -/
theorem FoLay.off {w : World} : ∀ {F : Fo} {g o g' m : Nat} {bl : List Nat}, FoLay w g o F bl → (g' ≠ g ∨ m < o ∨ o + 6 * F.len ≤ m) → g' ∉ bl → ∀ u, FoLay (w.setCell ⟨g', m, none⟩ u) g o F bl
  | .nil, _, _, _, _, _, h, _, _, _ => h
  | .cons k sp n t al kids rest, g, o, g', m, bl, ⟨A, K, ca, ck, ba, bk, br, hbl, ⟨c0, c1, c2, c3, z2, z3⟩, ⟨c4, h4, m4, r4⟩, ⟨c5, h5, m5, r5⟩, hr⟩, hm, hg, u => by
    subst hbl
    simp only [Fo.len] at hm
    have hk : ∀ k ∈ ba ++ bk ++ br, (w.setCell ⟨g', m, none⟩ u).heap[k]? = w.heap[k]? := fun k hk => Below.heap_setCell _ _ _ _ (fun e => hg (by rw [show g' = k from e.symm]; exact hk))
    refine ⟨A, K, ca, ck, ba, bk, br, rfl, ⟨c0.set (hm.imp id fun h => by omega) u, c1.set (hm.imp id fun h => by omega) u, c2.set (hm.imp id fun h => by omega) u, c3.set (hm.imp id fun h => by omega) u, z2, z3⟩, ⟨c4.set (hm.imp id fun h => by omega) u, h4, m4, r4.same fun k h => hk k (by simp [h])⟩,
      ⟨c5.set (hm.imp id fun h => by omega) u, h5, m5, ?_⟩, hr.off (hm.imp id fun h => by omega) (fun h => hg (by simp [h])) u⟩
    rcases r5 with r5 | ⟨c, b', e1, e2, e3⟩
    · exact Or.inl r5
    · subst e2
      exact Or.inr ⟨c, b', e1, rfl, e3.same (hk c (by simp)) fun k h => hk k (by simp [h])⟩
/-- a row of nodes, and all that it leads to -/
def KRow (w : World) (K : Option Addr) (kids : Fo) (bk : List Nat) : Prop := (kids.len = 0 ∧ bk = []) ∨ ∃ c b', K = some ⟨c, 0, none⟩ ∧ bk = c :: b' ∧ FoLay w c 0 kids b'
theorem KRow.same {w w' : World} {K : Option Addr} {kids : Fo} {bk : List Nat} (h : KRow w K kids bk) (hb : ∀ k ∈ bk, w'.heap[k]? = w.heap[k]?) : KRow w' K kids bk := by
  rcases h with h | ⟨c, b', e1, e2, e3⟩
  · exact Or.inl h
  · subst e2; exact Or.inr ⟨c, b', e1, rfl, e3.same (hb c (by simp)) fun k hk => hb k (by simp [hk])⟩
/-- a node at ⟨g, o⟩, with those ahead of it and behind it -/
structure NodeIn (w : World) (g o : Nat) (pre rest : Fo) (v0 v1 v2 v3 v4 v5 : Value) (A : Option Addr) (al : List (ByteArray × ByteArray)) (ba : List Nat) (K : Option Addr) (kids : Fo) (bk b1 br : List Nat) : Prop where
  c0 : CellW w g o v0
  c1 : CellW w g (o + 1) v1
  c2 : CellW w g (o + 2) v2
  c3 : CellW w g (o + 3) v3
  c4 : CellW w g (o + 4) v4
  c5 : CellW w g (o + 5) v5
  p : FoLay w g 0 pre b1
  r : FoLay w g (o + 6) rest br
  a : AlRow w A al ba
  k : KRow w K kids bk
  po : 6 * pre.len = o
  nd : (g :: (b1 ++ (ba ++ bk ++ br))).Nodup
  lt : ∀ k ∈ g :: (b1 ++ (ba ++ bk ++ br)), k < w.heap.size
theorem NodeIn.put0 {w : World} {g o : Nat} {pre rest kids : Fo} {v0 v1 v2 v3 v4 v5 : Value} {A K : Option Addr} {al : List (ByteArray × ByteArray)} {b1 ba bk br : List Nat} (h : NodeIn w g o pre rest v0 v1 v2 v3 v4 v5 A al ba K kids bk b1 br) (u : Value) :
    NodeIn (w.setCell ⟨g, o, none⟩ u) g o pre rest u v1 v2 v3 v4 v5 A al ba K kids bk b1 br := by
  have hne : ∀ k ∈ b1 ++ (ba ++ bk ++ br), (w.setCell ⟨g, o, none⟩ u).heap[k]? = w.heap[k]? := fun k hk => Below.heap_setCell _ _ _ _ (fun e => (List.nodup_cons.1 h.nd).1 (by rw [show g = k from e.symm]; exact hk))
  exact ⟨h.c0.put u, h.c1.set (Or.inr (by omega)) u, h.c2.set (Or.inr (by omega)) u, h.c3.set (Or.inr (by omega)) u, h.c4.set (Or.inr (by omega)) u, h.c5.set (Or.inr (by omega)) u, h.p.off (Or.inr (Or.inr (by have := h.po; omega))) (fun e => (List.nodup_cons.1 h.nd).1 (by simp [e])) u, h.r.off (Or.inr (Or.inl (by omega))) (fun e => (List.nodup_cons.1 h.nd).1 (by simp [e])) u,
    h.a.same fun k hk => hne k (by simp [hk]), h.k.same fun k hk => hne k (by simp [hk]), h.po, h.nd, fun k hk => by rw [World.size_setCell]; exact h.lt k hk⟩
theorem NodeIn.put1 {w : World} {g o : Nat} {pre rest kids : Fo} {v0 v1 v2 v3 v4 v5 : Value} {A K : Option Addr} {al : List (ByteArray × ByteArray)} {b1 ba bk br : List Nat} (h : NodeIn w g o pre rest v0 v1 v2 v3 v4 v5 A al ba K kids bk b1 br) (u : Value) :
    NodeIn (w.setCell ⟨g, o + 1, none⟩ u) g o pre rest v0 u v2 v3 v4 v5 A al ba K kids bk b1 br := by
  have hne : ∀ k ∈ b1 ++ (ba ++ bk ++ br), (w.setCell ⟨g, o + 1, none⟩ u).heap[k]? = w.heap[k]? := fun k hk => Below.heap_setCell _ _ _ _ (fun e => (List.nodup_cons.1 h.nd).1 (by rw [show g = k from e.symm]; exact hk))
  exact ⟨h.c0.set (Or.inr (by omega)) u, h.c1.put u, h.c2.set (Or.inr (by omega)) u, h.c3.set (Or.inr (by omega)) u, h.c4.set (Or.inr (by omega)) u, h.c5.set (Or.inr (by omega)) u, h.p.off (Or.inr (Or.inr (by have := h.po; omega))) (fun e => (List.nodup_cons.1 h.nd).1 (by simp [e])) u, h.r.off (Or.inr (Or.inl (by omega))) (fun e => (List.nodup_cons.1 h.nd).1 (by simp [e])) u,
    h.a.same fun k hk => hne k (by simp [hk]), h.k.same fun k hk => hne k (by simp [hk]), h.po, h.nd, fun k hk => by rw [World.size_setCell]; exact h.lt k hk⟩
theorem NodeIn.put2 {w : World} {g o : Nat} {pre rest kids : Fo} {v0 v1 v2 v3 v4 v5 : Value} {A K : Option Addr} {al : List (ByteArray × ByteArray)} {b1 ba bk br : List Nat} (h : NodeIn w g o pre rest v0 v1 v2 v3 v4 v5 A al ba K kids bk b1 br) (u : Value) :
    NodeIn (w.setCell ⟨g, o + 2, none⟩ u) g o pre rest v0 v1 u v3 v4 v5 A al ba K kids bk b1 br := by
  have hne : ∀ k ∈ b1 ++ (ba ++ bk ++ br), (w.setCell ⟨g, o + 2, none⟩ u).heap[k]? = w.heap[k]? := fun k hk => Below.heap_setCell _ _ _ _ (fun e => (List.nodup_cons.1 h.nd).1 (by rw [show g = k from e.symm]; exact hk))
  exact ⟨h.c0.set (Or.inr (by omega)) u, h.c1.set (Or.inr (by omega)) u, h.c2.put u, h.c3.set (Or.inr (by omega)) u, h.c4.set (Or.inr (by omega)) u, h.c5.set (Or.inr (by omega)) u, h.p.off (Or.inr (Or.inr (by have := h.po; omega))) (fun e => (List.nodup_cons.1 h.nd).1 (by simp [e])) u, h.r.off (Or.inr (Or.inl (by omega))) (fun e => (List.nodup_cons.1 h.nd).1 (by simp [e])) u,
    h.a.same fun k hk => hne k (by simp [hk]), h.k.same fun k hk => hne k (by simp [hk]), h.po, h.nd, fun k hk => by rw [World.size_setCell]; exact h.lt k hk⟩
theorem NodeIn.put3 {w : World} {g o : Nat} {pre rest kids : Fo} {v0 v1 v2 v3 v4 v5 : Value} {A K : Option Addr} {al : List (ByteArray × ByteArray)} {b1 ba bk br : List Nat} (h : NodeIn w g o pre rest v0 v1 v2 v3 v4 v5 A al ba K kids bk b1 br) (u : Value) :
    NodeIn (w.setCell ⟨g, o + 3, none⟩ u) g o pre rest v0 v1 v2 u v4 v5 A al ba K kids bk b1 br := by
  have hne : ∀ k ∈ b1 ++ (ba ++ bk ++ br), (w.setCell ⟨g, o + 3, none⟩ u).heap[k]? = w.heap[k]? := fun k hk => Below.heap_setCell _ _ _ _ (fun e => (List.nodup_cons.1 h.nd).1 (by rw [show g = k from e.symm]; exact hk))
  exact ⟨h.c0.set (Or.inr (by omega)) u, h.c1.set (Or.inr (by omega)) u, h.c2.set (Or.inr (by omega)) u, h.c3.put u, h.c4.set (Or.inr (by omega)) u, h.c5.set (Or.inr (by omega)) u, h.p.off (Or.inr (Or.inr (by have := h.po; omega))) (fun e => (List.nodup_cons.1 h.nd).1 (by simp [e])) u, h.r.off (Or.inr (Or.inl (by omega))) (fun e => (List.nodup_cons.1 h.nd).1 (by simp [e])) u,
    h.a.same fun k hk => hne k (by simp [hk]), h.k.same fun k hk => hne k (by simp [hk]), h.po, h.nd, fun k hk => by rw [World.size_setCell]; exact h.lt k hk⟩
theorem NodeIn.same {w w' : World} {g o : Nat} {pre rest kids : Fo} {v0 v1 v2 v3 v4 v5 : Value} {A K : Option Addr} {al : List (ByteArray × ByteArray)} {b1 ba bk br : List Nat} (h : NodeIn w g o pre rest v0 v1 v2 v3 v4 v5 A al ba K kids bk b1 br) (hB : Below w.heap.size w w') :
    NodeIn w' g o pre rest v0 v1 v2 v3 v4 v5 A al ba K kids bk b1 br := by
  have hg : w'.heap[g]? = w.heap[g]? := hB.block g (h.lt g (by simp))
  have hk : ∀ k ∈ b1 ++ (ba ++ bk ++ br), w'.heap[k]? = w.heap[k]? := fun k hk => hB.block k (h.lt k (List.mem_cons_of_mem _ hk))
  exact ⟨h.c0.same hg, h.c1.same hg, h.c2.same hg, h.c3.same hg, h.c4.same hg, h.c5.same hg, h.p.same hg fun k hk' => hk k (by simp [hk']), h.r.same hg fun k hk' => hk k (by simp [hk']), h.a.same fun k hk' => hk k (by simp [hk']), h.k.same fun k hk' => hk k (by simp [hk']), h.po, h.nd,
    fun k hk => Nat.lt_of_lt_of_le (h.lt k hk) hB.size⟩
theorem NodeIn.attrs {w w' : World} {g o : Nat} {pre rest kids : Fo} {v0 v1 v2 v3 v4 v5 : Value} {A K : Option Addr} {al al' : List (ByteArray × ByteArray)} {b1 ba bk br : List Nat} (h : NodeIn w g o pre rest v0 v1 v2 v3 v4 v5 A al ba K kids bk b1 br) (hB : OnlyAt w w' ba) (ha : AlRow w' A al' ba) :
    NodeIn w' g o pre rest v0 v1 v2 v3 v4 v5 A al' ba K kids bk b1 br := by
  have hn := List.nodup_cons.1 h.nd
  have hn2 := List.nodup_append.1 hn.2
  have hn3 := List.nodup_append.1 hn2.2.1
  have hn4 := List.nodup_append.1 hn3.1
  have hg : w'.heap[g]? = w.heap[g]? := hB.block g (h.lt g (by simp)) fun hc => hn.1 (by simp [hc])
  have hp : ∀ k ∈ b1, w'.heap[k]? = w.heap[k]? := fun k hk => hB.block k (h.lt k (by simp [hk])) fun hc => hn2.2.2 k hk k (by simp [hc]) rfl
  have hr : ∀ k ∈ br, w'.heap[k]? = w.heap[k]? := fun k hk => hB.block k (h.lt k (by simp [hk])) fun hc => hn3.2.2 k (by simp [hc]) k hk rfl
  have hkk : ∀ k ∈ bk, w'.heap[k]? = w.heap[k]? := fun k hk => hB.block k (h.lt k (by simp [hk])) fun hc => hn4.2.2 k hc k hk rfl
  exact ⟨h.c0.same hg, h.c1.same hg, h.c2.same hg, h.c3.same hg, h.c4.same hg, h.c5.same hg, h.p.same hg hp, h.r.same hg hr, ha, h.k.same hkk, h.po, h.nd, fun k hk => Nat.lt_of_lt_of_le (h.lt k hk) hB.size⟩
theorem NodeIn.kids {w w' : World} {g o : Nat} {pre rest kids kids' : Fo} {v0 v1 v2 v3 v4 v5 : Value} {A K : Option Addr} {al : List (ByteArray × ByteArray)} {b1 ba bk br : List Nat} (h : NodeIn w g o pre rest v0 v1 v2 v3 v4 v5 A al ba K kids bk b1 br) (hB : OnlyAt w w' bk) (hk' : KRow w' K kids' bk) :
    NodeIn w' g o pre rest v0 v1 v2 v3 v4 v5 A al ba K kids' bk b1 br := by
  have hn := List.nodup_cons.1 h.nd
  have hn2 := List.nodup_append.1 hn.2
  have hn3 := List.nodup_append.1 hn2.2.1
  have hn4 := List.nodup_append.1 hn3.1
  have hg : w'.heap[g]? = w.heap[g]? := hB.block g (h.lt g (by simp)) fun hc => hn.1 (by simp [hc])
  have hp : ∀ k ∈ b1, w'.heap[k]? = w.heap[k]? := fun k hk => hB.block k (h.lt k (by simp [hk])) fun hc => hn2.2.2 k hk k (by simp [hc]) rfl
  have hr : ∀ k ∈ br, w'.heap[k]? = w.heap[k]? := fun k hk => hB.block k (h.lt k (by simp [hk])) fun hc => hn3.2.2 k (by simp [hc]) k hk rfl
  have ha : ∀ k ∈ ba, w'.heap[k]? = w.heap[k]? := fun k hk => hB.block k (h.lt k (by simp [hk])) fun hc => hn4.2.2 k hk k hc rfl
  exact ⟨h.c0.same hg, h.c1.same hg, h.c2.same hg, h.c3.same hg, h.c4.same hg, h.c5.same hg, h.p.same hg hp, h.r.same hg hr, h.a.same ha, hk', h.po, h.nd, fun k hk => Nat.lt_of_lt_of_le (h.lt k hk) hB.size⟩
def MarkOK (F : Fo) : Prop := ∀ (m : Nat) (w : World) (A : Option Addr) (c : Nat) (bk : List Nat), 1 ≤ m → m + F.cnt ≤ 1073741824 → F.len ≤ maxLen → KRow w A F bk → bk.Nodup → (∀ k ∈ bk, k < w.heap.size) →
    Calls Tryz.prog 45 #[.slice A F.len c, .int .i64 (m : Int)] w fun e w' => e = .returned (.int .i64 ((m + F.cnt : Nat) : Int)) ∧ KRow w' A (markFo F m) bk ∧ OnlyAt w w' bk
theorem Fo.cnt_app : ∀ P S : Fo, (P.app S).cnt = P.cnt + S.cnt
  | .nil, S => by simp [Fo.app, Fo.cnt]
  | .cons _ _ _ _ _ _ r, S => by simp [Fo.app, Fo.cnt, Fo.cnt_app r S]; omega
theorem markFo_snoc : ∀ (P : Fo) (k sp : Int) (n t : ByteArray) (al : List (ByteArray × ByteArray)) (kids : Fo) (m : Nat), markFo (P.app (.one k sp n t al kids)) m = (markFo P m).app (markFo (.one k sp n t al kids) (m + P.cnt))
  | .nil, _, _, _, _, _, _, _ => rfl
  | .cons _ _ _ _ al' kids' r, k, sp, n, t, al, kids, m => by
    simp only [Fo.app, markFo, markFo_snoc r, Fo.cnt]
    rw [show m + 4 + 2 * al'.length + kids'.cnt + r.cnt = m + (4 + 2 * al'.length + kids'.cnt + r.cnt) by omega]
end Go.Proofs.YtpennadfomnenaaGreatDoor
