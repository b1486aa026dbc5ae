
import Derived.Test.YtbcbmgeoaejlmaaMark
namespace Go.Proofs.Ytbcbmgeoaejlmaa
open Go.ChangeShapes Go.WideShapes Go.ChangeAt Go.RowKit Go.Deep

def markAl : List (ByteArray × ByteArray) → Nat → List (ByteArray × ByteArray)
  | [], _ => []
  | _ :: r, m => (markT m, markT (m + 1)) :: markAl r (m + 2)
theorem markAl_len : ∀ (al : List (ByteArray × ByteArray)) (m : Nat), (markAl al m).length = al.length
  | [], _ => rfl
  | _ :: r, m => by simp [markAl, markAl_len r]
theorem markAl_snoc : ∀ (pre : List (ByteArray × ByteArray)) (x : ByteArray × ByteArray) (m : Nat), markAl (pre ++ [x]) m = markAl pre m ++ [(markT (m + 2 * pre.length), markT (m + 2 * pre.length + 1))]
  | [], _, _ => rfl
  | _ :: p, x, m => by
    simp only [List.cons_append, markAl, markAl_snoc p x (m + 2), List.length_cons]
    rw [show m + 2 + 2 * p.length = m + 2 * (p.length + 1) by omega]
/-- how many marks -/
def Fo.cnt : Fo → Nat
  | .nil => 0
  | .cons _ _ _ _ al kids rest => 4 + 2 * al.length + kids.cnt + rest.cnt
def markFo : Fo → Nat → Fo
  | .nil, _ => .nil
  | .cons _ _ _ _ al kids rest, m => .cons m ((m + 1 : Nat) : Int) (markT (m + 2)) (markT (m + 3)) (markAl al (m + 4)) (markFo kids (m + 4 + 2 * al.length)) (markFo rest (m + 4 + 2 * al.length + kids.cnt))
theorem markFo_len : ∀ (F : Fo) (m : Nat), (markFo F m).len = F.len
  | .nil, _ => rfl
  | .cons _ _ _ _ _ _ rest, m => by simp [markFo, Fo.len, markFo_len rest]

theorem AlLay.split {w : World} {a : Nat} : ∀ {p q : List (ByteArray × ByteArray)} {o : Nat}, AlLay w a o (p ++ q) → AlLay w a o p ∧ AlLay w a (o + 2 * p.length) q
  | [], _, _, h => ⟨trivial, by simpa using h⟩
  | x :: p, q, o, ⟨h1, h2, h3, h4, h5⟩ => by
    obtain ⟨i1, i2⟩ := AlLay.split h5
    refine ⟨⟨h1, h2, h3, h4, i1⟩, ?_⟩
    simp only [List.length_cons]
    rw [show o + 2 * (p.length + 1) = o + 2 + 2 * p.length by omega]; exact i2
theorem AlLay.off {w : World} {a : Nat} : ∀ {al : List (ByteArray × ByteArray)} {o : Nat} {g' o' : Nat}, AlLay w a o al → (g' ≠ a ∨ o' < o ∨ o + 2 * al.length ≤ o') → ∀ u, AlLay (w.setCell ⟨g', o', none⟩ u) a o al
  | [], _, _, _, _, _, _ => trivial
  | x :: r, o, g', o', ⟨h1, h2, h3, h4, h5⟩, hne, u => by
    simp only [List.length_cons] at hne
    exact ⟨h1.set (hne.imp id fun h => by omega) u, h2.set (hne.imp id fun h => by omega) u, h3, h4, AlLay.off h5 (hne.imp id fun h => by omega) u⟩

/-- only these blocks have been written -/
abbrev OnlyAt (w w' : World) (l : List Nat) : Prop := But (fun k => k ∈ l) w w'

theorem markAttrS_any (al : List (ByteArray × ByteArray)) (m : Nat) (w : World) (A : Option Addr) (c : Nat) (ba : List Nat) (h1 : 1 ≤ m) (h2 : m + 2 * al.length ≤ 1073741824) (hr : AlRow w A al ba) :
    Calls Try.prog 91 #[.slice A al.length c, .int .i64 (m : Int)] w fun e w' => e = .returned (.int .i64 ((m + 2 * al.length : Nat) : Int)) ∧ AlRow w' A (markAl al m) ba ∧ OnlyAt w w' ba := by
  rcases hr with ⟨rfl, rfl⟩ | ⟨a, rfl, rfl, hl⟩
  · simp only [List.length_nil]
    go_enter Try.func91, Try.ntmps91
    go_wp2
    refine wp_loop_rounds 1 ?_
    rw [rounds_succ]
    go_wp2
    go_ret
    exact ⟨rfl, Or.inl ⟨rfl, rfl⟩, But.refl _ _⟩
  · have HL := Lib.hid hl
    clear hl
    go_enter Try.func91, Try.ntmps91
    go_wp2
    go_loopw [1, 5] (fun x i wr => ∃ (k : Nat) (pre suf : List (ByteArray × ByteArray)), x = .int .i64 ((m + 2 * k : Nat) : Int) ∧ i = .int .i64 (k : Int) ∧ al = pre ++ suf ∧ pre.length = k ∧ Hid (AlLay wr a 0 (markAl pre m ++ suf) ∧ OnlyAt w wr [a])) (fun x i wr => al.length - (intOf i).toNat)
    case atStart => exact ⟨0, [], al, by simp, rfl, rfl, rfl, Lib.hid ⟨HL.out, But.refl _ _⟩⟩
    case round =>
      obtain ⟨k, pre, suf, rfl, rfl, hp, hk, HH⟩ := hrel
      have HP := Lib.hid hp
      cases suf with
      | nil =>
        have hkl : k = al.length := by rw [hp]; simp [hk]
        clear hp hk
        subst hkl
        go_wp2
        go_ret
        obtain ⟨i1, i2⟩ := HH.out
        have hp := HP.out
        simp only [List.append_nil] at hp i1
        exact ⟨rfl, Or.inr ⟨a, rfl, rfl, by rw [hp]; exact i1⟩, i2⟩
      | cons x r =>
        have hkl : k < al.length := by rw [hp]; simp [hk]
        obtain ⟨i1, i2⟩ := HH.out
        obtain ⟨j1, j2⟩ := i1.split
        rw [markAl_len, hk] at j2
        obtain ⟨s1, s2, s3, s4, s5⟩ := j2
        rw [show 0 + 2 * k = k * 2 by omega] at s1 s2 s5
        have HK := Lib.hid hk
        have HJ := Lib.hid (And.intro j1 (And.intro i2 s5))
        have c1 := s1.1
        have f1 := s1.2
        have HS2 := Lib.hid s2
        have HS1 := Lib.hid s1
        clear HH hp hk i1 i2 j1 s1 s2 s3 s4 s5
        have ha : a < wr.heap.size := HS1.out.lt
        go_wp2_with fail
        rw [show ((m + 2 * k : Nat) : Int) = ((m + 2 * k : Nat) : Int) from rfl]
        refine (markText_any (m + 2 * k) (by omega) (by omega) _).mono ?_
        rintro e w1 ⟨rfl, hB1⟩
        have d1 := HS1.out.same (hB1.block a ha)
        have e1 := d1.1
        have g1 := d1.2
        have D2 := Lib.hid (HS2.out.same (hB1.block a ha))
        have D1 := Lib.hid d1
        have B1 := Lib.hid hB1
        clear hB1 d1
        go_wp2_with fail
        refine (markText_any (m + 2 * k + 1) (by omega) (by omega) _).mono ?_
        rintro e w2 ⟨rfl, hB2⟩
        have ha1 : a < (w1.setCell ⟨a, k * 2, none⟩ (.string (markT (m + 2 * k)))).heap.size := by rw [World.size_setCell]; exact D1.out.lt
        have d2 := (D2.out.set (g' := a) (o' := k * 2) (Or.inr (by omega)) (.string (markT (m + 2 * k)))).same (hB2.block a ha1)
        have e2 := d2.1
        have g2 := d2.2
        have D2' := Lib.hid d2
        have D1' := Lib.hid ((D1.out.put (.string (markT (m + 2 * k)))).same (hB2.block a ha1))
        have B2 := Lib.hid hB2
        clear hB2 d2
        go_wp2
        go_roundw
        case rel =>
          obtain ⟨j1, i2, s5⟩ := HJ.out
          have k1 := (((j1.same (B1.out.block a ha)).off (g' := a) (o' := k * 2) (Or.inr (Or.inr (by rw [markAl_len, HK.out]; omega))) (.string (markT (m + 2 * k)))).same (B2.out.block a ha1)).off (g' := a) (o' := k * 2 + 1) (Or.inr (Or.inr (by rw [markAl_len, HK.out]; omega))) (.string (markT (m + 2 * k + 1)))
          have k2 := (((s5.same (B1.out.block a ha)).off (g' := a) (o' := k * 2) (Or.inr (Or.inl (by omega))) (.string (markT (m + 2 * k)))).same (B2.out.block a ha1)).off (g' := a) (o' := k * 2 + 1) (Or.inr (Or.inl (by omega))) (.string (markT (m + 2 * k + 1)))
          have z1 := markT_size (m + 2 * k)
          have z2 := markT_size (m + 2 * k + 1)
          have hpl := HK.out
          refine ⟨k + 1, pre ++ [x], r, by go_num, by go_num, by rw [HP.out]; simp, by simp [HK.out], Lib.hid ⟨?_, ?_⟩⟩
          · have hm : markAl (pre ++ [x]) m = markAl pre m ++ [(markT (m + 2 * k), markT (m + 2 * k + 1))] := by rw [← hpl]; exact markAl_snoc pre x m
            rw [hm, List.append_assoc]
            refine AlLay.app k1 ?_
            rw [markAl_len, hpl, show 0 + 2 * k = k * 2 by omega]
            exact ⟨D1'.out.set (Or.inr (by omega)) _, D2'.out.put _, by show (markT (m + 2 * k)).size ≤ _; unfold maxLen; omega, by show (markT (m + 2 * k + 1)).size ≤ _; unfold maxLen; omega, k2⟩
          · exact (((i2.trans (But.of_below (C := fun k => k ∈ [a]) B1.out) (fun _ h => Or.inl h)).setCell (p := ⟨a, k * 2, none⟩) (Or.inl (by simp)) _).trans (But.of_below (C := fun k => k ∈ [a]) B2.out) (fun _ h => Or.inl h)).setCell (p := ⟨a, k * 2 + 1, none⟩) (Or.inl (by simp)) _
        case measure => simp [intOf]; omega
end Go.Proofs.Ytbcbmgeoaejlmaa
