import Derived.Test.YtocpmkpffhmlaaaSer4
namespace Go.Proofs.Ytocpmkpffhmlaaa
open Go.ChangeShapes Go.WideShapes Go.ChangeAt Go.RowKit Go.Deep

theorem AsAt.belowB {w w' : World} {lo hi B b o : Nat} {A : Option Addr} {al : List (ByteArray × ByteArray)} (hA : RowAt lo hi A al.length b o) (h : AsAt w b o al) (hB : Below B w w') (hh : hi ≤ B) : AsAt w' b o al := by
  cases al with
  | nil => trivial
  | cons x r => exact h.carry fun o => hB.cell (p := ⟨b, o, none⟩) (by have := (hA.2 (by simp)).2.2; show b < _; omega)
theorem NdAt.belowB {w w' : World} {lo hi b o B : Nat} {x : Nd} (h : NdAt w lo hi b o x) (hb : b < B) (hB : Below B w w') (hh : hi ≤ B) : NdAt w' lo hi b o x := by
  obtain ⟨⟨c0, c1, c2, c3, z2, z3⟩, A, c, b', o', c4, hR, ha⟩ := h
  have e : ∀ j, w'.cell? ⟨b, j, none⟩ = w.cell? ⟨b, j, none⟩ := fun j => hB.cell (p := ⟨b, j, none⟩) hb
  exact ⟨⟨(e _).trans c0, (e _).trans c1, (e _).trans c2, (e _).trans c3, z2, z3⟩, A, c, b', o', (e _).trans c4, hR, ha.belowB hR.2 hB hh⟩
theorem escAns_small {f : UInt8 → List UInt8} {s : ByteArray} (h : s.size ≤ 65536) : escAns f s = ⟨(escL f s.data.toList).toArray⟩ := by
  unfold escAns
  rw [if_pos (by omega), escS_all]

theorem kept_of_below {bb : Nat} {w w' : World} (h : Below w.heap.size w w') : Kept bb w w' := fun k o hk _ _ => (h.block k (Array.getElem?_eq_some_iff.1 hk).1).trans hk
theorem BldF.keep {B b : Nat} {bs : List Value} {w w' : World} (h : BldF B b bs w) (hB : But No w w') : BldF B b bs w' := by
  have one : ∀ p, Lib.BuilderAtF 51 5 B b p bs w → Lib.BuilderAtF 51 5 B b p bs w' := by
    intro p hp
    obtain ⟨h1, v, h2, h3, h4⟩ := hp
    have hlt : b < w.heap.size := (Array.getElem?_eq_some_iff.1 h2).1
    exact ⟨h1, v, (hB.block b hlt id).trans h2, h3.kept ⟨hB.os, hB.tape, hB.output, hB.size, fun k hk _ => hB.block k hk id⟩ (Classical.em _), h4⟩
  exact h.imp (one _) (one _)
theorem BldF.next {B b : Nat} {bs : List Value} {w w' : World} (h : BldF B b bs w) (hB : Below w.heap.size w w') : BldF B b bs w' := h.keep (But.of_below (C := No) hB)

set_option maxHeartbeats 2000000 in
theorem writeStartTag_any (x : Nd) (bb : Nat) (l : List UInt8) (b o lo hi : Nat) (w : World) (hI : BldF bb bb (Lib.byteCells l) w) (hx : NdAt w lo hi b o x) (hb : b < bb) (hh : hi ≤ bb) (hbw : bb < w.heap.size) (hsm : AlSm x.al) (hz : l.length + (2 + x.n.size + 8 * (x.al.length + asSize x.al)) ≤ 1048576 * 1024) :
    Calls Try.prog 50 #[.pointer (some ⟨bb, 0, none⟩), .agg #[.pointer (some ⟨b, o, none⟩)]] w (Wrote bb (l ++ tagText x.n x.al) w) := by
  obtain ⟨⟨c0, c1, c2, c3, z2, z3⟩, A, c, b', o', c4, hR, ha⟩ := hx
  obtain ⟨k, sp, n, t, al⟩ := x
  simp only at c0 c1 c2 c3 z2 z3 c4 hR ha hsm hz ⊢
  have hRc := hR.1
  have hln := hR.2.1
  have HR := Lib.hid hR.2
  have HA := Lib.hid ha
  have HS := Lib.hid hsm
  have HI := Lib.hid hI
  have hnl := baLen n
  clear hR ha hsm hI c0 c1 c3 z3 z2
  have W1 : Hid (∀ W g, g = W.heap.size → BldF bb bb (Lib.byteCells l) W → bb < W.heap.size → Calls Try.prog 39 #[.pointer (some ⟨bb, 0, none⟩), .slice (some ⟨g, 0, none⟩) 2 2] (W.alloc (.cells #[.string ⟨#[60]⟩, .string n] 9)) (Wrote bb (l ++ (60 :: (n.data.toList ++ alText (al.take 0)))) W)) := Lib.hid fun W g hg h1 h2 => by
    subst hg
    have := writeNew_any bb l [⟨#[60]⟩, n] W h1 (by simp) (by simp [flat]; omega) h2
    rw [show flat [⟨#[60]⟩, n] = 60 :: (n.data.toList ++ alText (al.take 0)) by simp [flat, alText]] at this
    exact this
  have HLN := Lib.hid hnl
  have hbs : b < w.heap.size := by omega
  clear hnl
  go_enter Try.func50, Try.ntmps50
  go_wp2_with (go_at_call 39; refine (W1.out (w.alloc (.cells #[.pointer (some ⟨b, o, none⟩)] 77)) _ (by simp) (Lib.IsBuilderF.alloc HI.out _) (by simp; omega)).mono ?_; rintro e w1 ⟨rfl, hI1, hB1, hK1⟩; have B1 : Hid (Below bb w w1) := Lib.hid (((Below.refl bb w).alloc (by omega) _).trans hB1); have hbx : w1.heap[w.heap.size]? = some (.cells #[.pointer (some ⟨b, o, none⟩)] 77 (0, 0)) := kept_lay hK1 (heap_new w _ _) (by omega) (by decide); have K1 : Hid (Kept bb w w1) := Lib.hid (((Lib.OthersKept.refl _ _ w).alloc _).trans hK1); have I1 := Lib.hid hI1; clear hI1 hB1 hK1; have p0 : w1.cell? ⟨w.heap.size, 0, none⟩ = some (.pointer (some ⟨b, o, none⟩)) := cell_heap hbx; have p4 := (B1.out.cell (p := ⟨b, o + 4, none⟩) hb).trans c4; clear hbx)
  go_loopw [20] (fun i wr => ∃ j : Nat, j ≤ al.length ∧ i = .int .i64 (j : Int) ∧ Hid (BldF bb bb (Lib.byteCells (l ++ (60 :: (n.data.toList ++ alText (al.take j))))) wr ∧ Below bb w wr ∧ Kept bb w wr)) (fun i wr => al.length - (intOf i).toNat)
  case atStart => exact ⟨0, Nat.zero_le _, rfl, Lib.hid ⟨I1.out, B1.out, K1.out⟩⟩
  case round =>
    obtain ⟨j, hj, rfl, HH⟩ := hrel
    clear p0 p4 c2 c4 W1 I1 B1 K1
    by_cases hlt : j < al.length
    · obtain ⟨hIr, hBr, hKr⟩ := HH.out
      obtain ⟨e1, e2⟩ := asAt_nth HA.out j hlt
      obtain ⟨rfl, hlo, hhi⟩ := HR.out.2 (by omega)
      have q1 := (hBr.cell (p := ⟨b', o' + j * 2, none⟩) (by show b' < bb; omega)).trans e1
      have q2 := (hBr.cell (p := ⟨b', o' + j * 2 + 1, none⟩) (by show b' < bb; omega)).trans e2
      have hx := HS.out al[j] (List.getElem_mem hlt)
      have hT := Lib.hid (alText_take hlt)
      have hz1 := asSize_nth al j hlt
      have hz2 := alText_len (al.take j)
      have hz3 := asSize_take al j
      have hz4 : (al.take j).length ≤ j := List.length_take_le _ _
      have hz8 := alText_len al
      generalize al[j] = y at *
      obtain ⟨yn, yv⟩ := y
      simp only at q1 q2 hx hz1
      have hz5 := escV_le yv
      have hz6 := baLen yn
      have hrs : w.heap.size ≤ wr.heap.size := hBr.size
      have IR := Lib.hid hIr
      have BR := Lib.hid hBr
      have KR := Lib.hid hKr
      have HV : Hid (∀ W, Calls Try.prog 64 #[.string yv] W fun e w' => e = .returned (.string ⟨(escL escV yv.data.toList).toArray⟩) ∧ Below W.heap.size W w') := Lib.hid fun W => by have := implEscapeValue_any yv W; rw [escAns_small hx.2] at this; exact this
      have WR : Hid (∀ W g, g = W.heap.size → BldF bb bb (Lib.byteCells (l ++ (60 :: (n.data.toList ++ alText (al.take j))))) W → bb < W.heap.size → Calls Try.prog 39 #[.pointer (some ⟨bb, 0, none⟩), .slice (some ⟨g, 0, none⟩) 5 5] (W.alloc (.cells #[.string ⟨#[32]⟩, .string yn, .string ⟨#[61, 34]⟩, .string ⟨(escL escV yv.data.toList).toArray⟩, .string ⟨#[34]⟩] 9)) (Wrote bb (l ++ (60 :: (n.data.toList ++ alText (al.take (j + 1))))) W)) := Lib.hid fun W g hg h1 h2 => by
        subst hg
        have hn := HLN.out
        have hfl : (l ++ (60 :: (n.data.toList ++ alText (al.take j)))) ++ flat [⟨#[32]⟩, yn, ⟨#[61, 34]⟩, ⟨(escL escV yv.data.toList).toArray⟩, ⟨#[34]⟩] = l ++ (60 :: (n.data.toList ++ alText (al.take (j + 1)))) := by rw [hT.out]; simp [flat]
        have h5 := alText_len (al.take (j + 1))
        have h6 := asSize_take al (j + 1)
        have h7 : (al.take (j + 1)).length ≤ j + 1 := List.length_take_le _ _
        have := writeNew_any bb (l ++ (60 :: (n.data.toList ++ alText (al.take j)))) [⟨#[32]⟩, yn, ⟨#[61, 34]⟩, ⟨(escL escV yv.data.toList).toArray⟩, ⟨#[34]⟩] W h1 (by simp) (by rw [← List.length_append, hfl]; simp only [List.length_append, List.length_cons]; omega) h2
        rw [hfl] at this
        exact this
      clear e1 e2 hz1 hz2 hz3 hz4 hz5 hz6 hz8 hx hT HH hIr hBr hKr
      have hbr : b' < wr.heap.size := by omega
      go_wp2
      go_region_held3 (fun w' => w'.cell? ⟨wr.heap.size, 0, none⟩ = some (.string yn) ∧ w'.cell? ⟨wr.heap.size, 1, none⟩ = some (.string yv)) (first | exact And.intro u1 u2 | exact And.intro v1 v2 | go_keep) (first | (go_at_call 64; go_loud (refine (HV.out _).mono ?_; rintro e w2 ⟨rfl, hB2⟩; have I2 : Hid (BldF bb bb (Lib.byteCells (l ++ (60 :: (n.data.toList ++ alText (al.take j))))) w2) := Lib.hid (BldF.next (BldF.drew (Lib.IsBuilderF.alloc IR.out _)) hB2); have B2 : Hid (Below bb w w2) := Lib.hid ((BR.out.alloc (by omega) _).drew.trans (hB2.mono (by show bb ≤ (wr.heap.push _).size; simp <;> omega))); have K2 : Hid (Kept bb w w2) := Lib.hid ((KR.out.trans ((Lib.OthersKept.refl _ _ wr).alloc _)).drew.trans (kept_of_below hB2)); have hb2 : w2.heap[wr.heap.size]? = some (.cells #[.string yn, .string yv] 60 (0, 0)) := (hB2.block wr.heap.size (by simp)).trans (heap_new wr _ _); have hs2 : w.heap.size < w2.heap.size := Nat.lt_of_lt_of_le (by show w.heap.size < (wr.heap.push _).size; simp <;> omega) hB2.size; have v1 : w2.cell? ⟨wr.heap.size, 0, none⟩ = some (.string yn) := cell_heap hb2; have v2 : w2.cell? ⟨wr.heap.size, 1, none⟩ = some (.string yv) := cell_heap hb2; have HB2 := Lib.hid hb2; clear hB2 hb2)) | (go_at_call 39; refine (WR.out w2 _ rfl I2.out (by omega)).mono ?_; rintro e w3 ⟨rfl, hI3, hB3, hK3⟩; have hb3 := kept_lay hK3 HB2.out (by omega) (by decide); have I3 : Hid (BldF bb bb (Lib.byteCells (l ++ (60 :: (n.data.toList ++ alText (al.take (j + 1)))))) w3 ∧ Below bb w w3 ∧ Kept bb w w3) := Lib.hid ⟨hI3, B2.out.trans hB3, K2.out.trans hK3⟩; have u1 : w3.cell? ⟨wr.heap.size, 0, none⟩ = some (.string yn) := cell_heap hb3; have u2 : w3.cell? ⟨wr.heap.size, 1, none⟩ = some (.string yv) := cell_heap hb3; clear hb3 hI3 hB3 hK3))
      go_wp2
      go_roundw
      case rel => exact ⟨j + 1, by omega, by go_num, Lib.hid I3.out⟩
      case measure => simp [intOf]; omega
    · obtain rfl : j = al.length := by omega
      have e9 : al.take al.length = al := List.take_length
      have hz8 := alText_len al
      rw [e9] at HH
      have W9 : Hid (∀ W g, g = W.heap.size → BldF bb bb (Lib.byteCells (l ++ (60 :: (n.data.toList ++ alText al)))) W → bb < W.heap.size → Calls Try.prog 39 #[.pointer (some ⟨bb, 0, none⟩), .slice (some ⟨g, 0, none⟩) 1 1] (W.alloc (.cells #[.string ⟨#[62]⟩] 9)) (Wrote bb (l ++ tagText n al) W)) := Lib.hid fun W g hg h1 h2 => by
        subst hg
        have hn := HLN.out
        have := writeNew_any bb (l ++ (60 :: (n.data.toList ++ alText al))) [⟨#[62]⟩] W h1 (by simp) (by simp [flat]; omega) h2
        rw [show (l ++ (60 :: (n.data.toList ++ alText al))) ++ flat [⟨#[62]⟩] = l ++ tagText n al by simp [flat, tagText]] at this
        exact this
      have hrs : w.heap.size ≤ wr.heap.size := HH.out.2.1.size
      clear e9 hz8
      go_wp2_with (go_at_call 39; refine (W9.out wr _ rfl HH.out.1 (by omega)).mono ?_; rintro e w2 ⟨rfl, hI2, hB2, hK2⟩; have I2 := Lib.hid (And.intro hI2 (And.intro (HH.out.2.1.trans hB2) (HH.out.2.2.trans hK2))); clear hI2 hB2 hK2)
      go_end0
      exact ⟨rfl, I2.out⟩
end Go.Proofs.Ytocpmkpffhmlaaa
