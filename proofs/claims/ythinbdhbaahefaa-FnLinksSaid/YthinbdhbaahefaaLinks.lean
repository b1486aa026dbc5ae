import Derived.Test.YthinbdhbaahefaaDrawn
import Derived.Test.YthinbdhbaahefaaAt
import Derived.Test.YthinbdhbaahefaaBadImpl
import Derived.Laws.Concat
import Derived.Deep.DeepCutAuto
import Derived.Deep.RegionWith
import Derived.BigRegion
import Derived.Laws.IdiomStrings
namespace Go.Proofs.Ythinbdhbaahefaa
open Go.ChangeShapes Go.WideShapes Go.ChangeAt Go.RowKit

/-- behind l so many bytes of the scheme have been met -/
def Met (l : List UInt8) (m : Nat) : Prop := ∀ r, badL (l ++ r) 0 = badL r m
theorem Met.nil : Met [] 0 := fun _ => rfl
theorem Met.skip {l : List UInt8} {m : Nat} (h : Met l m) {c : UInt8} (hm : m < 11) (hc : skipB (c.toNat : Int) m = true) : Met (l ++ [c]) m := fun r => by
  rw [List.append_assoc, h, List.singleton_append, badL, if_neg (by omega), if_pos hc]
theorem Met.hit {l : List UInt8} {m : Nat} (h : Met l m) {c : UInt8} (hm : m < 11) (hk : skipB (c.toNat : Int) m = false) (hc : lowB (c.toNat : Int) = wantI m) : Met (l ++ [c]) (m + 1) := fun r => by
  rw [List.append_assoc, h, List.singleton_append, badL, if_neg (by omega), if_neg (by simp [hk]), if_pos hc]
theorem Met.full {l : List UInt8} (h : Met l 11) (x : List UInt8) : Met (l ++ x) 11 := fun r => by
  rw [List.append_assoc, h, badL_full, badL_full]
theorem Met.bad {l : List UInt8} (h : Met l 11) : badL l 0 = true := by
  have := h []
  rw [List.append_nil, badL_full] at this; exact this
/-- nothing, or a byte that is skipped everywhere -/
def gapL : List ByteArray := [⟨#[]⟩, ⟨#[]⟩, ⟨#[10]⟩, ⟨#[13]⟩, ⟨#[9]⟩]
def blankL : List ByteArray := [⟨#[32]⟩, ⟨#[0]⟩, ⟨#[9]⟩, ⟨#[31]⟩]
theorem Met.gap {l : List UInt8} {m : Nat} (h : Met l m) (hm : m ≤ 11) {x : ByteArray} (hx : x ∈ gapL) : Met (l ++ x.data.toList) m := by
  by_cases h11 : m = 11
  · subst h11; exact h.full _
  · simp only [gapL, List.mem_cons, List.not_mem_nil, or_false] at hx
    rcases hx with rfl | rfl | rfl | rfl | rfl
    · simpa using h
    · simpa using h
    all_goals exact h.skip (by omega) (by simp [skipB])
theorem Met.blank {l : List UInt8} (h : Met l 0) {x : ByteArray} (hx : x ∈ blankL) : Met (l ++ x.data.toList) 0 := by
  simp only [blankL, List.mem_cons, List.not_mem_nil, or_false] at hx
  rcases hx with rfl | rfl | rfl | rfl
  all_goals exact h.skip (by omega) (by simp [skipB])
theorem gap_size {x : ByteArray} (hx : x ∈ gapL) : x.size ≤ 1 := by
  simp only [gapL, List.mem_cons, List.not_mem_nil, or_false] at hx
  rcases hx with rfl | rfl | rfl | rfl | rfl <;> decide
theorem blank_size {x : ByteArray} (hx : x ∈ blankL) : x.size ≤ 1 := by
  simp only [blankL, List.mem_cons, List.not_mem_nil, or_false] at hx
  rcases hx with rfl | rfl | rfl | rfl <;> decide
abbrev jsB : ByteArray := ⟨#[106, 97, 118, 97, 115, 99, 114, 105, 112, 116, 58]⟩
theorem js_met : Met jsB.data.toList 11 := (((((((((((Met.nil.hit (c := 106) (by omega) (by decide) (by decide)).hit (c := 97) (by omega) (by decide) (by decide)).hit (c := 118) (by omega) (by decide) (by decide)).hit (c := 97) (by omega) (by decide) (by decide)).hit (c := 115) (by omega) (by decide) (by decide)).hit (c := 99) (by omega) (by decide) (by decide)).hit (c := 114) (by omega) (by decide) (by decide)).hit (c := 105) (by omega) (by decide) (by decide)).hit (c := 112) (by omega) (by decide) (by decide)).hit (c := 116) (by omega) (by decide) (by decide)).hit (c := 58) (by omega) (by decide) (by decide))

/-- the k-th byte of the scheme, small or great -/
theorem scheme_at : ∀ k : Fin 11, (skipB ((wantS[k]).toNat : Int) k = false ∧ lowB ((wantS[k]).toNat : Int) = wantI k) ∧
    (97 ≤ (wantS[k]).toNat → skipB ((wantS[k]).toNat - 32 : Int) k = false ∧ lowB ((wantS[k]).toNat - 32 : Int) = wantI k) := by decide
def badText (v : ByteArray) : ByteArray := jsB ++ v
theorem badText_at (v : ByteArray) (k : Nat) (hk : k < 11) (h : k < (badText v).size) : (badText v)[k] = wantS[k]'(by rw [size_want]; exact hk) := by
  exact ByteArray.getElem_append_left (a := jsB) (b := v) (show k < 11 from hk)
/-- one byte more, as it is or in its great letter -/
theorem Met.byte {l : List UInt8} {v : ByteArray} {k : Nat} (h : Met l (min k 11)) (hk : k < (badText v).size) {c : UInt8} (hc : c = (badText v)[k] ∨ (97 ≤ ((badText v)[k]).toNat ∧ c.toNat + 32 = ((badText v)[k]).toNat)) : Met (l ++ [c]) (min (k + 1) 11) := by
  by_cases h11 : k < 11
  · rw [Nat.min_eq_left (by omega)] at h
    rw [Nat.min_eq_left (by omega)]
    have hs := scheme_at ⟨k, h11⟩
    rw [badText_at v k h11 hk] at hc
    rcases hc with hc | ⟨h97, hc⟩
    · rw [hc]; exact h.hit h11 hs.1.1 hs.1.2
    · have e : (c.toNat : Int) = ((wantS[k]'(by rw [size_want]; exact h11)).toNat : Int) - 32 := by omega
      have h2 := hs.2 h97
      exact h.hit h11 (by rw [e]; exact h2.1) (by rw [e]; exact h2.2)
  · rw [Nat.min_eq_right (by omega)] at h
    rw [Nat.min_eq_right (by omega)]
    exact h.full _
theorem badText_js (v : ByteArray) : badL (badText v).data.toList 0 = true := by
  have : (badText v).data.toList = jsB.data.toList ++ v.data.toList := by simp [badText, ByteArray.data_append]
  rw [this, js_met, badL_full]
theorem badText_x (v : ByteArray) : badL ((⟨#[120]⟩ : ByteArray) ++ badText v).data.toList 0 = false := by
  have : ((⟨#[120]⟩ : ByteArray) ++ badText v).data.toList = 120 :: (badText v).data.toList := by simp [ByteArray.data_append]
  rw [this, badL, if_neg (by omega), if_neg (by decide), if_neg (by decide)]
theorem js_apart : badL (⟨#[106, 97, 118, 97, 32, 115, 99, 114, 105, 112, 116, 58]⟩ : ByteArray).data.toList 0 = false := by decide
theorem badText_ge (v : ByteArray) : 11 ≤ (badText v).size := by
  unfold badText
  rw [ByteArray.size_append]
  have : jsB.size = 11 := rfl
  omega
theorem val_size {v : ByteArray} (h : v ∈ valL) : v.size ≤ 20 := by
  have : ∀ v ∈ valL, v.size ≤ 20 := by decide
  exact this v h
theorem badText_size {v : ByteArray} (h : v ∈ valL) : (badText v).size ≤ 31 := by
  have := val_size h
  unfold badText
  rw [ByteArray.size_append]
  have : jsB.size = 11 := rfl
  omega
theorem badB_of {s : ByteArray} {b : Bool} (hs : s.size ≤ 65536) (h : badL s.data.toList 0 = b) : badB s = b := by
  rw [badB, decide_eq_true hs, h]; rfl

theorem CodeAt.below {B n : Nat} {o : Option Addr} {w w' : World} {C : Nat} (h : CodeAt B w o n) (hb : Below C w w') (hC : B ≤ C) : CodeAt B w' o n := by
  refine ⟨h.1, fun j hj => ?_⟩
  obtain ⟨a, z, h1, h2, h3, h4⟩ := h.2 j hj
  exact ⟨a, z, h1, h2, (hb.cell (by rw [add_block]; omega)).trans h3, h4⟩
/-- a text of a list at a place that is within it -/
theorem listed_at {L : Nat} {ps : List ByteArray} {w w' : World} {S : Nat} (h : Listed L ps w) (ht : Touch S w w') (hL : L ≠ S) {z : Int} (h0 : 0 ≤ z) (h1 : z < ps.length) :
    ∃ x, x ∈ ps ∧ w'.cell? ⟨L, z.toNat, none⟩ = some (.string x) := by
  obtain ⟨i, rfl⟩ := Int.eq_ofNat_of_zero_le h0
  have hi : i < ps.length := by omega
  exact ⟨ps[i], List.getElem_mem hi, (ht.cell hL).trans (h.cell hi)⟩
/-- the text that grows: it has met so much of the scheme, and is no longer than so -/
def Grows (t : ByteArray) (m n : Nat) : Prop := Met t.data.toList m ∧ t.size ≤ n
theorem run_cat (a b : ByteArray) (h : a.size + b.size ≤ 65536) (w : World) : (Op.stringOp .add a b).run Try.prog w = .ok (.string (a ++ b)) w := run_string_add_sum w a b (by omega)

/-- what the round's statement makes: a byte, and five texts -/
abbrev oneO (m : Int) : Obj := .cells #[.int .u8 m] 5
abbrev gapO : Obj := .cells #[.string ⟨#[]⟩, .string ⟨#[]⟩, .string ⟨#[10]⟩, .string ⟨#[13]⟩, .string ⟨#[9]⟩] 9
theorem gap_load (wr : World) (m : Int) {z : Int} (h0 : 0 ≤ z) (h1 : z < 5) : ∃ x, x ∈ gapL ∧ (wr.alloc gapO).cell? ⟨wr.heap.size, z.toNat, none⟩ = some (.string x) ∧
    ((wr.alloc gapO).alloc (oneO m)).cell? ⟨wr.heap.size, z.toNat, none⟩ = some (.string x) ∧ ((wr.alloc (oneO m)).alloc gapO).cell? ⟨wr.heap.size + 1, z.toNat, none⟩ = some (.string x) ∧
    ∀ h : z.toNat < 5, [Value.string ⟨#[]⟩, .string ⟨#[]⟩, .string ⟨#[10]⟩, .string ⟨#[13]⟩, .string ⟨#[9]⟩][z.toNat]'h = .string x := by
  obtain ⟨i, rfl⟩ := Int.eq_ofNat_of_zero_le h0
  have hi : i < gapL.length := by show i < 5; omega
  have e1 : (wr.alloc gapO).cell? ⟨wr.heap.size, i, none⟩ = some (.string gapL[i]) := (Listed.new gapL wr).cell hi
  have e3 : ((wr.alloc (oneO m)).alloc gapO).cell? ⟨(wr.alloc (oneO m)).heap.size, i, none⟩ = some (.string gapL[i]) := (Listed.new gapL (wr.alloc (oneO m))).cell hi
  refine ⟨gapL[i], List.getElem_mem hi, e1, ?_, by simpa using e3, fun h => ?_⟩
  case refine_2 =>
    have e4 : (gapL.map Value.string)[i]'(by rw [List.length_map]; exact hi) = .string gapL[i] := List.getElem_map _
    exact e4
  exact (((Below.refl (wr.heap.size + 1) (wr.alloc gapO)).alloc (by simp) _).cell (p := ⟨wr.heap.size, i, none⟩) (Nat.lt_succ_self _)).trans e1
theorem cat_size1 (c : UInt8) {x : ByteArray} (hx : x ∈ gapL) : (ByteArray.mk [c].toArray).size + x.size ≤ 65536 := by
  have := gap_size hx
  have e : (ByteArray.mk [c].toArray).size = 1 := rfl
  omega
theorem cat_size2 (c : UInt8) {x T : ByteArray} (hx : x ∈ gapL) (hT : T.size ≤ 1000) : T.size + ((ByteArray.mk [c].toArray) ++ x).size ≤ 65536 := by
  have := gap_size hx
  have e : (ByteArray.mk [c].toArray).size = 1 := rfl
  rw [ByteArray.size_append]
  omega
theorem alloc_drewN : ∀ (W : World) (n : Nat) (o : Obj), (W.drewN n).alloc o = (W.alloc o).drewN n := fun _ _ _ => rfl
theorem Grows.round {T v : ByteArray} {k : Nat} (h : Grows T (min k 11) (4 + 2 * k)) (hk : k < (badText v).size) {c : UInt8} (hc : c = (badText v)[k] ∨ (97 ≤ ((badText v)[k]).toNat ∧ c.toNat + 32 = ((badText v)[k]).toNat)) {x : ByteArray} (hx : x ∈ gapL) :
    Grows (T ++ (⟨[c].toArray⟩ ++ x)) (min (k + 1) 11) (4 + 2 * (k + 1)) := by
  refine ⟨?_, ?_⟩
  · have e : (T ++ ((⟨[c].toArray⟩ : ByteArray) ++ x)).data.toList = T.data.toList ++ [c] ++ x.data.toList := by simp [ByteArray.data_append]
    rw [e]
    exact (h.1.byte hk hc).gap (Nat.min_le_right _ _) hx
  · have h1 := gap_size hx
    have h2 := h.2
    have e : (ByteArray.mk [c].toArray).size = 1 := rfl
    rw [ByteArray.size_append, ByteArray.size_append]
    omega
theorem byte_less {c : UInt8} (h : 97 ≤ (c.toNat : Int)) : Value.int .u8 ((c.toNat : Int) - 32) = .int .u8 (((c - 32).toNat : Nat) : Int) := by
  have e : (c - 32).toNat = c.toNat - 32 := by
    rw [UInt8.toNat_sub_of_le]
    · rfl
    · rw [UInt8.le_iff_toNat_le]; show 32 ≤ c.toNat; omega
  rw [e]; congr 1; omega
theorem byte_less' {c : UInt8} (h : 97 ≤ (c.toNat : Int)) : (c - 32).toNat + 32 = c.toNat := by
  have e : (c - 32).toNat = c.toNat - 32 := by
    rw [UInt8.toNat_sub_of_le]
    · rfl
    · rw [UInt8.le_iff_toNat_le]; show 32 ≤ c.toNat; omega
  omega
theorem conv_one (L : Nat) (c : UInt8) (W : World) (h : W.cell? ⟨L, 0, none⟩ = some (.int .u8 (c.toNat : Int))) : (convert 22 9 (.slice (some ⟨L, 0, none⟩) 1 1)).run Try.prog W = .ok (.string ⟨[c].toArray⟩) W :=
  run_convert_bytes_back W 22 9 5 ⟨L, 0, none⟩ 1 [c] Try.underlying22 Try.underlying5 Try.underlying9 (fun j hj => by
    obtain rfl : j = 0 := by simpa using hj
    exact h)

set_option maxHeartbeats 4000000 in
set_option maxRecDepth 100000 in
theorem links_walk (B n1 cap1 n2 cap2 : Nat) (o1 o2 : Option Addr) (w : World) (hc1 : CodeAt B w o1 n1) (hc2 : CodeAt B w o2 n2) (hB : B ≤ w.heap.size) :
    Calls Try.prog 4 #[.slice o1 n1 cap1, .slice o2 n2 cap2] w fun e w' => e = .returned (.bool true) ∧ Below w.heap.size w w' := by
  have hn1 := hc1.1
  have hn2 := hc2.1
  go_enter Try.func4, Try.ntmps4
  go_wp2_with (go_at_call 28; refine (ValueDrawn_any B n1 cap1 o1 _ hc1 hB).mono ?_)
  rintro e w1 ⟨v, hv, rfl, hb1⟩
  have hvs := val_size hv
  have hadd : ∀ w, (Op.stringOp .add jsB v).run Try.prog w = .ok (.string (badText v)) w := run_cat jsB v (by have : jsB.size = 11 := rfl; omega)
  have hbs := badText_size hv
  generalize hbt : badText v = bad at hadd hbs
  go_wp2
  go_loopw [7, 6] (fun i t wr => ∃ (k : Nat) (T : ByteArray), k ≤ 4 ∧ i = .int .i64 k ∧ t = .string T ∧ Grows T 0 k ∧ Below w.heap.size w wr) (fun i _ _ => 4 - (intOf i).toNat)
  case atStart => exact ⟨0, ⟨#[]⟩, by omega, rfl, rfl, ⟨Met.nil, Nat.le_refl _⟩, hb1⟩
  case round =>
    obtain ⟨k, T, hk, rfl, rfl, hg, hbw⟩ := hrel
    have HG := Lib.hid hg
    clear hg
    have hcw := hc2.below hbw hB
    go_wp2_with (go_at_call 26; refine (at_any B n2 cap2 0 o2 4 _ hcw (by omega) (by omega) (by omega)).mono ?_)
    rintro e w2 ⟨z, q, rfl, hz0, hz1, hw2⟩
    have ht : Touch wr.heap.size wr w2 := by rw [hw2]; exact (Touch.refl _ _).drewN q
    clear hw2
    have hbw2 : Below w.heap.size w w2 := hbw.trans (ht.below.mono hbw.size)
    clear ht
    by_cases hkz : (k : Int) < z
    · have hcw2 := (hc2.below hbw2 hB)
      have hcw3 : CodeAt B (w2.alloc (.cells #[.string ⟨#[32]⟩, .string ⟨#[0]⟩, .string ⟨#[9]⟩, .string ⟨#[31]⟩] 9)) o2 n2 := hc2.below (hbw2.alloc hbw2.size _) hB
      go_wp2_with (go_at_call 26; refine (at_int B n2 cap2 _ o2 4 _ hcw3 (by omega) (by omega) (by omega) (by omega)).mono ?_)
      rintro e w3 ⟨z2, q2, rfl, hy0, hy1, hw3⟩
      have ht : Touch (w2.heap.size + 1) (w2.alloc (.cells #[.string ⟨#[32]⟩, .string ⟨#[0]⟩, .string ⟨#[9]⟩, .string ⟨#[31]⟩] 9)) w3 := by rw [hw3]; exact (Touch.refl _ _).drewN q2
      clear hw3
      obtain ⟨x, hx, hcx⟩ := listed_at (L := w2.heap.size) (ps := blankL) (Listed.new blankL w2) ht (by omega) hy0 hy1
      have hbw3 : Below w.heap.size w w3 := (hbw2.alloc hbw2.size _).trans (ht.below.mono (by have := hbw2.size; omega))
      have hxs := blank_size hx
      have hTs := HG.out.2
      have hadd2 := run_cat T x (by omega)
      clear ht hcw2 hcw3
      go_wp2
      go_roundw
      case rel => exact ⟨k + 1, T ++ x, by omega, by go_num, rfl, ⟨by rw [ByteArray.data_append, Array.toList_append]; exact HG.out.1.blank hx, by rw [ByteArray.size_append]; omega⟩, hbw3⟩
      case measure => simp [intOf]; omega
    · go_wp2
      go_loopw [8, 6] (fun i t wr => ∃ (k : Nat) (T : ByteArray), k ≤ bad.size ∧ i = .int .i64 k ∧ t = .string T ∧ Grows T (min k 11) (4 + 2 * k) ∧ Below w.heap.size w wr) (fun i _ _ => bad.size - (intOf i).toNat)
      case atStart => exact ⟨0, T, Nat.zero_le _, rfl, rfl, ⟨HG.out.1, by have := HG.out.2; omega⟩, hbw2⟩
      case round =>
        clear hbw2 HG hkz
        obtain ⟨k, T, hk, rfl, rfl, hg, hbw⟩ := hrel
        have HG := Lib.hid hg
        clear hg
        by_cases hlt : k < bad.size
        · have hcr := hc2.below hbw hB
          have hwz := hbw.size
          have hBL : (bad[k].toNat : Int) ≤ 255 := by have := (bad[k]).toNat_lt; omega
          go_upto_region 13 with fail
          go_cut [57] from 46 to 57 (fun s57 wx => ∃ b : Bool, s57 = .bool b ∧ (b = true → 97 ≤ (bad[k].toNat : Int)) ∧ Below w.heap.size w wx)
          case first =>
            by_cases hr : 97 ≤ (bad[k].toNat : Int)
            · by_cases hr2 : (bad[k].toNat : Int) ≤ 122
              · go_wp2_with (go_at_call 26; refine (at_int B n2 cap2 _ o2 3 _ hcr (by omega) (by omega) (by omega) (by omega)).mono ?_)
                rintro e w3 ⟨z, q, rfl, hz0, hz1, hw3⟩
                have hb3 : Below w.heap.size w w3 := by rw [hw3]; exact below_drewN hbw q
                clear hw3
                go_wp2
                go_meet
                exact ⟨_, rfl, fun _ => hr, hb3⟩
              · have hr2' : decide ((bad[k].toNat : Int) ≤ 122) = false := by simpa using hr2
                clear hr2
                go_wp2
                go_meet
                exact ⟨_, rfl, fun _ => hr, hbw⟩
            · have hr' : (bad[k].toNat : Int) < 97 := by omega
              clear hr
              go_wp2
              go_meet
              exact ⟨_, rfl, fun h => by simp at h, hbw⟩
          case rest =>
            clear hcr hwz hbw
            obtain ⟨b, rfl, hb97, hbw⟩ := hcut
            generalize wc = wr at hbw ⊢
            have hcr := hc2.below hbw hB
            have hwz := hbw.size
            go_upto_if 57 with fail
            go_cut [9] from 58 to 59 (fun s9 wx => ∃ c' : UInt8, s9 = .int .u8 (c'.toNat : Int) ∧ (c' = bad[k] ∨ (97 ≤ (bad[k]).toNat ∧ c'.toNat + 32 = (bad[k]).toNat)) ∧ wx = wr)
            case first =>
              cases b
              · go_wp2
                go_meet
                exact ⟨bad[k], rfl, Or.inl rfl, rfl⟩
              · have h97 := hb97 rfl
                clear hb97
                go_wp2
                go_meet
                exact ⟨bad[k] - 32, byte_less h97, Or.inr ⟨by omega, byte_less' h97⟩, rfl⟩
            case rest =>
              obtain ⟨c', rfl, hk', rfl⟩ := hcut
              have HK := Lib.hid hk'
              clear hk' hb97
              have hcA := hc2.below (hbw.alloc hwz (oneO (c'.toNat : Int))) hB
              have hcC := hc2.below (hbw.alloc hwz gapO) hB
              have hcAC := hc2.below ((hbw.alloc hwz (oneO (c'.toNat : Int))).alloc (by simp; omega) gapO) hB
              have hcCA := hc2.below ((hbw.alloc hwz gapO).alloc (by simp; omega) (oneO (c'.toNat : Int))) hB
              have hconv := fun L => conv_one L c'
              have ew : IntKind.i64.wrap ((k : Int) + 5) = (k : Int) + 5 := IntWalk.i64_in _ (by omega)
              have hTs := HG.out.2
              have hmove := alloc_drewN
              go_upto_region 15 with fail
              go_region_with (go_at_call 26; refine (at_int B n2 cap2 _ o2 5 _ (by first | exact hcr | exact hcA | exact hcC | exact hcAC | exact hcCA) (by omega) (by omega) (by omega) (by omega)).mono ?_; rintro e w3 ⟨z, q, rfl, hz0, hz1, rfl⟩; obtain ⟨x, hx, f1, f2, f3, f4⟩ := gap_load wc (c'.toNat : Int) hz0 hz1; have a1 := run_cat ⟨[c'].toArray⟩ x (cat_size1 c' hx); have a2 := run_cat T (⟨[c'].toArray⟩ ++ x) (cat_size2 c' hx (by omega)))
              all_goals
                clear hconv hmove ew hcA hcC hcAC hcCA hcr
                go_wp2
                go_roundw
                case rel => exact ⟨k + 1, _, by omega, by go_num, rfl, by subst hbt; exact HG.out.round hlt HK.out hx, by first | exact below_drewN ((hbw.alloc hwz _).alloc (by simp; omega) _) _ | exact below_drewN (below_drewN ((hbw.alloc hwz _).alloc (by simp; omega) _) _) _⟩
                case measure => simp [intOf]; omega
        · have hk11 : min k 11 = 11 := Nat.min_eq_right (by have := badText_ge v; rw [hbt] at this; omega)
          have hT := HG.out
          rw [hk11] at hT
          have HM := Lib.hid hT.1.bad
          have hTs := hT.2
          clear hT hk11
          have B1 := Lib.hid (show badB bad = true by subst hbt; exact badB_of (by omega) (badText_js v))
          have B2 := Lib.hid (show badB T = true from badB_of (by omega) HM.out)
          have hxs : ((⟨#[120]⟩ : ByteArray) ++ bad).size ≤ 65536 := by rw [ByteArray.size_append]; have : (ByteArray.mk #[120]).size = 1 := rfl; omega
          have B3 := Lib.hid (show badB ((⟨#[120]⟩ : ByteArray) ++ bad) = false by subst hbt; exact badB_of hxs (badText_x v))
          have hax := run_cat ⟨#[120]⟩ bad (by have : (ByteArray.mk #[120]).size = 1 := rfl; omega)
          have B4 := Lib.hid (show badB (⟨#[106, 97, 118, 97, 32, 115, 99, 114, 105, 112, 116, 58]⟩ : ByteArray) = false from badB_of (by decide) js_apart)
          have hm1 : bad.size ≤ maxLen := by unfold maxLen; omega
          have hm2 : T.size ≤ maxLen := by unfold maxLen; omega
          have hm3 : ((⟨#[120]⟩ : ByteArray) ++ bad).size ≤ maxLen := by unfold maxLen; omega
          have hm4 : (⟨#[106, 97, 118, 97, 32, 115, 99, 114, 105, 112, 116, 58]⟩ : ByteArray).size ≤ maxLen := by decide
          have hcr := hc2.below hbw hB
          have hBw : B ≤ wr.heap.size := by have := hbw.size; omega
          clear hTs hbs hxs hadd
          go_wp2_with (go_at_call 28; refine (ValueDrawn_any B n2 cap2 o2 _ hcr hBw).mono ?_)
          rintro e w3 ⟨v2, hv2, rfl, hb3⟩
          have hb4 : Below w.heap.size w w3 := hbw.trans (hb3.mono hbw.size)
          have hm5 : v2.size ≤ maxLen := by have := val_size hv2; unfold maxLen; omega
          go_wp2_with (go_at_call 29; refine (implBadLink_any bad _ hm1).mono ?_)
          rintro e w4 ⟨rfl, hd4⟩
          rw [B1.out]
          go_wp2_with (go_at_call 29; refine (implBadLink_any T _ hm2).mono ?_)
          rintro e w5 ⟨rfl, hd5⟩
          rw [B2.out]
          go_wp2_with (go_at_call 29; refine (implBadLink_any ((⟨#[120]⟩ : ByteArray) ++ bad) _ hm3).mono ?_)
          rintro e w6 ⟨rfl, hd6⟩
          rw [B3.out]
          go_wp2_with (go_at_call 29; refine (implBadLink_any _ _ hm4).mono ?_)
          rintro e w7 ⟨rfl, hd7⟩
          rw [B4.out]
          go_wp2_with (go_at_call 29; refine (implBadLink_any v2 _ hm5).mono ?_)
          rintro e w8 ⟨rfl, hd8⟩
          go_wp2_with (go_at_call 30; refine (specBadLink_any v2 _ hm5).mono ?_)
          rintro e w9 ⟨rfl, rfl⟩
          have hb9 : Below w.heap.size w w8 := ((((hb4.trans (hd4.below _)).trans (hd5.below _)).trans (hd6.below _)).trans (hd7.below _)).trans (hd8.below _)
          go_wp2
          go_ret
          exact ⟨by simp, hb9⟩
end Go.Proofs.Ythinbdhbaahefaa
