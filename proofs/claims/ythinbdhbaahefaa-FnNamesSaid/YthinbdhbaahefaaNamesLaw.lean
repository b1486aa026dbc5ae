import Derived.Test.YthinbdhbaahefaaVary
import Derived.Deep.DeepCutAuto
import Derived.Deep.RegionWith
import Derived.BigRegion
namespace Go.Proofs.Ythinbdhbaahefaa
open Go.ChangeShapes Go.WideShapes Go.ChangeAt Go.RowKit

theorem CodeAt.below {B n : Nat} {o : Option Addr} {w w' : World} {C : Nat} (h : CodeAt B w o n) (hb : Below C w w') (hC : B ≤ C) : CodeAt B w' o n := by
  refine ⟨h.1, fun j hj => ?_⟩
  obtain ⟨a, z, h1, h2, h3, h4⟩ := h.2 j hj
  exact ⟨a, z, h1, h2, (hb.cell (by rw [add_block]; omega)).trans h3, h4⟩
theorem below_step {a b c : World} (h : Below a.heap.size a b) (k : Below b.heap.size b c) : Below a.heap.size a c := h.trans (k.mono h.size)
theorem OwnB.later {w0 w w' : World} {v : Value} {l : List UInt8} (h : OwnB w0 w v l) (hb : Below w.heap.size w w') : OwnB w0 w' v l := by
  refine ⟨⟨h.1.1, ?_⟩, below_step h.2 hb⟩
  rcases h.1.2 with h2 | ⟨g, cap, cur, h2, h3, h4, h5⟩
  · exact Or.inl h2
  · refine Or.inr ⟨g, cap, cur, h2, h3, ?_, h5⟩
    have hlt : g < w.heap.size := (Array.getElem?_eq_some_iff.1 h4).1
    exact (hb.block g hlt).trans h4
theorem namesL_good {s1 s2 a : ByteArray} (h1 : s1 ∈ tagL) (h2 : s2 ∈ tagL) (h3 : a ∈ attrL) {n : ByteArray} (h : n ∈ s1 :: s2 :: a :: fixL) : n ∈ goodL := by
  simp only [goodL, List.mem_append]
  simp only [List.mem_cons] at h
  rcases h with rfl | rfl | rfl | h
  · exact Or.inl (Or.inl h1)
  · exact Or.inl (Or.inl h2)
  · exact Or.inl (Or.inr h3)
  · exact Or.inr h
theorem field_name (a v : ByteArray) (w : World) : (Instr.field 25 (.agg #[.string a, .string v]) 0).run Try.prog w = .ok (.string a) w := by kernel_rfl
theorem byte_less {c : UInt8} (h : 97 ≤ (c.toNat : Int)) : Value.int .u8 ((c.toNat : Int) - 32) = .int .u8 (((c - 32).toNat : Nat) : Int) := by
  have e : (c - 32).toNat = c.toNat - 32 := by
    rw [UInt8.toNat_sub_of_le]
    · rfl
    · rw [UInt8.le_iff_toNat_le]; show 32 ≤ c.toNat; omega
  rw [e]; congr 1; omega
theorem byte_less' {c : UInt8} (h : 97 ≤ (c.toNat : Int)) : (c - 32).toNat + 32 = c.toNat := by
  have e : (c - 32).toNat = c.toNat - 32 := by
    rw [UInt8.toNat_sub_of_le]
    · rfl
    · rw [UInt8.le_iff_toNat_le]; show 32 ≤ c.toNat; omega
  omega
theorem take_snoc' {n : ByteArray} {k : Nat} (h : k < n.size) : n.data.toList.take (k + 1) = n.data.toList.take k ++ [n[k]] := List.take_succ_eq_append_getElem (by simpa using h)

set_option maxHeartbeats 8000000 in
set_option maxRecDepth 100000 in
theorem names_walk (B n1 cap1 n2 cap2 : Nat) (o1 o2 : Option Addr) (w : World) (hc1 : CodeAt B w o1 n1) (hc2 : CodeAt B w o2 n2) (hB : B ≤ w.heap.size) :
    Calls Try.prog 3 #[.slice o1 n1 cap1, .slice o2 n2 cap2] w fun e w' => e = .returned (.bool true) ∧ Below w.heap.size w w' := by
  have hn1 := hc1.1
  have hn2 := hc2.1
  go_enter Try.func3, Try.ntmps3
  go_wp2_with (go_at_call 9; refine (TagDrawn_any B n1 cap1 o1 _ hc1 hB).mono ?_)
  rintro e w1 ⟨s1, h1, rfl, hb1⟩
  have hd2 := hc2.below hb1 hB
  have hB1 : B ≤ w1.heap.size := by have := hb1.size; omega
  go_wp2_with (go_at_call 9; refine (TagDrawn_any B n2 cap2 o2 _ hd2 hB1).mono ?_)
  rintro e w2 ⟨s2, h2, rfl, hb2⟩
  have hd1 := (hc1.below hb1 hB).below hb2 hB1
  have hB2 : B ≤ w2.heap.size := by have := hb2.size; omega
  go_wp2_with (go_at_call 10; refine (AttrDrawn_any B n1 cap1 o1 _ hd1 hB2).mono ?_)
  rintro e w3 ⟨at', vv, h3, _, rfl, hb3⟩
  have hb0 : Below w.heap.size w w3 := below_step (below_step hb1 hb2) hb3
  clear hd1 hd2 hB1 hB2 hb1 hb2 hb3
  have hfield : ∀ w, (Instr.field 25 (.agg #[.string at', .string vv]) 0).run Try.prog w = .ok (.string at') w := fun w => field_name at' vv w
  go_wp2
  clear hfield
  obtain ⟨W, hW⟩ : ∃ W, W = w3.alloc (.cells ((s1 :: s2 :: at' :: fixL).map Value.string).toArray 9) := ⟨_, rfl⟩
  have hL : Listed w3.heap.size (s1 :: s2 :: at' :: fixL) W := by rw [hW]; exact Listed.new _ _
  have hLW : w3.heap.size < W.heap.size := by rw [hW]; simp
  have hbW : Below w.heap.size w W := by rw [hW]; exact hb0.alloc hb0.size _
  generalize hps : s1 :: s2 :: at' :: fixL = ps at hL hW
  have hlen : ps.length = 10 := by rw [← hps]; rfl
  have hgood : ∀ n ∈ ps, n ∈ goodL := fun n hn => by rw [← hps] at hn; exact namesL_good h1 h2 h3 hn
  have HW := Lib.hid hW
  have HG := Lib.hid hgood
  have HP := Lib.hid hps
  have HLen := Lib.hid hlen
  clear hW hgood hps hlen
  go_loopw [6] (fun i wr => ∃ k : Nat, k ≤ 10 ∧ i = .int .i64 k ∧ Below W.heap.size W wr) (fun i _ => 10 - (intOf i).toNat)
  case atStart => exact ⟨0, by omega, rfl, by rw [HW.out, ← HP.out]; exact Below.refl _ _⟩
  case round =>
    obtain ⟨k, hk, rfl, hb⟩ := hrel
    by_cases hlt : k < 10
    · have hkl : k < ps.length := by rw [HLen.out]; exact hlt
      have hcell : wr.cell? ⟨w3.heap.size, k, none⟩ = some (.string ps[k]) := (hb.cell (p := ⟨w3.heap.size, k, none⟩) hLW).trans (hL.cell hkl)
      have hn := HG.out ps[k] (List.getElem_mem hkl)
      generalize ps[k] = n at hcell hn
      have hsz := good_size hn
      have hm : n.size ≤ maxLen := by unfold maxLen; omega
      have HN := Lib.hid hn
      have HT := Lib.hid (namedB_true (good_named hn)).symm
      clear hn
      go_wp2_with (first
        | (go_at_call 11; refine (implIsVoid_any n _).mono ?_; rintro e wx ⟨rfl, rfl⟩)
        | (go_at_call 12; refine (specIsVoid_any n _).mono ?_; rintro e wx ⟨rfl, hx⟩; replace hb := below_step hb hx; clear hx)
        | (go_at_call 13; refine (implIsRaw_any n _).mono ?_; rintro e wx ⟨rfl, rfl⟩)
        | (go_at_call 14; refine (specIsRaw_any n _).mono ?_; rintro e wx ⟨rfl, hx⟩; replace hb := below_step hb hx; clear hx)
        | (go_at_call 15; refine (implBreaksOut_any n _ hm).mono ?_; rintro e wx ⟨rfl, hx⟩; replace hb := below_step hb hx; clear hx)
        | (go_at_call 16; refine (specBreaksOut_any n _).mono ?_; rintro e wx ⟨rfl, hx⟩; replace hb := below_step hb hx; clear hx)
        | (go_at_call 17; refine (implIsBanned_any n _ hm).mono ?_; rintro e wx ⟨rfl, hx⟩; replace hb := below_step hb hx; clear hx)
        | (go_at_call 18; refine (specIsBanned_any n _).mono ?_; rintro e wx ⟨rfl, hx⟩; replace hb := below_step hb hx; clear hx)
        | (go_at_call 19; refine (implIsHandler_any n _ hm).mono ?_; rintro e wx ⟨rfl, rfl⟩)
        | (go_at_call 20; refine (specIsHandler_any n _).mono ?_; rintro e wx ⟨rfl, rfl⟩)
        | (go_at_call 21; refine (implIsLink_any n _ hm).mono ?_; rintro e wx ⟨rfl, hx⟩; replace hb := below_step hb hx; clear hx)
        | (go_at_call 22; refine (specIsLink_any n _).mono ?_; rintro e wx ⟨rfl, hx⟩; replace hb := below_step hb hx; clear hx)
        | (go_at_call 23; refine (implSpaceOf_any n _).mono ?_; rintro e wx ⟨rfl, rfl⟩)
        | (go_at_call 24; refine (specSpaceOf_any n _).mono ?_; rintro e wx ⟨rfl, rfl⟩)
        | (go_at_call 25; refine (implTagOK_any n _ hm).mono ?_; rintro e wx ⟨rfl, rfl⟩; rw [HT.out]))
      have hcx : CodeAt B wx o2 n2 := (hc2.below hbW hB).below hb (by have := hbW.size; omega)
      have hBx : B ≤ wx.heap.size := by have := hbW.size; have := hb.size; omega
      go_loopw [9, 8] (fun i v wr2 => ∃ (j : Nat) (l : List UInt8), j ≤ n.size ∧ i = .int .i64 j ∧ OwnB wx wr2 v l ∧ VaryL l (n.data.toList.take j)) (fun i _ _ => n.size - (intOf i).toNat)
      case atStart => exact ⟨0, [], Nat.zero_le _, rfl, OwnB.empty wx, trivial⟩
      case round =>
        obtain ⟨j, l, hj, rfl, hown, hvary⟩ := hrel
        have HV := Lib.hid hvary
        clear hvary
        by_cases hjl : j < n.size
        · have hcr := hcx.below hown.2 hBx
          go_upto_region 15 with fail
          go_cut [110] from 99 to 110 (fun s wc' => ∃ (b : Bool) (q : Nat), s = .bool b ∧ (b = true → 97 ≤ (n[j].toNat : Int) ∧ (n[j].toNat : Int) ≤ 122) ∧ wc' = wr.drewN q)
          case first =>
            by_cases hr : 97 ≤ (n[j].toNat : Int)
            · by_cases hr2 : (n[j].toNat : Int) ≤ 122
              · go_wp2_with (go_at_call 26; refine (at_int B n2 cap2 _ o2 2 _ hcr (by omega) (by omega) (by omega) (by omega)).mono ?_)
                rintro e w5 ⟨z, q, rfl, hz0, hz1, rfl⟩
                go_wp2
                go_meet
                exact ⟨_, q, rfl, fun _ => ⟨hr, hr2⟩, rfl⟩
              · have hr2' : decide ((n[j].toNat : Int) ≤ 122) = false := by simpa using hr2
                clear hr2
                go_wp2
                go_meet
                exact ⟨_, 0, rfl, fun h => by simp at h, rfl⟩
            · have hr' : (n[j].toNat : Int) < 97 := by omega
              clear hr
              go_wp2
              go_meet
              exact ⟨_, 0, rfl, fun h => by simp at h, rfl⟩
          case rest =>
            clear hcr
            obtain ⟨b, q, rfl, hb97, rfl⟩ := hcut
            replace hown := hown.drewN q
            generalize wr.drewN q = w5 at hown ⊢
            have hll : l.length ≤ 12 := by have := HV.out.len; rw [this, List.length_take]; omega
            go_upto_if 110 with fail
            go_cut [10] from 111 to 112 (fun s wc' => ∃ c' : UInt8, s = .int .u8 (c'.toNat : Int) ∧ Vary c' n[j] ∧ wc' = w5)
            case first =>
              cases b
              · go_wp2
                go_meet
                exact ⟨n[j], rfl, Or.inl rfl, rfl⟩
              · obtain ⟨h97, h122⟩ := hb97 rfl
                clear hb97
                go_wp2
                go_meet
                exact ⟨n[j] - 32, byte_less h97, Or.inr ⟨by omega, by omega, byte_less' h97⟩, rfl⟩
            case rest =>
              obtain ⟨c', rfl, hvc, rfl⟩ := hcut
              have HC := Lib.hid hvc
              clear hvc hb97
              go_wp2_with (at_builtin; refine wpList_append_byte wx _ rfl (.tmp 113) (.tmp 115) rfl _ _ _ c' rfl rfl hown ?c1 ?c2 ?_)
              case c1 => omega
              case c2 => rfl
              intro v' w6 hown1
              clear hown
              go_wp2
              go_roundw
              case rel => exact ⟨j + 1, _, by omega, by go_num, hown1, by rw [take_snoc' hjl]; exact HV.out.snoc HC.out⟩
              case measure => simp [intOf]; omega
        · obtain rfl : j = n.size := by omega
          have hv := HV.out
          rw [List.take_of_length_le (by simp)] at hv
          obtain ⟨s, hs⟩ : ∃ s : ByteArray, s = ⟨l.toArray⟩ := ⟨_, rfl⟩
          have HS := Lib.hid (show VaryL s.data.toList n.data.toList by rw [hs]; exact hv)
          have HLow := Lib.hid (vary_low HN.out HS.out)
          have HTag := Lib.hid (vary_tag HN.out HS.out)
          have hsm : s.size ≤ maxLen := by
            have h1 : s.size = n.size := by simpa using HS.out.len
            rw [h1]; exact hm
          clear hv
          subst hs
          go_upto_region 18 with fail
          go_cut [131] from 117 to 131 (fun s wc' => s = .bool false ∧ Below W.heap.size W wc')
          case first =>
            have hd : OwnB wx wr.drew _ l := hown.drewN 1
            have hc1 := run_string_own hd
            have hbd : Below W.heap.size W wr.drew := (below_step hb hown.2).drew
            go_region_with (first | (go_at_call 27; refine (implLowerOf_any _ _).mono ?_; rintro e w7 ⟨rfl, hb7⟩; rw [HLow.out]; have hc7 := run_string_own (hd.later hb7); have hb8 := below_step hbd hb7) | (go_at_call 25; refine (implTagOK_any _ _ hsm).mono ?_; rintro e w8 ⟨rfl, rfl⟩; rw [HTag.out]))
            all_goals
              go_wp2
              go_meet
              exact ⟨rfl, by first | exact hb8 | exact hb8.drew⟩
          case rest =>
            obtain ⟨rfl, hb8⟩ := hcut
            go_wp2
            go_roundw
            case rel => exact ⟨k + 1, by omega, by go_num, hb8⟩
            case measure => simp [intOf]; omega
    · obtain rfl : k = 10 := by omega
      go_wp2
      go_ret
      exact ⟨rfl, hbW.trans (hb.mono hbW.size)⟩
end Go.Proofs.Ythinbdhbaahefaa
