import Derived.Test.YtocpmkpffhmlaaaSer7
namespace Go.Proofs.Ytocpmkpffhmlaaa
open Go.ChangeShapes Go.WideShapes Go.ChangeAt Go.RowKit Go.Deep

theorem bld_new (w : World) : BldF w.heap.size w.heap.size (Lib.byteCells []) (w.alloc (.cells #[.pointer Option.none, .slice Option.none 0 0] 51)) := by
  have hb : (w.alloc (.cells #[.pointer Option.none, .slice Option.none 0 0] 51)).heap[w.heap.size]? = some (.cells #[.pointer Option.none, .slice Option.none 0 0] 51 (0, 0)) := by
    show (w.heap.push _)[w.heap.size]? = _
    simp
  exact Or.inl ⟨Nat.le_refl _, _, hb, World.ownsRowF_nil _ _ _ _, by simp [Value.ownBlock]⟩

theorem serialize_any (F : Fo) (w : World) (A : Option Addr) (c b o lo hi : Nat) (hd : F.nodes ≤ 1048576) (hs : F.len + F.size ≤ 1048576 * 64) (hsm : F.sm) (hks : F.ks) (hh : hi ≤ w.heap.size) (hA : RowAt lo hi A F.len b o) (hF : FoAt w lo hi b o F) :
    Calls Try.prog 14 #[.slice A F.len c] w fun e w' => e = .returned (.string ⟨(F.ser false).toArray⟩) ∧ Below w.heap.size w w' := by
  have HA := Lib.hid hA
  have B0 := Lib.hid ((Below.refl w.heap.size w).alloc (Nat.le_refl _) (.cells #[.pointer Option.none, .slice Option.none 0 0] 51))
  have HF := Lib.hid (FoAt.below hA hF B0.out hh)
  have HS := Lib.hid (And.intro hsm hks)
  have HN := Lib.hid (bld_new w)
  clear hA hF hsm hks
  go_enter Try.func14, Try.ntmps14
  go_wp2_with (first
    | (go_at_call 24; refine (writeNodes_any F 0 w.heap.size [] (w.alloc (.cells #[.pointer Option.none, .slice Option.none 0 0] 51)) A c b o lo hi hd HS.out.1 HS.out.2 (by simp; omega) HN.out hh (by simp) HA.out HF.out).mono ?_; rw [show ([] : List UInt8) ++ F.ser ((0 : Int) == 1) = F.ser false from rfl]; rintro e w1 ⟨rfl, hI1, hB1, hK1⟩; have I1 := Lib.hid hI1; have B1 := Lib.hid (B0.out.trans hB1); clear hI1 hB1 hK1)
    | (go_at_call 25; refine (string_any w.heap.size w.heap.size (F.ser false) _ I1.out B1.out.size).mono ?_; rintro e w3 ⟨rfl, h1, hB, hK⟩; have B3 := Lib.hid (B1.out.trans hB); clear h1 hB hK))
  go_ret
  exact ⟨rfl, B3.out⟩

noncomputable def serS (F : Fo) : ByteArray := if faultOf F = 0 then ⟨(F.ser false).toArray⟩ else ⟨#[]⟩
noncomputable def serT (F : Fo) : Value := .tuple #[.string (serS F), .int .i64 (faultOf F)]
theorem serT_eq (F : Fo) : serT F = .tuple #[.string (serS F), .int .i64 (faultOf F)] := rfl
theorem serT_ok {F : Fo} (h : faultOf F = 0) : serT F = .tuple #[.string ⟨(F.ser false).toArray⟩, .int .i64 0] := by rw [serT, serS, if_pos h, h]
theorem serT_bad {F : Fo} (h : ¬ faultOf F = 0) : serT F = .tuple #[.string ⟨#[]⟩, .int .i64 (faultOf F)] := by rw [serT, serS, if_neg h]

theorem implSerialize_any (F : Fo) (w : World) (A : Option Addr) (c b o lo hi : Nat) (hd : F.nodes ≤ 1048576) (hs : F.len + F.size ≤ 1048576 * 64) (hh : hi ≤ w.heap.size) (hA : RowAt lo hi A F.len b o) (hF : FoAt w lo hi b o F) :
    Calls Try.prog 7 #[.slice A F.len c] w fun e w' => e = .returned (serT F) ∧ Below w.heap.size w w' := by
  have HA := Lib.hid hA
  have HF := Lib.hid hF
  clear hA hF
  by_cases hk : faultOf F = 0
  · have HK := Lib.hid hk
    have HS := Lib.hid (sfine_of hk)
    clear hk
    go_enter Try.func7, Try.ntmps7
    go_wp2_with (first
      | (go_at_call 13; refine (treeFault_any F _ A c b o lo hi hd hh HA.out HF.out).mono ?_; rintro e w1 ⟨rfl, hB⟩; rw [HK.out]; have B1 := Lib.hid hB; clear hB)
      | (go_at_call 14; refine (serialize_any F _ A c b o lo hi hd hs (Fo.sm_of F HS.out) (Fo.ks_of F HS.out) (Nat.le_trans hh B1.out.size) HA.out (FoAt.below HA.out HF.out B1.out hh)).mono ?_; rintro e w2 ⟨rfl, hB⟩; have B2 := Lib.hid (B1.out.trans (hB.mono B1.out.size)); clear hB))
    go_ret2
    exact ⟨by rw [serT_ok HK.out]; rfl, B2.out⟩
  · have HK := Lib.hid (serT_bad hk)
    have hk' : (faultOf F != 0) = true := by simpa using hk
    clear hk
    go_enter Try.func7, Try.ntmps7
    go_wp2_with (go_at_call 13; refine (treeFault_any F _ A c b o lo hi hd hh HA.out HF.out).mono ?_; rintro e w1 ⟨rfl, hB⟩; have B1 := Lib.hid hB; clear hB)
    go_ret2
    exact ⟨by rw [HK.out]; rfl, B1.out⟩

theorem specSerialize_any (F : Fo) (w : World) (A : Option Addr) (c b o lo hi : Nat) (hd : F.nodes ≤ 1048576) (hs : F.len + F.size ≤ 1048576 * 64) (hh : hi ≤ w.heap.size) (hA : RowAt lo hi A F.len b o) (hF : FoAt w lo hi b o F) :
    Calls Try.prog 5 #[.slice A F.len c] w fun e w' => e = .returned (serT F) ∧ Below w.heap.size w w' := by
  have hln := Fo.len_le_nodes F
  have HA := Lib.hid hA
  have HF := Lib.hid hF
  clear hA hF
  by_cases hl : F.len ≤ 4096
  · by_cases hk : faultOf F = 0
    · have HK := Lib.hid hk
      clear hk
      go_enter Try.func5, Try.ntmps5
      go_wp2_with (first
        | (go_at_call 10; refine (l03Ask_any F _ A c b o lo hi hd hh HA.out HF.out).mono ?_; rintro e w1 ⟨rfl, hB⟩; rw [HK.out]; have B1 := Lib.hid hB; clear hB)
        | (go_at_call 11; refine (l06Tree_any F false _ A c b o lo hi hd hs (Fo.sm_good HK.out) (Nat.le_trans hh B1.out.size) HA.out (FoAt.below HA.out HF.out B1.out hh)).mono ?_; rintro e w2 ⟨rfl, hB⟩; have B2 := Lib.hid (B1.out.trans (hB.mono B1.out.size)); clear hB))
      go_ret2
      exact ⟨by rw [serT_ok HK.out]; rfl, B2.out⟩
    · have HK := Lib.hid (serT_bad hk)
      have hk' : (faultOf F != 0) = true := by simpa using hk
      clear hk
      go_enter Try.func5, Try.ntmps5
      go_wp2_with (go_at_call 10; refine (l03Ask_any F _ A c b o lo hi hd hh HA.out HF.out).mono ?_; rintro e w1 ⟨rfl, hB⟩; have B1 := Lib.hid hB; clear hB)
      go_ret2
      exact ⟨by rw [HK.out]; rfl, B1.out⟩
  · have hl' : (F.len : Int) > 4096 := by omega
    have HK := Lib.hid (show serT F = .tuple #[.string ⟨#[]⟩, .int .i64 2] by rw [serT_bad (by rw [fault_long hl]; decide), fault_long hl])
    go_enter Try.func5, Try.ntmps5
    go_wp2
    go_ret2
    exact ⟨by rw [HK.out]; rfl, Below.refl _ _⟩
end Go.Proofs.Ytocpmkpffhmlaaa
