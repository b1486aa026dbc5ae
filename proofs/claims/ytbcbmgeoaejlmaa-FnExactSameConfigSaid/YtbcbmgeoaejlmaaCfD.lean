
import Derived.Test.YtbcbmgeoaejlmaaCfC
namespace Go.Proofs.Ytbcbmgeoaejlmaa
open Go.ChangeShapes Go.WideShapes Go.ChangeAt Go.RowKit Go.Deep Go.Maps

def unwrapB (X : Cf) : Bool := X.uw.any fun x => hasRu X.al x.1 x.2.1 || hasRu X.rm x.1 x.2.1
def attr1B (X : Cf) (n : ByteArray) : Bool := !X.hb || hasM X.at_ n
def attrsB (X : Cf) : Bool := X.al.any fun x => x.2.2.any (attr1B X)
theorem CfBox.self {w0 w : World} {g : Nat} {X : Cf} {V : CfV} (h : CfBox w0 w g X V) : CfBox w w g X V := ⟨h.1, h.2.1, Below.refl _ _, h.2.2.2⟩

theorem unwrapContradicts_any (X : Cf) (V : CfV) (w : World) (h : CfIn w X V) (ha : rulesB true X.al = true) (hr : rulesB false X.rm = true) (hu : rulesB false X.uw = true) :
    Calls Try.prog 142 #[.agg #[.bool X.ha, .bool X.hb, .slice V.a1 X.al.length V.c1, .slice V.a2 X.rm.length V.c2, .slice V.a3 X.uw.length V.c3, .slice V.a4 X.at_.length V.c4, .slice V.a5 X.dp.length V.c5, .bool X.cm, .bool X.da]] w fun e w' => e = .returned (.bool (unwrapB X)) ∧ Below w.heap.size w w' := by
  have HX := Lib.hid (CfBox.new h 34)
  have HS := Lib.hid (all_safe (rulesB_all hu))
  have E1 := Lib.hid (enters_of Try.func177 (by kernel_rfl) rfl)
  have HF : Hid (RuFn Try.prog 177 #[] #[.pointer (some ⟨w.heap.size, 0, none⟩)] (fun x => hasRu X.al x.1 x.2.1 || hasRu X.rm x.1 x.2.1) X.uw (w.alloc (.cells #[.bool X.ha, .bool X.hb, .slice V.a1 X.al.length V.c1, .slice V.a2 X.rm.length V.c2, .slice V.a3 X.uw.length V.c3, .slice V.a4 X.at_.length V.c4, .slice V.a5 X.dp.length V.c5, .bool X.cm, .bool X.da] 34))) := Lib.hid fun k hk W B cc hB hz hc hN => by
    have := unwrap1_any X V w w.heap.size X.uw[k].1 X.uw[k].2.1 X.uw[k].2.2 W B cc (HS.out _ (List.getElem_mem hk)).1 (HS.out _ (List.getElem_mem hk)).2 hz (HX.out.next hB) ha hr
    simpa using this
  obtain ⟨p0, p1, p2, p3, p4, p5, p6, p7, p8⟩ := lay9 HX.out.1
  clear h ha hr hu
  go_enter Try.func142, Try.ntmps142
  go_wp2_with (go_at_call 143; refine (ruContainsFunc_any _ #[] _ _ E1.out X.uw _ V.a3 V.c3 HX.out.2.1.uw HF.out).mono ?_; rintro e w1 ⟨rfl, hB⟩; have HX := Lib.hid (HX.out.next hB); clear hB)
  go_ret
  exact ⟨rfl, HX.out.2.2.1⟩

theorem attr1_any (X : Cf) (V : CfV) (w0 : World) (g : Nat) (n : ByteArray) (w : World) (h : CfBox w0 w g X V) :
    Calls Try.prog 181 #[.string n, .pointer (some ⟨g, 0, none⟩)] w fun e w' => e = .returned (.bool (attr1B X n)) ∧ Below w.heap.size w w' := by
  have HX := Lib.hid h
  obtain ⟨p0, p1, p2, p3, p4, p5, p6, p7, p8⟩ := lay9 HX.out.1
  clear h
  cases hb : X.hb with
  | true =>
    rw [hb] at p1
    have HE : Hid (attr1B X n = hasM X.at_ n) := Lib.hid (by simp [attr1B, hb])
    clear hb
    go_enter Try.func181, Try.ntmps181
    go_wp2_with (go_at_call 104; refine (containsM_any X.at_ n _ V.a4 _ V.c4 rfl HX.out.2.1.at_).mono ?_; rintro e w1 ⟨rfl, rfl⟩)
    go_ret
    exact ⟨by rw [HE.out]; rfl, Below.refl _ _⟩
  | false =>
    rw [hb] at p1
    have HE : Hid (attr1B X n = true) := Lib.hid (by simp [attr1B, hb])
    clear hb
    go_enter Try.func181, Try.ntmps181
    go_wp2
    go_ret
    exact ⟨by rw [HE.out]; rfl, Below.refl _ _⟩

theorem contradictsAttrs_any (X : Cf) (V : CfV) (sp : Int) (n : ByteArray) (al : List ByteArray) (w : World) (A : Option Addr) (c : Nat) (h : CfIn w X V) (hN : NmIn w A al) :
    Calls Try.prog 144 #[.agg #[.bool X.ha, .bool X.hb, .slice V.a1 X.al.length V.c1, .slice V.a2 X.rm.length V.c2, .slice V.a3 X.uw.length V.c3, .slice V.a4 X.at_.length V.c4, .slice V.a5 X.dp.length V.c5, .bool X.cm, .bool X.da], .agg #[.int .i64 sp, .string n, .slice A al.length c]] w fun e w' => e = .returned (.bool (al.any (attr1B X))) ∧ Below w.heap.size w w' := by
  obtain ⟨L1, L2, B3⟩ := two_lay (Below.refl (w.heap.size + 1 + 1) ((w.alloc (.cells #[.bool X.ha, .bool X.hb, .slice V.a1 X.al.length V.c1, .slice V.a2 X.rm.length V.c2, .slice V.a3 X.uw.length V.c3, .slice V.a4 X.at_.length V.c4, .slice V.a5 X.dp.length V.c5, .bool X.cm, .bool X.da] 34)).alloc (.cells #[.int .i64 sp, .string n, .slice A al.length c] 89)))
  have HX : Hid (CfBox w ((w.alloc (.cells #[.bool X.ha, .bool X.hb, .slice V.a1 X.al.length V.c1, .slice V.a2 X.rm.length V.c2, .slice V.a3 X.uw.length V.c3, .slice V.a4 X.at_.length V.c4, .slice V.a5 X.dp.length V.c5, .bool X.cm, .bool X.da] 34)).alloc (.cells #[.int .i64 sp, .string n, .slice A al.length c] 89)) w.heap.size X V) := Lib.hid ⟨L1, h.next B3, B3, by simp; omega⟩
  have HN := Lib.hid (hN.next B3)
  have E1 := Lib.hid (enters_of Try.func181 (by kernel_rfl) rfl)
  have HF : Hid (NmFn Try.prog 181 #[] #[.pointer (some ⟨w.heap.size, 0, none⟩)] (attr1B X) al ((w.alloc (.cells #[.bool X.ha, .bool X.hb, .slice V.a1 X.al.length V.c1, .slice V.a2 X.rm.length V.c2, .slice V.a3 X.uw.length V.c3, .slice V.a4 X.at_.length V.c4, .slice V.a5 X.dp.length V.c5, .bool X.cm, .bool X.da] 34)).alloc (.cells #[.int .i64 sp, .string n, .slice A al.length c] 89))) := Lib.hid fun k hk W hB _ => by
    have := attr1_any X V w w.heap.size al[k] W (HX.out.next hB)
    simpa using this
  obtain ⟨q0, q1, q2⟩ := lay3 L2
  clear h hN L1 L2 B3
  go_enter Try.func144, Try.ntmps144
  go_wp2_with (go_at_call 180; refine (nmContainsFunc_any _ #[] _ _ E1.out al _ A c HN.out HF.out).mono ?_; rintro e w1 ⟨rfl, hB⟩; have HX := Lib.hid (HX.out.next hB); clear hB)
  go_ret
  exact ⟨rfl, HX.out.2.2.1⟩
end Go.Proofs.Ytbcbmgeoaejlmaa
