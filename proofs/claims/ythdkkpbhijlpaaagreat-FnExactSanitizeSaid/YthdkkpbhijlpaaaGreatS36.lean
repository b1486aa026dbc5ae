import Derived.Test.YthdkkpbhijlpaaaGreatS35
import Derived.Test.YthdkkpbhijlpaaaGreatS15
import Derived.Test.YthdkkpbhijlpaaaGreatS13
set_option linter.unusedVariables false
namespace Go.Proofs.YthdkkpbhijlpaaaGreat
open Go.ChangeShapes Go.WideShapes Go.ChangeAt Go.RowKit Go.Deep

theorem filter_next (p : ByteArray × ByteArray → Bool) (pre : List (ByteArray × ByteArray)) (x : ByteArray × ByteArray) : (pre ++ [x]).filter (fun a => !p a) = pre.filter (fun a => !p a) ++ (if p x = true then [] else [(x.1, x.2)]) := by
  rw [List.filter_append]
  congr 1
  by_cases h : p x = true
  · rw [if_pos h]; simp [h]
  · rw [if_neg h]; simp [h]
set_option maxHeartbeats 2000000 in
set_option maxRecDepth 100000 in
/-- the attributes that a function does not tell, in a row of one's own -/
theorem atWithout_any (g : Nat) (first cap : Array Value) (p : ByteArray × ByteArray → Bool) (eg : ∀ args w, (callFunc g args).run Tryz.prog w = .ok (.enter g args) w) (al : List (ByteArray × ByteArray)) (w : World) (A : Option Addr) (c b o lo hi : Nat) (hA : RowAt lo hi A al.length b o) (hh : hi ≤ w.heap.size) (hal : AsAt w b o al) (hl : al.length ≤ 1048576) (hf : AtFn Tryz.prog g first cap p w) :
    Calls Tryz.prog 89 #[.slice A al.length c, .func (.func g) first cap] w fun e w' => ∃ v, e = .returned v ∧ w'.ownsRow w.heap.size 121 2 v (al.filter (fun a => !p a)).length (alVals (al.filter (fun a => !p a))) ∧ Below w.heap.size w w' := by
  have hlen := hA.1
  unfold maxLen at hlen
  have HA := Lib.hid hA
  have HS := Lib.hid hal
  have HF := Lib.hid hf
  have HL := Lib.hid hl
  clear hA hal hf hl
  go_enter Tryz.func89, Tryz.ntmps89
  go_wp2
  go_loopw [5, 10] (fun v i wr => ∃ (k : Nat) (vv : Value) (pre suf : List (ByteArray × ByteArray)), vv = v ∧ i = .int .i64 (k : Int) ∧ k + suf.length = al.length ∧ Hid (pre ++ suf = al ∧ AsAt w b (o + k * 2) suf ∧ Below w.heap.size w wr ∧ wr.ownsRow w.heap.size 121 2 vv (pre.filter (fun a => !p a)).length (alVals (pre.filter (fun a => !p a))))) (fun _ i _ => al.length - (intOf i).toNat)
  case atStart => exact ⟨0, _, [], al, rfl, rfl, by omega, Lib.hid ⟨rfl, by simpa using HS.out, Below.refl _ _, World.ownsRow_nil _ _ _ _⟩⟩
  case round =>
    obtain ⟨k, vv, pre, suf, hvv, rfl, hk, HH⟩ := hrel
    subst hvv
    cases suf with
    | nil =>
      have hkl : k = al.length := by simpa using hk
      clear hk
      subst hkl
      obtain ⟨he, _, hB, hO⟩ := HH.out
      rw [List.append_nil] at he
      subst he
      have HO := Lib.hid hO
      have HB := Lib.hid hB
      clear HH hO hB
      go_wp2
      go_ret
      exact ⟨_, rfl, HO.out, HB.out⟩
    | cons x r =>
      obtain ⟨he, ⟨s1, s2, s3, s4, s5⟩, hB2, hO⟩ := HH.out
      obtain ⟨rfl, hlo, hhi⟩ := HA.out.2 (by simp at hk; omega)
      have t1 := (hB2.cell (p := ⟨b, o + k * 2, none⟩) (by show b < _; omega)).trans s1
      have t2 := (hB2.cell (p := ⟨b, o + k * 2 + 1, none⟩) (by show b < _; omega)).trans s2
      have H5 := Lib.hid s5
      have HB := Lib.hid hB2
      have HE := Lib.hid he
      have HO := Lib.hid hO
      have HLE : Hid ((pre.filter (fun a => !p a)).length ≤ 1048576) := Lib.hid (by have h1 := List.length_filter_le (fun a => !p a) pre; have h2 := HL.out; have h3 : pre.length ≤ al.length := by rw [← he, List.length_append]; omega
                                                                                    omega)
      have HN := Lib.hid (filter_next p pre x)
      have A1 := Lib.hid ((Below.refl wr.heap.size wr).alloc (Nat.le_refl _) (.cells #[.string x.1, .string x.2] 121))
      have LX := Lib.hid (Lay.new wr #[.string x.1, .string x.2] 121)
      have hc := HF.out x (wr.alloc (.cells #[.string x.1, .string x.2] 121)) (hB2.trans (A1.out.mono hB2.size)) s3 s4
      simp at hk
      clear HH s1 s2 s3 s4 s5 hB2 he hO
      have HX : Hid (x = (x.1, x.2)) := Lib.hid rfl
      cases hq : p x with
      | true =>
        have HQ := Lib.hid hq
        rw [hq] at HN
        clear hq
        go_wp2_with (go_at_fn g; refine hc.mono ?_; rintro e w' ⟨rfl, hB'⟩; rw [HQ.out]; have HB' := Lib.hid (A1.out.trans (hB'.mono A1.out.size)); clear hB')
        go_roundw
        case rel => exact ⟨k + 1, _, pre ++ [x], r, rfl, by go_num, by omega, Lib.hid ⟨by rw [← HE.out]; simp, by rw [show o + (k + 1) * 2 = o + k * 2 + 2 by omega]; exact H5.out, HB.out.trans (HB'.out.mono HB.out.size), by rw [HN.out]; simpa using (ownsRow_sameZ HO.out fun q hq => HB'.out.block q (World.ownsRow.lt HO.out q hq).2)⟩⟩
        case measure => simp [intOf]; omega
      | false =>
        have HQ := Lib.hid hq
        rw [hq] at HN
        clear hq
        go_wp2_with (first
          | (go_at_fn g; refine hc.mono ?_; rintro e w2 ⟨rfl, hB'⟩; rw [HQ.out]; have l2 := LX.out.below hB' (by simp); have x0 : w2.cell? ⟨wr.heap.size, 0, none⟩ = some (.string x.1) := l2.1 0; have x1 : w2.cell? ⟨wr.heap.size, 1, none⟩ = some (.string x.2) := l2.1 1; have HB' := Lib.hid (A1.out.trans (hB'.mono A1.out.size)); clear hB' l2)
          | (at_builtin; refine wpList_push_attr rfl (.tmp 18) (.tmp 20) rfl w.heap.size w2.heap.size _ (pre.filter (fun a => !p a)) rfl (ownsRow_sameZ (ownsRow_sameZ HO.out fun q hq => HB'.out.block q (World.ownsRow.lt HO.out q hq).2) fun q hq => Below.heap_alloc w2 _ q (Nat.lt_of_lt_of_le (World.ownsRow.lt HO.out q hq).2 HB'.out.size)) (by have h1 := HB.out.size; have h2 := HB'.out.size; simp; omega) HLE.out rfl x.1 x.2 (cells_new w2 [.string x.1, .string x.2] 121) ?_; rintro v' w4 hO4 hB4; have O4 := Lib.hid hO4; have B4 := Lib.hid hB4; clear hO4 hB4))
        go_roundw
        case rel => exact ⟨k + 1, _, pre ++ [x], r, rfl, by go_num, by omega, Lib.hid ⟨by rw [← HE.out]; simp, by rw [show o + (k + 1) * 2 = o + k * 2 + 2 by omega]; exact H5.out, HB.out.trans ((((HB'.out.mono HB.out.size)).alloc (by have h1 := HB.out.size; have h2 := HB'.out.size; omega) _).trans B4.out), by rw [HN.out]; simpa using O4.out⟩⟩
        case measure => simp [intOf]; omega
end Go.Proofs.YthdkkpbhijlpaaaGreat
namespace Go.Proofs.YthdkkpbhijlpaaaGreat
open Go.ChangeShapes Go.WideShapes Go.ChangeAt Go.RowKit Go.Deep

theorem lay2z {w : World} {g : Nat} {v0 v1 : Value} (h : Lay w g #[v0, v1]) : w.cell? ⟨g, 0, none⟩ = some v0 ∧ w.cell? ⟨g, 1, none⟩ = some v1 := ⟨h.1 0, h.1 1⟩
set_option maxHeartbeats 2000000 in
set_option maxRecDepth 100000 in
/-- the function that tells the attributes that may not stay -/
theorem bars_fn (X : Cf) (V : CfV) (sp : Int) (n : ByteArray) (gc ge : Nat) (w : World) (hc : gc < w.heap.size) (he : ge < w.heap.size) (LC : Lay w gc #[.bool X.ha, .bool X.hb, .slice V.a1 X.al.length V.c1, .slice V.a2 X.rm.length V.c2, .slice V.a3 X.uw.length V.c3, .slice V.a4 X.at_.length V.c4, .slice V.a5 X.dp.length V.c5, .bool X.cm, .bool X.da]) (LE : Lay w ge #[.int .i64 sp, .string n]) (h : CfIn w X V) (h0 : 0 ≤ sp) (h2 : sp ≤ 2) (hn : n.size ≤ maxLen) (ha : rulesB true X.al = true) :
    AtFn Tryz.prog 146 #[] #[.pointer (some ⟨gc, 0, none⟩), .pointer (some ⟨ge, 0, none⟩)] (fun a => !attA X sp n a.1 a.2) w := by
  intro x W hB h3 h4
  show Calls _ _ #[.agg #[.string x.1, .string x.2], .pointer (some ⟨gc, 0, none⟩), .pointer (some ⟨ge, 0, none⟩)] W _
  have A1 : Below W.heap.size W (W.alloc (.cells #[.string x.1, .string x.2] 121)) := (Below.refl _ _).alloc (Nat.le_refl _) _
  have hsz := hB.size
  obtain ⟨p0, p1, p2, p3, p4, p5, p6, p7, p8⟩ := lay9 ((LC.below hB hc).below A1 (by omega))
  obtain ⟨e0, e1⟩ := lay2z ((LE.below hB he).below A1 (by omega))
  have HA := Lib.hid (fun W' (hW : Below W.heap.size W W') => (allowsAttr_any X V sp n x.1 x.2 W' h0 h2 hn h3 h4 ((h.next hB).next hW) ha).mono fun e w' (hh : _ ∧ _) => (⟨hh.1, hW.trans (hh.2.mono hW.size)⟩ : _ ∧ Below W.heap.size W w'))
  clear LC LE h hB hc he A1 hsz
  go_enter Tryz.func146, Tryz.ntmps146
  go_wp2_with (go_at_call 147; refine (HA.out _ (by first | exact Below.refl _ _ | exact (Below.refl _ _).drew | exact (Below.refl _ _).alloc (Nat.le_refl _) _)).mono ?_; rintro e w1 ⟨rfl, hB1⟩; have B1 := Lib.hid hB1; clear hB1)
  go_ret
  exact ⟨rfl, B1.out⟩
set_option maxHeartbeats 2000000 in
theorem barsAttrOf_any (X : Cf) (V : CfV) (sp : Int) (n : ByteArray) (w : World) :
    Calls Tryz.prog 90 #[.agg #[.bool X.ha, .bool X.hb, .slice V.a1 X.al.length V.c1, .slice V.a2 X.rm.length V.c2, .slice V.a3 X.uw.length V.c3, .slice V.a4 X.at_.length V.c4, .slice V.a5 X.dp.length V.c5, .bool X.cm, .bool X.da], .agg #[.int .i64 sp, .string n]] w fun e w' => e = .returned (.func (.func 146) #[] #[.pointer (some ⟨w.heap.size, 0, none⟩), .pointer (some ⟨w.heap.size + 1, 0, none⟩)]) ∧ Below w.heap.size w w' ∧ w.heap.size + 1 < w'.heap.size ∧ Lay w' w.heap.size #[.bool X.ha, .bool X.hb, .slice V.a1 X.al.length V.c1, .slice V.a2 X.rm.length V.c2, .slice V.a3 X.uw.length V.c3, .slice V.a4 X.at_.length V.c4, .slice V.a5 X.dp.length V.c5, .bool X.cm, .bool X.da] ∧ Lay w' (w.heap.size + 1) #[.int .i64 sp, .string n] := by
  have LC := Lib.hid ((Lay.new w #[.bool X.ha, .bool X.hb, .slice V.a1 X.al.length V.c1, .slice V.a2 X.rm.length V.c2, .slice V.a3 X.uw.length V.c3, .slice V.a4 X.at_.length V.c4, .slice V.a5 X.dp.length V.c5, .bool X.cm, .bool X.da] 35).below ((Below.refl _ _).alloc (Nat.le_refl _) (.cells #[.int .i64 sp, .string n] 114)) (by simp))
  have LE : Hid (Lay ((w.alloc (.cells #[.bool X.ha, .bool X.hb, .slice V.a1 X.al.length V.c1, .slice V.a2 X.rm.length V.c2, .slice V.a3 X.uw.length V.c3, .slice V.a4 X.at_.length V.c4, .slice V.a5 X.dp.length V.c5, .bool X.cm, .bool X.da] 35)).alloc (.cells #[.int .i64 sp, .string n] 114)) (w.heap.size + 1) #[.int .i64 sp, .string n]) := Lib.hid (by have := Lay.new (w.alloc (.cells #[.bool X.ha, .bool X.hb, .slice V.a1 X.al.length V.c1, .slice V.a2 X.rm.length V.c2, .slice V.a3 X.uw.length V.c3, .slice V.a4 X.at_.length V.c4, .slice V.a5 X.dp.length V.c5, .bool X.cm, .bool X.da] 35)) #[.int .i64 sp, .string n] 114; rwa [show (w.alloc (.cells #[.bool X.ha, .bool X.hb, .slice V.a1 X.al.length V.c1, .slice V.a2 X.rm.length V.c2, .slice V.a3 X.uw.length V.c3, .slice V.a4 X.at_.length V.c4, .slice V.a5 X.dp.length V.c5, .bool X.cm, .bool X.da] 35)).heap.size = w.heap.size + 1 by simp] at this)
  go_enter Tryz.func90, Tryz.ntmps90
  go_wp2
  go_ret
  exact ⟨rfl, ((Below.refl w.heap.size w).alloc (Nat.le_refl _) _).alloc (by simp) _, by simp, LC.out, LE.out⟩
end Go.Proofs.YthdkkpbhijlpaaaGreat
namespace Go.Proofs.YthdkkpbhijlpaaaGreat
open Go.ChangeShapes Go.WideShapes Go.ChangeAt Go.RowKit Go.Deep

def Fo.anyT : Fo → Bool
  | .nil => false
  | .cons _ _ _ t _ _ rest => markupB t || rest.anyT
theorem kidMarkup_any (k sp : Int) (n t : ByteArray) (la ca lk ck : Nat) (A K : Option Addr) (w : World) :
    Calls Tryz.prog 144 #[.agg #[.int .i64 k, .int .i64 sp, .string n, .string t, .slice A la ca, .slice K lk ck]] w fun e w' => e = .returned (.bool (markupB t)) ∧ Below w.heap.size w w' := by
  have B1 := Lib.hid ((Below.refl w.heap.size w).alloc (Nat.le_refl _) (.cells #[.int .i64 k, .int .i64 sp, .string n, .string t, .slice A la ca, .slice K lk ck] 71))
  go_enter Tryz.func144, Tryz.ntmps144
  go_wp2_with (go_at_call 145; refine (implHasMarkup_any t _).mono ?_; rintro e w1 ⟨rfl, rfl⟩)
  go_ret
  exact ⟨rfl, B1.out⟩
set_option maxHeartbeats 2000000 in
set_option maxRecDepth 100000 in
theorem kidIndex_any (F : Fo) (w : World) (A : Option Addr) (c b o lo hi : Nat) (hA : RowAt lo hi A F.len b o) (hh : hi ≤ w.heap.size) (hF : FoAt w lo hi b o F) (eg : ∀ args w, (callFunc 144 args).run Tryz.prog w = .ok (.enter 144 args) w) :
    Calls Tryz.prog 183 #[.slice A F.len c, .func (.func 144) #[] #[]] w fun e w' => ∃ k : Int, e = .returned (.int .i64 k) ∧ decide (0 ≤ k) = F.anyT ∧ Below w.heap.size w w' := by
  have hlen := hA.1
  unfold maxLen at hlen
  have HA := Lib.hid hA
  have HS := Lib.hid hF
  clear hA hF
  go_enter Tryz.func183, Tryz.ntmps183
  go_wp2
  go_loopw [8] (fun i wr => ∃ (k : Nat) (suf : Fo), i = .int .i64 (k : Int) ∧ k + suf.len = F.len ∧ Hid (FoAt w lo hi b (o + k * 6) suf ∧ Below w.heap.size w wr ∧ F.anyT = suf.anyT)) (fun i wr => F.len - (intOf i).toNat)
  case atStart => exact ⟨0, F, rfl, by omega, Lib.hid ⟨by simpa using HS.out, Below.refl _ _, rfl⟩⟩
  case round =>
    obtain ⟨k, suf, rfl, hk, HH⟩ := hrel
    cases suf with
    | nil =>
      have hkl : k = F.len := by simpa [Fo.len] using hk
      clear hk
      subst hkl
      go_wp2
      go_ret
      exact ⟨-1, rfl, by rw [HH.out.2.2]; rfl, HH.out.2.1⟩
    | cons xk xs xn xt xa kids r =>
      obtain ⟨⟨⟨s0, s1, s2, s3, z2, z3⟩, ⟨A4, c4, b4, o4, s4, r4, a4⟩, ⟨A5, c5, b5, o5, s5, r5, a5⟩, sr⟩, hB2, he⟩ := HH.out
      obtain ⟨rfl, hlo, hhi⟩ := HA.out.2 (by simp [Fo.len] at hk; omega)
      have hkl : k < F.len := by simp [Fo.len] at hk; omega
      have cell : ∀ {p : Addr} {u : Value}, p.block = b → w.cell? p = some u → wr.cell? p = some u := fun hp e => (hB2.cell (by rw [hp]; show b < _; omega)).trans e
      have t0 := cell rfl s0
      have t1 := cell rfl s1
      have t2 := cell rfl s2
      have t3 := cell rfl s3
      have t4 := cell rfl s4
      have t5 := cell rfl s5
      have H5 := Lib.hid sr
      have HB := Lib.hid hB2
      have HE := Lib.hid he
      simp only [Fo.len] at hk
      clear HH s0 s1 s2 s3 s4 s5 sr hB2 he cell r4 a4 r5 a5
      cases hq : markupB xt with
      | true =>
        have HQ := Lib.hid hq
        clear hq
        go_wp2_with (go_at_fn 144; refine (kidMarkup_any xk xs xn xt xa.length c4 kids.len c5 A4 A5 _).mono ?_; rintro e w' ⟨rfl, hB'⟩; rw [HQ.out]; have HB' := Lib.hid hB'; clear hB')
        go_ret
        exact ⟨(k : Int), rfl, by rw [HE.out, Fo.anyT, HQ.out]; simp, HB.out.trans (HB'.out.mono HB.out.size)⟩
      | false =>
        have HQ := Lib.hid hq
        clear hq
        go_wp2_with (go_at_fn 144; refine (kidMarkup_any xk xs xn xt xa.length c4 kids.len c5 A4 A5 _).mono ?_; rintro e w' ⟨rfl, hB'⟩; rw [HQ.out]; have HB' := Lib.hid hB'; clear hB')
        go_roundw
        case rel => exact ⟨k + 1, r, by go_num, by omega, Lib.hid ⟨by rw [show o + (k + 1) * 6 = o + k * 6 + 6 by omega]; exact H5.out, HB.out.trans (HB'.out.mono HB.out.size), by rw [HE.out, Fo.anyT, HQ.out]; simp⟩⟩
        case measure => simp [intOf]; omega
theorem kidContains_any (F : Fo) (w : World) (A : Option Addr) (c b o lo hi : Nat) (hA : RowAt lo hi A F.len b o) (hh : hi ≤ w.heap.size) (hF : FoAt w lo hi b o F) :
    Calls Tryz.prog 143 #[.slice A F.len c, .func (.func 144) #[] #[]] w fun e w' => e = .returned (.bool F.anyT) ∧ Below w.heap.size w w' := by
  have HA := Lib.hid hA
  have HF := Lib.hid hF
  clear hA hF
  go_enter Tryz.func143, Tryz.ntmps143
  go_wp2_with (go_at_call 183; refine (kidIndex_any F _ A c b o lo hi HA.out hh HF.out (fun args w => by kernel_rfl)).mono ?_; rintro e w' ⟨k, rfl, hk, hB⟩; have HK := Lib.hid hk; have HB := Lib.hid hB; clear hk hB)
  go_ret
  exact ⟨ret_bool (by rw [← HK.out]), HB.out⟩
set_option maxHeartbeats 1000000 in
theorem holdsMarkup_any (x : Nd) (kids : Fo) (b o lo hi b5 o5 ck xlo xhi : Nat) (K : Option Addr) (w : World) (h : NdAt w xlo xhi b o x) (h5 : w.cell? ⟨b, o + 5, none⟩ = some (.slice K kids.len ck)) (hK : RowAt lo hi K kids.len b5 o5) (hh : hi ≤ w.heap.size) (hF : FoAt w lo hi b5 o5 kids) :
    Calls Tryz.prog 88 #[.pointer (some ⟨b, o, none⟩)] w fun e w' => e = .returned (.bool (rawB x && kids.anyT)) ∧ Below w.heap.size w w' := by
  have H := Lib.hid h
  have HK := Lib.hid hK
  have HF := Lib.hid hF
  clear h hK hF
  cases hr : rawB x with
  | true =>
    have HR := Lib.hid hr
    clear hr
    go_enter Tryz.func88, Tryz.ntmps88
    go_wp2_with (first
      | (go_at_call 142; refine (isRaw_any x b o xlo xhi _ H.out).mono ?_; rintro e w' ⟨rfl, rfl⟩; rw [HR.out])
      | (go_at_call 143; refine (kidContains_any kids _ K ck b5 o5 lo hi HK.out hh HF.out).mono ?_; rintro e w1 ⟨rfl, hB⟩; have HB := Lib.hid hB; clear hB))
    go_ret
    exact ⟨by simp, HB.out⟩
  | false =>
    have HR := Lib.hid hr
    clear hr
    go_enter Tryz.func88, Tryz.ntmps88
    go_wp2_with (go_at_call 142; refine (isRaw_any x b o xlo xhi _ H.out).mono ?_; rintro e w' ⟨rfl, rfl⟩; rw [HR.out])
    go_ret
    exact ⟨by simp, Below.refl _ _⟩
end Go.Proofs.YthdkkpbhijlpaaaGreat
namespace Go.Proofs.YthdkkpbhijlpaaaGreat
open Go.ChangeShapes Go.WideShapes Go.ChangeAt Go.RowKit Go.Deep

noncomputable def sanC (X : Cf) (F : Fo) : Int := if faultOf F = 0 then checkOf X else faultOf F
noncomputable def sanO (X : Cf) (F : Fo) : Fo := if sanC X F = 0 then F.san X else .nil
set_option maxHeartbeats 2000000 in
set_option maxRecDepth 100000 in
theorem l08Ask_any (X : Cf) (V : CfV) (F : Fo) (w : World) (A : Option Addr) (c b o lo hi : Nat) (h : CfIn w X V) (hd : F.nodes ≤ 1048576) (hh : hi ≤ w.heap.size) (hA : RowAt lo hi A F.len b o) (hF : FoAt w lo hi b o F) :
    Calls Tryz.prog 33 #[.slice A F.len c, .agg #[.bool X.ha, .bool X.hb, .slice V.a1 X.al.length V.c1, .slice V.a2 X.rm.length V.c2, .slice V.a3 X.uw.length V.c3, .slice V.a4 X.at_.length V.c4, .slice V.a5 X.dp.length V.c5, .bool X.cm, .bool X.da]] w fun e w' => e = .returned (.int .i64 (sanC X F)) ∧ Below w.heap.size w w' := by
  have HA := Lib.hid hA
  have HC := Lib.hid h
  have B0 : Hid (Below w.heap.size w ((w.alloc (.cells #[.bool X.ha, .bool X.hb, .slice V.a1 X.al.length V.c1, .slice V.a2 X.rm.length V.c2, .slice V.a3 X.uw.length V.c3, .slice V.a4 X.at_.length V.c4, .slice V.a5 X.dp.length V.c5, .bool X.cm, .bool X.da] 35)))) := Lib.hid ((Below.refl _ _).alloc (Nat.le_refl _) _)
  have HX : Hid (Lay ((w.alloc (.cells #[.bool X.ha, .bool X.hb, .slice V.a1 X.al.length V.c1, .slice V.a2 X.rm.length V.c2, .slice V.a3 X.uw.length V.c3, .slice V.a4 X.at_.length V.c4, .slice V.a5 X.dp.length V.c5, .bool X.cm, .bool X.da] 35))) w.heap.size #[.bool X.ha, .bool X.hb, .slice V.a1 X.al.length V.c1, .slice V.a2 X.rm.length V.c2, .slice V.a3 X.uw.length V.c3, .slice V.a4 X.at_.length V.c4, .slice V.a5 X.dp.length V.c5, .bool X.cm, .bool X.da]) := Lib.hid (Lay.new w #[.bool X.ha, .bool X.hb, .slice V.a1 X.al.length V.c1, .slice V.a2 X.rm.length V.c2, .slice V.a3 X.uw.length V.c3, .slice V.a4 X.at_.length V.c4, .slice V.a5 X.dp.length V.c5, .bool X.cm, .bool X.da] 35)
  have HF := Lib.hid (FoAt.below hA hF B0.out hh)
  obtain ⟨p0, p1, p2, p3, p4, p5, p6, p7, p8⟩ := lay9 HX.out
  clear h hA hF
  by_cases hk : faultOf F = 0
  · have HK := Lib.hid hk
    have HE : Hid (sanC X F = checkOf X) := Lib.hid (by unfold sanC; rw [if_pos hk])
    clear hk
    go_enter Tryz.func33, Tryz.ntmps33
    go_wp2_with (first
      | (go_at_call 70; refine (l03Ask_any F _ A c b o lo hi hd (Nat.le_trans hh B0.out.size) HA.out HF.out).mono ?_; rintro e w1 ⟨rfl, hB⟩; rw [HK.out]; have q := HX.out.below hB (by simp); have BB := Lib.hid (B0.out.trans (hB.mono B0.out.size)); clear p0 p1 p2 p3 p4 p5 p6 p7 p8; obtain ⟨p0, p1, p2, p3, p4, p5, p6, p7, p8⟩ := lay9 q; clear q hB)
      | (go_at_call 71; refine (l07Check_any X V _ (HC.out.next BB.out)).mono ?_; rintro e w2 ⟨rfl, hB⟩; have B2 := Lib.hid (BB.out.trans (hB.mono BB.out.size)); clear hB))
    go_ret
    exact ⟨by rw [HE.out]; rfl, B2.out⟩
  · have HE : Hid (sanC X F = faultOf F) := Lib.hid (by unfold sanC; rw [if_neg hk])
    have hk' : (faultOf F != 0) = true := by simpa using hk
    clear hk
    go_enter Tryz.func33, Tryz.ntmps33
    go_wp2_with (go_at_call 70; refine (l03Ask_any F _ A c b o lo hi hd (Nat.le_trans hh B0.out.size) HA.out HF.out).mono ?_; rintro e w1 ⟨rfl, hB⟩; have q := HX.out.below hB (by simp); have BB := Lib.hid (B0.out.trans (hB.mono B0.out.size)); clear p0 p1 p2 p3 p4 p5 p6 p7 p8; obtain ⟨p0, p1, p2, p3, p4, p5, p6, p7, p8⟩ := lay9 q; clear q hB)
    go_ret
    exact ⟨by rw [HE.out]; rfl, BB.out⟩
theorem fine_good {F : Fo} (h : faultOf F = 0) : SFine F ∧ F.nodes ≤ 60 := by
  have hg : Good F := by
    unfold faultOf at h
    split at h
    · split at h
      · rename_i hg
        simpa [goodB] using hg
      · exact absurd h (by decide)
    · exact absurd h (by decide)
  exact ⟨(fine_top F).1 hg.2.2, hg.1⟩
theorem sanC_ok {X : Cf} {F : Fo} (h : sanC X F = 0) : faultOf F = 0 := by
  unfold sanC at h
  split at h
  · assumption
  · exact h
set_option maxHeartbeats 2000000 in
set_option maxRecDepth 100000 in
theorem specSanitize_any (X : Cf) (V : CfV) (F : Fo) (w : World) (A : Option Addr) (c b o lo hi : Nat) (h : CfIn w X V) (hd : F.nodes ≤ 1048576) (hh : hi ≤ w.heap.size) (hA : RowAt lo hi A F.len b o) (hF : FoAt w lo hi b o F) :
    Calls Tryz.prog 10 #[.slice A F.len c, .agg #[.bool X.ha, .bool X.hb, .slice V.a1 X.al.length V.c1, .slice V.a2 X.rm.length V.c2, .slice V.a3 X.uw.length V.c3, .slice V.a4 X.at_.length V.c4, .slice V.a5 X.dp.length V.c5, .bool X.cm, .bool X.da]] w fun e w' => ∃ v bl, e = .returned (.tuple #[v, .int .i64 (sanC X F)]) ∧ GRow w' w.heap.size v (sanO X F) bl ∧ Below w.heap.size w w' := by
  have HA := Lib.hid hA
  have HC := Lib.hid h
  have B0 : Hid (Below w.heap.size w ((w.alloc (.cells #[.bool X.ha, .bool X.hb, .slice V.a1 X.al.length V.c1, .slice V.a2 X.rm.length V.c2, .slice V.a3 X.uw.length V.c3, .slice V.a4 X.at_.length V.c4, .slice V.a5 X.dp.length V.c5, .bool X.cm, .bool X.da] 35)))) := Lib.hid ((Below.refl _ _).alloc (Nat.le_refl _) _)
  have HX : Hid (Lay ((w.alloc (.cells #[.bool X.ha, .bool X.hb, .slice V.a1 X.al.length V.c1, .slice V.a2 X.rm.length V.c2, .slice V.a3 X.uw.length V.c3, .slice V.a4 X.at_.length V.c4, .slice V.a5 X.dp.length V.c5, .bool X.cm, .bool X.da] 35))) w.heap.size #[.bool X.ha, .bool X.hb, .slice V.a1 X.al.length V.c1, .slice V.a2 X.rm.length V.c2, .slice V.a3 X.uw.length V.c3, .slice V.a4 X.at_.length V.c4, .slice V.a5 X.dp.length V.c5, .bool X.cm, .bool X.da]) := Lib.hid (Lay.new w #[.bool X.ha, .bool X.hb, .slice V.a1 X.al.length V.c1, .slice V.a2 X.rm.length V.c2, .slice V.a3 X.uw.length V.c3, .slice V.a4 X.at_.length V.c4, .slice V.a5 X.dp.length V.c5, .bool X.cm, .bool X.da] 35)
  have HF := Lib.hid hF
  obtain ⟨p0, p1, p2, p3, p4, p5, p6, p7, p8⟩ := lay9 HX.out
  clear h hA hF
  by_cases hl : F.len ≤ 4096
  · have HAK := Lib.hid (fun W (hW : Below w.heap.size w W) => l08Ask_any X V F W A c b o lo hi (HC.out.next hW) hd (Nat.le_trans hh hW.size) HA.out (FoAt.below HA.out HF.out hW hh))
    by_cases hk : sanC X F = 0
    · have HK := Lib.hid hk
      have HO : Hid (sanO X F = F.san X) := Lib.hid (by unfold sanO; rw [if_pos hk])
      have HG := Lib.hid (fine_good (sanC_ok hk))
      rw [hk]
      clear hk
      go_enter Tryz.func10, Tryz.ntmps10
      go_wp2_with (first
        | (go_at_call 33; refine (HAK.out _ B0.out).mono ?_; rintro e w1 ⟨rfl, hB⟩; rw [HK.out]; have q := HX.out.below hB (by simp); have BB := Lib.hid (B0.out.trans (hB.mono B0.out.size)); clear p0 p1 p2 p3 p4 p5 p6 p7 p8; obtain ⟨p0, p1, p2, p3, p4, p5, p6, p7, p8⟩ := lay9 q; clear q hB)
        | (go_at_call 34; refine (l08Tree_any X V F _ A c b o lo hi HG.out.1 HG.out.2 (HC.out.next BB.out) HA.out (Nat.le_trans hh BB.out.size) (FoAt.below HA.out HF.out BB.out hh)).mono ?_; rintro e w2 ⟨v, bl, rfl, hB, hG⟩; have H2 := Lib.hid (And.intro hG (BB.out.trans (hB.mono BB.out.size))); clear hB hG))
      go_ret2
      exact ⟨v, bl, rfl, by rw [HO.out]; exact H2.out.1.low BB.out.size, H2.out.2⟩
    · have HO : Hid (sanO X F = .nil) := Lib.hid (by unfold sanO; rw [if_neg hk])
      have hk' : (sanC X F != 0) = true := by simpa using hk
      generalize sanC X F = C at HAK hk' ⊢
      clear hk
      go_enter Tryz.func10, Tryz.ntmps10
      go_wp2_with (go_at_call 33; refine (HAK.out _ B0.out).mono ?_; rintro e w1 ⟨rfl, hB⟩; have q := HX.out.below hB (by simp); have BB := Lib.hid (B0.out.trans (hB.mono B0.out.size)); clear p0 p1 p2 p3 p4 p5 p6 p7 p8; obtain ⟨p0, p1, p2, p3, p4, p5, p6, p7, p8⟩ := lay9 q; clear q hB)
      go_ret2
      exact ⟨_, [], rfl, by rw [HO.out]; exact GRow.lit BB.out.size, BB.out.alloc BB.out.size _⟩
  · have hl' : (F.len : Int) > 4096 := by omega
    have HE : Hid (sanC X F = 2) := Lib.hid (by unfold sanC; rw [if_neg (by rw [fault_long hl]; decide), fault_long hl])
    have HO : Hid (sanO X F = .nil) := Lib.hid (by unfold sanO; rw [if_neg (by rw [HE.out]; decide)])
    go_enter Tryz.func10, Tryz.ntmps10
    go_wp2
    go_ret2
    have hg := GRow.lit (w := ((w.alloc (.cells #[.bool X.ha, .bool X.hb, .slice V.a1 X.al.length V.c1, .slice V.a2 X.rm.length V.c2, .slice V.a3 X.uw.length V.c3, .slice V.a4 X.at_.length V.c4, .slice V.a5 X.dp.length V.c5, .bool X.cm, .bool X.da] 35)))) (base := w.heap.size) B0.out.size
    rw [show ((w.alloc (.cells #[.bool X.ha, .bool X.hb, .slice V.a1 X.al.length V.c1, .slice V.a2 X.rm.length V.c2, .slice V.a3 X.uw.length V.c3, .slice V.a4 X.at_.length V.c4, .slice V.a5 X.dp.length V.c5, .bool X.cm, .bool X.da] 35))).heap.size = w.heap.size + 1 by simp] at hg
    exact ⟨_, [], by rw [HE.out]; rfl, by rw [HO.out]; exact hg, B0.out.alloc B0.out.size _⟩
end Go.Proofs.YthdkkpbhijlpaaaGreat
