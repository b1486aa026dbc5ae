
import Derived.Test.YtbcbmgeoaejlmaaSmS
import Derived.Test.YtbcbmgeoaejlmaaCfAsk
namespace Go.Proofs.Ytbcbmgeoaejlmaa
open Go.ChangeShapes Go.WideShapes Go.ChangeAt Go.RowKit Go.Deep Go.Maps

/-- the boxes of two configurations -/
def Box2 (w W : World) (X Y : Cf) (V U : CfV) : Prop := CfBox w W w.heap.size X V ∧ CfBox w W (w.heap.size + 1) Y U
theorem Box2.next {w W W' : World} {X Y : Cf} {V U : CfV} (h : Box2 w W X Y V U) (hB : Below W.heap.size W W') : Box2 w W' X Y V U := ⟨h.1.next hB, h.2.next hB⟩
theorem Box2.new {w : World} {X Y : Cf} {V U : CfV} (h : CfIn w X V) (h' : CfIn w Y U) (t : TypeId) : Box2 w ((w.alloc (.cells #[.bool X.ha, .bool X.hb, .slice V.a1 X.al.length V.c1, .slice V.a2 X.rm.length V.c2, .slice V.a3 X.uw.length V.c3, .slice V.a4 X.at_.length V.c4, .slice V.a5 X.dp.length V.c5, .bool X.cm, .bool X.da] t)).alloc (.cells #[.bool Y.ha, .bool Y.hb, .slice U.a1 Y.al.length U.c1, .slice U.a2 Y.rm.length U.c2, .slice U.a3 Y.uw.length U.c3, .slice U.a4 Y.at_.length U.c4, .slice U.a5 Y.dp.length U.c5, .bool Y.cm, .bool Y.da] t)) X Y V U := by
  have h1 := (CfBox.new h t).next ((Below.refl (w.alloc (.cells #[.bool X.ha, .bool X.hb, .slice V.a1 X.al.length V.c1, .slice V.a2 X.rm.length V.c2, .slice V.a3 X.uw.length V.c3, .slice V.a4 X.at_.length V.c4, .slice V.a5 X.dp.length V.c5, .bool X.cm, .bool X.da] t)).heap.size (w.alloc (.cells #[.bool X.ha, .bool X.hb, .slice V.a1 X.al.length V.c1, .slice V.a2 X.rm.length V.c2, .slice V.a3 X.uw.length V.c3, .slice V.a4 X.at_.length V.c4, .slice V.a5 X.dp.length V.c5, .bool X.cm, .bool X.da] t))).alloc (Nat.le_refl _) (.cells #[.bool Y.ha, .bool Y.hb, .slice U.a1 Y.al.length U.c1, .slice U.a2 Y.rm.length U.c2, .slice U.a3 Y.uw.length U.c3, .slice U.a4 Y.at_.length U.c4, .slice U.a5 Y.dp.length U.c5, .bool Y.cm, .bool Y.da] t))
  have hB : Below w.heap.size w ((w.alloc (.cells #[.bool X.ha, .bool X.hb, .slice V.a1 X.al.length V.c1, .slice V.a2 X.rm.length V.c2, .slice V.a3 X.uw.length V.c3, .slice V.a4 X.at_.length V.c4, .slice V.a5 X.dp.length V.c5, .bool X.cm, .bool X.da] t)).alloc (.cells #[.bool Y.ha, .bool Y.hb, .slice U.a1 Y.al.length U.c1, .slice U.a2 Y.rm.length U.c2, .slice U.a3 Y.uw.length U.c3, .slice U.a4 Y.at_.length U.c4, .slice U.a5 Y.dp.length U.c5, .bool Y.cm, .bool Y.da] t)) := ((Below.refl _ _).alloc (Nat.le_refl _) _).alloc (by simp) _
  refine ⟨h1, ?_, h'.next hB, hB, by simp⟩
  simpa using Lay.new (w.alloc (.cells #[.bool X.ha, .bool X.hb, .slice V.a1 X.al.length V.c1, .slice V.a2 X.rm.length V.c2, .slice V.a3 X.uw.length V.c3, .slice V.a4 X.at_.length V.c4, .slice V.a5 X.dp.length V.c5, .bool X.cm, .bool X.da] t)) #[.bool Y.ha, .bool Y.hb, .slice U.a1 Y.al.length U.c1, .slice U.a2 Y.rm.length U.c2, .slice U.a3 Y.uw.length U.c3, .slice U.a4 Y.at_.length U.c4, .slice U.a5 Y.dp.length U.c5, .bool Y.cm, .bool Y.da] t
/-- alike but for what one asks first -/
noncomputable def eqCf (X Y : Cf) : Bool := (X.ha == Y.ha) && (X.hb == Y.hb) && (X.cm == Y.cm) && (X.da == Y.da) && eqB X.al Y.al && eqB X.rm Y.rm && eqB X.uw Y.uw && eqB X.at_ Y.at_ && eqB X.dp Y.dp
theorem eqB_eq {α : Type} {a b : α} (h : eqB a b = true) : a = b := by simpa [eqB] using h
theorem eqCf_eq {X Y : Cf} (h : eqCf X Y = true) : X = Y := by
  obtain ⟨a1, a2, a3, a4, a5, a6, a7, a8, a9⟩ := X
  obtain ⟨b1, b2, b3, b4, b5, b6, b7, b8, b9⟩ := Y
  unfold eqCf at h
  simp only [Bool.and_eq_true, beq_iff_eq] at h
  obtain ⟨⟨⟨⟨⟨⟨⟨⟨e1, e2⟩, e3⟩, e4⟩, e5⟩, e6⟩, e7⟩, e8⟩, e9⟩ := h
  have e5 := eqB_eq e5
  have e6 := eqB_eq e6
  have e7 := eqB_eq e7
  have e8 := eqB_eq e8
  have e9 := eqB_eq e9
  subst e1 e2 e3 e4 e5 e6 e7 e8 e9
  rfl
noncomputable def sameC (X Y : Cf) : Bool := (checkOf X == 0) && eqCf X Y
theorem sameC_two (X Y : Cf) : sameC X Y = ((checkOf X == 0) && (checkOf Y == 0) && eqCf X Y) := by
  unfold sameC
  cases h : eqCf X Y with
  | false => simp
  | true => rw [eqCf_eq h]; simp
end Go.Proofs.Ytbcbmgeoaejlmaa
