
import Derived.Test.YtbcbmgeoaejlmaaCfAsk
import Derived.Test.YtbcbmgeoaejlmaaSets
import Derived.Test.YtbcbmgeoaejlmaaHas
namespace Go.Proofs.Ytbcbmgeoaejlmaa
open Go.ChangeShapes Go.WideShapes Go.ChangeAt Go.RowKit Go.Deep Go.Maps

theorem lay2u {w : World} {g : Nat} {v0 v1 : Value} (h : Lay w g #[v0, v1]) : w.cell? ⟨g, 0, none⟩ = some v0 ∧ w.cell? ⟨g, 1, none⟩ = some v1 := ⟨h.1 0, h.1 1⟩
/-- the two boxes of a configuration and of what is ruled -/
def AskBox (w W : World) (X : Cf) (V : CfV) (sp : Int) (n : ByteArray) : Prop := CfBox w W w.heap.size X V ∧ Lay W (w.heap.size + 1) #[.int .i64 sp, .string n] ∧ w.heap.size + 1 < W.heap.size
theorem AskBox.next {w W W' : World} {X : Cf} {V : CfV} {sp : Int} {n : ByteArray} (h : AskBox w W X V sp n) (hB : Below W.heap.size W W') : AskBox w W' X V sp n :=
  ⟨h.1.next hB, h.2.1.below hB h.2.2, Nat.lt_of_lt_of_le h.2.2 hB.size⟩
theorem AskBox.new {w : World} {X : Cf} {V : CfV} (h : CfIn w X V) (t u : TypeId) (sp : Int) (n : ByteArray) : AskBox w ((w.alloc (.cells #[.bool X.ha, .bool X.hb, .slice V.a1 X.al.length V.c1, .slice V.a2 X.rm.length V.c2, .slice V.a3 X.uw.length V.c3, .slice V.a4 X.at_.length V.c4, .slice V.a5 X.dp.length V.c5, .bool X.cm, .bool X.da] t)).alloc (.cells #[.int .i64 sp, .string n] u)) X V sp n :=
  ⟨(CfBox.new h t).next ((Below.refl _ _).alloc (Nat.le_refl _) _), by simpa using Lay.new (w.alloc (.cells #[.bool X.ha, .bool X.hb, .slice V.a1 X.al.length V.c1, .slice V.a2 X.rm.length V.c2, .slice V.a3 X.uw.length V.c3, .slice V.a4 X.at_.length V.c4, .slice V.a5 X.dp.length V.c5, .bool X.cm, .bool X.da] t)) #[.int .i64 sp, .string n] u, by simp⟩

def unwB (X : Cf) (sp : Int) (n : ByteArray) : Bool := hasRu X.uw sp n && !inL bannedL n
def allB (X : Cf) (sp : Int) (n : ByteArray) : Bool := !(inL bannedL n || hasRu X.uw sp n) && (if X.ha = true then hasRu X.al sp n else !hasRu X.rm sp n)

end Go.Proofs.Ytbcbmgeoaejlmaa
