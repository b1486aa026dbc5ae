
import Derived.Test.YtnhifdffofpphaaFo
import Derived.WalkSmall
namespace Go.Proofs.Ytnhifdffofpphaa
open Go.ChangeShapes Go.WideShapes Go.ChangeAt Go.RowKit Go.Deep

/-- what is left behind n, or -1 -/
def left (l n : Nat) : Int := if n ≤ l then (l : Int) - n else -1
theorem left_le {l n : Nat} (h : n ≤ l) : left l n = (l : Int) - n := if_pos h
theorem left_gt {l n : Nat} (h : ¬ n ≤ l) : left l n = -1 := if_neg h

def asSize : List (ByteArray × ByteArray) → Nat
  | [] => 0
  | x :: r => x.1.size + x.2.size + asSize r
/-- all the bytes and all the lengths of a forest, but its own length -/
def Fo.size : Fo → Nat
  | .nil => 0
  | .cons _ _ n t al kids rest => n.size + t.size + (al.length + asSize al) + (kids.len + kids.size) + rest.size

/-- attributes stand where they stood -/
theorem al_below {w w' : World} {B lo hi b o : Nat} {A : Option Addr} {al : List (ByteArray × ByteArray)} (hA : RowAt lo hi A al.length b o) (h : AsAt w b o al) (hB : Below B w w') (hh : hi ≤ B) : AsAt w' b o al := by
  cases al with
  | nil => trivial
  | cons x r => exact h.carry fun o => hB.cell (p := ⟨b, o, none⟩) (by have := (hA.2 (by simp)).2.2; show b < _; omega)

/-- how many nodes -/
def Fo.nodes : Fo → Nat
  | .nil => 0
  | .cons _ _ _ _ _ kids rest => kids.nodes + rest.nodes + 1

end Go.Proofs.Ytnhifdffofpphaa
