
import Derived.Test.YtnhifdffofpphabTo
import Derived.Deep.RegionWith
import Derived.Deep.Draws
namespace Go.Proofs.Ytnhifdffofpphab
open Go.ChangeShapes Go.WideShapes Go.ChangeAt Go.RowKit Go.Deep

theorem two_lay {w w' : World} {c1 c2 : Array Value} {t1 t2 : TypeId} (h : Below (w.heap.size + 1 + 1) ((w.alloc (.cells c1 t1)).alloc (.cells c2 t2)) w') :
    Lay w' w.heap.size c1 ∧ Lay w' (w.heap.size + 1) c2 ∧ Below w.heap.size w w' := by
  have s1 : (w.alloc (.cells c1 t1)).heap.size = w.heap.size + 1 := by simp
  have l1 := Lay.new w c1 t1
  have l2 := Lay.new (w.alloc (.cells c1 t1)) c2 t2
  rw [s1] at l2
  exact ⟨(l1.alloc (by omega) _).below h (by omega), l2.below h (by omega), Below.trans (by go_grown) (h.mono (by omega))⟩

end Go.Proofs.Ytnhifdffofpphab
