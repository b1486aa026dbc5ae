
import Derived.Test.YtnhifdffofpphaaSwitch
import Derived.Maps.Own
import Derived.Maps.OwnOps
import Derived.Maps.Views
namespace Go.Proofs.Ytnhifdffofpphaa
open Go.ChangeShapes Go.WideShapes Go.ChangeAt Go.RowKit Go.Maps

theorem keysLaw : Keyed Try.prog 9 := string_keyed Try.underlying9
theorem zero4 (w : World) : (zeroValue 4).run Try.prog w = .ok (.bool false) w := by kernel_rfl
/-- block b of w is a map of texts to true, of at most n entries, just those of ls; of what lay in w0 nothing has turned -/
def SetFrom (w0 w : World) (b n : Nat) (ls : List (List UInt8)) : Prop :=
  (∃ D : DataW Unit, IsMap D ∧ w.ownsMap Try.prog 9 (plainElem Try.prog 4) b n D ∧
    ∀ l : List UInt8, D.atKey (.string l) (.lit (.bool false)) = .lit (.bool (ls.any fun x => x == l))) ∧
  Below w0.heap.size w0 w ∧ w0.heap.size ≤ b

theorem setFrom_made (w : World) : SetFrom w (w.alloc (.map #[] 0)) w.heap.size 0 [] :=
  ⟨⟨.map [], isMap_empty, World.ownsMap_made _ _ _ _, fun _ => rfl⟩, (Below.refl _ _).alloc (Nat.le_refl _) _, Nat.le_refl _⟩

theorem key_string (s : ByteArray) (h : s.size ≤ maxLen) : keyOf Try.prog 9 (.string s) = some (.string s.data.toList) := WideMaps.keyOf_string_mk Try.underlying9 h
theorem isKey_string (l : List UInt8) : WideAt.IsKeyLit (.string l) := by simp [WideAt.IsKeyLit]

end Go.Proofs.Ytnhifdffofpphaa
