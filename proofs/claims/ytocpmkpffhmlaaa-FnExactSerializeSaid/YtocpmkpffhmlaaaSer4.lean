import Derived.Test.YtocpmkpffhmlaaaSer3
import Derived.Deep.RegionHeld3
namespace Go.Proofs.Ytocpmkpffhmlaaa
open Go.ChangeShapes Go.WideShapes Go.ChangeAt Go.RowKit Go.Deep

/-- what is written stands behind what was: the builder in block bb -/
def Wrote (bb : Nat) (l : List UInt8) (w : World) (e : Ending) (w' : World) : Prop := e = .returned (.tuple #[]) ∧ BldF bb bb (Lib.byteCells l) w' ∧ Below bb w w' ∧ Kept bb w w'
theorem flat_cons (p : ByteArray) (ps : List ByteArray) : flat (p :: ps) = p.data.toList ++ flat ps := by simp [flat]
theorem writeNew_any (bb : Nat) (l : List UInt8) (ps : List ByteArray) (w : World) (hI : BldF bb bb (Lib.byteCells l) w) (hn : ps.length ≤ 1000) (hlen : l.length + (flat ps).length ≤ 1048576 * 1024) (hBw : bb < w.heap.size) :
    Calls Try.prog 39 #[.pointer (some ⟨bb, 0, none⟩), .slice (some ⟨w.heap.size, 0, none⟩) ps.length ps.length] (w.alloc (.cells (ps.map Value.string).toArray 9)) (Wrote bb (l ++ flat ps) w) :=
  (writePieces_any bb bb w.heap.size l ps _ (Lib.IsBuilderF.alloc hI _) (Texts.new ps w) (by omega) hn (by omega) (by simp; omega)).mono fun _ _ ⟨he, h1, h2, h3⟩ =>
    ⟨he, h1, ((Below.refl _ w).alloc (by omega) _).trans h2, ((Lib.OthersKept.refl _ _ w).alloc _).trans h3⟩
/-- a block of another kind stays -/
theorem kept_lay {bb k : Nat} {w w' : World} {cs : Array Value} {t : TypeId} {fr : Nat × Nat} (hK : Kept bb w w') (h : w.heap[k]? = some (.cells cs t fr)) (hk : k ≠ bb) (ht : t ≠ 5) : w'.heap[k]? = some (.cells cs t fr) :=
  hK k _ h (fun e => hk (Option.some.inj e)) (fun c fz e => by injection e with _ e2; exact ht e2)
theorem heap_new (w : World) (cs : Array Value) (t : TypeId) : (w.alloc (.cells cs t)).heap[w.heap.size]? = some (.cells cs t (0, 0)) := by
  show (w.heap.push _)[w.heap.size]? = _
  simp
theorem cell_heap {w : World} {k j : Nat} {cs : Array Value} {t : TypeId} {fr : Nat × Nat} (h : w.heap[k]? = some (.cells cs t fr)) : w.cell? ⟨k, j, none⟩ = cs[j]? := by
  rw [Lib.cell_of_heap h]

/-- what may stand in an element, as a number -/
def contI (x : Nd) : Int := if voidB x = true then 2 else if rawB x = true then 1 else 0
theorem contentOf_any (x : Nd) (b o lo hi : Nat) (w : World) (h : NdAt w lo hi b o x) :
    Calls Try.prog 51 #[.pointer (some ⟨b, o, none⟩)] w fun e w' => e = .returned (.int .i64 (contI x)) ∧ w = w' := by
  have H := Lib.hid h
  clear h
  cases hv : voidB x with
  | true =>
    have HV := Lib.hid hv
    have HE := Lib.hid (show contI x = 2 by simp [contI, hv])
    clear hv
    go_enter Try.func51, Try.ntmps51
    go_wp2_with (go_at_call 49; refine (isVoid_any x b o lo hi _ H.out).mono ?_; rintro e w' ⟨rfl, rfl⟩; rw [HV.out])
    go_ret
    exact ⟨by rw [HE.out]; rfl, rfl⟩
  | false =>
    have HV := Lib.hid hv
    cases hr : rawB x with
    | true =>
      have HR := Lib.hid hr
      have HE := Lib.hid (show contI x = 1 by simp [contI, hv, hr])
      clear hv hr
      go_enter Try.func51, Try.ntmps51
      go_wp2_with (first | (go_at_call 49; refine (isVoid_any x b o lo hi _ H.out).mono ?_; rintro e w' ⟨rfl, rfl⟩; rw [HV.out]) | (go_at_call 48; refine (isRaw_any x b o lo hi _ H.out).mono ?_; rintro e w' ⟨rfl, rfl⟩; rw [HR.out]))
      go_ret
      exact ⟨by rw [HE.out]; rfl, rfl⟩
    | false =>
      have HR := Lib.hid hr
      have HE := Lib.hid (show contI x = 0 by simp [contI, hv, hr])
      clear hv hr
      go_enter Try.func51, Try.ntmps51
      go_wp2_with (first | (go_at_call 49; refine (isVoid_any x b o lo hi _ H.out).mono ?_; rintro e w' ⟨rfl, rfl⟩; rw [HV.out]) | (go_at_call 48; refine (isRaw_any x b o lo hi _ H.out).mono ?_; rintro e w' ⟨rfl, rfl⟩; rw [HR.out]))
      go_ret
      exact ⟨by rw [HE.out]; rfl, rfl⟩

/-- the interface that a node is told by -/
def kindV (k : Int) (t : ByteArray) (content : Int) (b o : Nat) : Value :=
  if k = 1 then .iface 77 (.agg #[.pointer (some ⟨b, o, none⟩)]) else if k = 3 then .iface 83 (.agg #[.string t])
  else if content = 1 then .iface 82 (.agg #[.string t]) else .iface 80 (.agg #[.string t])
theorem kindOf_any (x : Nd) (content : Int) (b o lo hi : Nat) (w : World) (h : NdAt w lo hi b o x) :
    Calls Try.prog 37 #[.pointer (some ⟨b, o, none⟩), .int .i64 content] w fun e w' => e = .returned (kindV x.k x.t content b o) ∧ w = w' := by
  obtain ⟨⟨c0, c1, c2, c3, z2, z3⟩, _⟩ := h
  obtain ⟨k, sp, n, t, al⟩ := x
  simp only at c0 c1 c2 c3 z2 z3
  clear c1 c2 z2 z3
  by_cases h1 : k = 1
  · subst h1
    have HE : Hid (kindV 1 t content b o = .iface 77 (.agg #[.pointer (some ⟨b, o, none⟩)])) := Lib.hid rfl
    go_enter Try.func37, Try.ntmps37
    go_wp2
    go_ret
    exact ⟨by simp only; rw [HE.out]; rfl, rfl⟩
  · have h1' : (k == 1) = false := by simpa using h1
    by_cases h3 : k = 3
    · subst h3
      have HE : Hid (kindV 3 t content b o = .iface 83 (.agg #[.string t])) := Lib.hid rfl
      clear h1
      go_enter Try.func37, Try.ntmps37
      go_wp2
      go_ret
      exact ⟨by simp only; rw [HE.out]; rfl, rfl⟩
    · have h3' : (k == 3) = false := by simpa using h3
      by_cases hc : content = 1
      · subst hc
        have HE := Lib.hid (show kindV k t 1 b o = .iface 82 (.agg #[.string t]) by simp [kindV, h1, h3])
        clear h1 h3
        go_enter Try.func37, Try.ntmps37
        go_wp2
        go_ret
        exact ⟨by simp only; rw [HE.out]; rfl, rfl⟩
      · have hc' : (content == 1) = false := by simpa using hc
        have HE := Lib.hid (show kindV k t content b o = .iface 80 (.agg #[.string t]) by simp [kindV, h1, h3, hc])
        clear h1 h3 hc
        go_enter Try.func37, Try.ntmps37
        go_wp2
        go_ret
        exact ⟨by simp only; rw [HE.out]; rfl, rfl⟩
end Go.Proofs.Ytocpmkpffhmlaaa
