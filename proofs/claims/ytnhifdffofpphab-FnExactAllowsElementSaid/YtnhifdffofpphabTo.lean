
import Derived.Test.YtnhifdffofpphabSz
import Derived.Deep.OwnRows
import Derived.Handy
import Derived.Laws.IdiomCopy
namespace Go.Proofs.Ytnhifdffofpphab
open Go.ChangeShapes Go.WideShapes Go.ChangeAt Go.RowKit Go.Deep

/-- a row of n cells that may be written -/
def Room (w : World) (g n : Nat) : Prop := ∀ j, j < n → (∃ v, w.cell? ⟨g, j, none⟩ = some v) ∧ w.frozen? ⟨g, j, none⟩ = false
theorem Room.below {w w' : World} {g n B : Nat} (h : Room w g n) (hB : Below B w w') (hg : g < B) : Room w' g n := fun j hj => by
  obtain ⟨⟨v, hv⟩, hf⟩ := h j hj
  exact ⟨⟨v, (hB.cell (p := ⟨g, j, none⟩) hg).trans hv⟩, (hB.frozen (p := ⟨g, j, none⟩) hg).trans hf⟩
theorem room_made (w : World) (z : Array Value) (n : Nat) (e : TypeId) : Room (w.alloc (.cells (madeCells z n) e)) w.heap.size n := fun j hj => by
  have h1 : (madeCells z n).size = n := size_madeCells _ _
  refine ⟨⟨(madeCells z n)[j]'(by omega), ?_⟩, ?_⟩
  · rw [World.cell?_alloc_new]; exact Array.getElem?_eq_getElem _
  · simp

theorem Room.set {w : World} {g n : Nat} (h : Room w g n) (i : Nat) (v : Value) : Room (w.setCell ⟨g, i, none⟩ v) g n := fun j hj => by
  obtain ⟨⟨u, hu⟩, hf⟩ := h j hj
  refine ⟨?_, by simpa using hf⟩
  by_cases e : j = i
  · subst e; exact ⟨v, World.cell?_setCell_same _ _ _ hu⟩
  · exact ⟨u, by rw [World.cell?_setCell_other (h := by simp <;> omega)]; exact hu⟩

theorem AsAt.carryr {w w' : World} {b : Nat} : ∀ {al : List (ByteArray × ByteArray)} {o : Nat}, AsAt w b o al → (∀ j, j < 2 * al.length → w'.cell? ⟨b, o + j, none⟩ = w.cell? ⟨b, o + j, none⟩) → AsAt w' b o al
  | [], _, _, _ => trivial
  | x :: r, o, ⟨h1, h2, h3, h4, h5⟩, hs => ⟨(hs 0 (by simp)).trans h1, (hs 1 (by simp <;> omega)).trans h2, h3, h4, AsAt.carryr h5 fun j hj => by
      have := hs (2 + j) (by simp <;> omega)
      rwa [← Nat.add_assoc] at this⟩

theorem make_attrs (n : Nat) (hn : n ≤ 1048576) (w : World) : (Instr.makeSlice 55 (.int .i64 (n : Int)) (.int .i64 (n : Int))).run Try.prog w = .ok (.slice (some ⟨w.heap.size, 0, none⟩) n n) (w.alloc (.cells (madeCells #[.string ⟨#[]⟩, .string ⟨#[]⟩] (n * 2)) 39)) := by
  have hinfo : (Try.prog.info? 39).map (fun i => (i.zero, i.size, i.bytes)) = some (some (.agg #[.string ⟨#[]⟩, .string ⟨#[]⟩]), 2, 32) := by kernel_rfl
  obtain ⟨i, hi, hzz⟩ := Option.map_eq_some_iff.1 hinfo
  simp only [Prod.mk.injEq] at hzz
  obtain ⟨hz, hs, hb⟩ := hzz
  have := run_make (P := Try.prog) w 55 39 i _ Try.underlying55 hi hz .i64 .i64 n n (by omega) (Int.le_refl _) (by rw [hb]; omega) (by omega)
  simp only [Int.toNat_natCast, hs] at this
  exact this

theorem toAttr_any (x : ByteArray × ByteArray) (w : World) (h1 : x.1.size ≤ maxLen) (h2 : x.2.size ≤ maxLen) :
    Calls Try.prog 14 #[.agg #[.string x.1, .string x.2]] w fun e w' => e = .returned (.agg #[.string x.1, .string x.2]) ∧ Below w.heap.size w w' := by
  obtain ⟨n, v⟩ := x
  simp only at h1 h2 ⊢
  go_enter Try.func14, Try.ntmps14
  go_wp2
  (try simp only [Exit.inBlock, Exit.then])
  refine bodyPost_ret (v := .agg #[.string n, .string v]) (by simp [results, Try.results14, go_sem]) rfl ⟨rfl, ?_⟩
  go_grown

theorem AsAt.app {w : World} {b : Nat} : ∀ {p q : List (ByteArray × ByteArray)} {o : Nat}, AsAt w b o p → AsAt w b (o + 2 * p.length) q → AsAt w b o (p ++ q)
  | [], _, _, _, h => by simpa using h
  | x :: p, q, o, ⟨h1, h2, h3, h4, h5⟩, h => ⟨h1, h2, h3, h4, AsAt.app h5 (by simp at h; rw [show o + 2 + 2 * p.length = o + 2 * (p.length + 1) by omega]; exact h)⟩

/-- no row is longer than 2^20 -/
def Fo.small : Fo → Prop
  | .nil => True
  | .cons _ _ _ _ al kids rest => al.length ≤ 1048576 ∧ kids.len ≤ 1048576 ∧ kids.small ∧ rest.small
theorem Fo.small_of : ∀ (F : Fo), F.size ≤ 1048576 → F.small
  | .nil, _ => trivial
  | .cons _ _ _ _ al kids rest, h => ⟨by simp [Fo.size] at h; omega, by simp [Fo.size] at h; omega, Fo.small_of kids (by simp [Fo.size] at h; omega), Fo.small_of rest (by simp [Fo.size] at h; omega)⟩

theorem oth {w : World} {g i b o : Nat} {v : Value} (h : g ≠ b) : (w.setCell ⟨g, i, none⟩ v).cell? ⟨b, o, none⟩ = w.cell? ⟨b, o, none⟩ := oth0 h

theorem three_lay {w w' : World} {c1 c2 c3 : Array Value} {t1 t2 t3 : TypeId} (h : Below (w.heap.size + 1 + 1 + 1) (((w.alloc (.cells c1 t1)).alloc (.cells c2 t2)).alloc (.cells c3 t3)) w') :
    Lay w' w.heap.size c1 ∧ Lay w' (w.heap.size + 1) c2 ∧ Lay w' (w.heap.size + 1 + 1) c3 ∧ Below w.heap.size w w' := by
  have s1 : (w.alloc (.cells c1 t1)).heap.size = w.heap.size + 1 := by simp
  have s2 : ((w.alloc (.cells c1 t1)).alloc (.cells c2 t2)).heap.size = w.heap.size + 1 + 1 := by simp
  have l1 := Lay.new w c1 t1
  have l2 := Lay.new (w.alloc (.cells c1 t1)) c2 t2
  have l3 := Lay.new ((w.alloc (.cells c1 t1)).alloc (.cells c2 t2)) c3 t3
  rw [s1] at l2
  rw [s2] at l3
  exact ⟨((l1.alloc (by omega) _).alloc (by omega) _).below h (by omega), (l2.alloc (by omega) _).below h (by omega), l3.below h (by omega), Below.trans (by go_grown) (h.mono (by omega))⟩

theorem size_setCells (b : Nat) : ∀ (vs : List Value) (o : Nat) (w : World), (w.setCells b o vs).heap.size = w.heap.size
  | [], _, _ => rfl
  | v :: r, o, w => by rw [World.setCells, size_setCells b r, World.size_setCell]
theorem below_setCells {B b : Nat} (hB : B ≤ b) : ∀ (vs : List Value) (o : Nat) (w : World), Below B w (w.setCells b o vs)
  | [], _, _ => Below.refl _ _
  | v :: r, o, w => ((Below.refl B w).setCell (p := ⟨b, o, none⟩) hB v).trans (below_setCells hB r (o + 1) _)
theorem Room.sets {w : World} {g n : Nat} (h : Room w g n) : ∀ (vs : List Value) (i : Nat), Room (w.setCells g i vs) g n := by
  intro vs
  induction vs generalizing w with
  | nil => intro i; exact h
  | cons v r ih => intro i; exact ih (h.set i v) (i + 1)

theorem FoAt.put {w : World} {g m n hi : Nat} {k sp : Int} {nm t : ByteArray} {al : List (ByteArray × ByteArray)} {kids : Fo} {A K : Option Addr} {c kc b o kb ko : Nat} (hr : Room w g n) (hm : m + 6 ≤ n)
    (h1 : nm.size ≤ maxLen) (h2 : t.size ≤ maxLen) (hA : RowAt (g + 1) hi A al.length b o) (hal : AsAt w b o al) (hK : RowAt (g + 1) hi K kids.len kb ko) (hk : FoAt w (g + 1) hi kb ko kids) (hc : al.length ≤ c) (hkc : kids.len ≤ kc) :
    FoAt (w.setCells g m [.int .i64 k, .int .i64 sp, .string nm, .string t, .slice A al.length c, .slice K kids.len kc]) (g + 1) hi g m (.one k sp nm t al kids) := by
  have hin := World.cell?_setCells_in g [.int .i64 k, .int .i64 sp, .string nm, .string t, .slice A al.length c, .slice K kids.len kc] m w (fun j hj => by
    obtain ⟨⟨v, hv⟩, _⟩ := hr (m + j) (by simp at hj; omega)
    rw [hv]; rfl)
  have hout : ∀ b o, g + 1 ≤ b → (w.setCells g m [.int .i64 k, .int .i64 sp, .string nm, .string t, .slice A al.length c, .slice K kids.len kc]).cell? ⟨b, o, none⟩ = w.cell? ⟨b, o, none⟩ := fun b o hb =>
    World.cell?_setCells_out g _ _ _ _ (fun e _ => by simp at e; omega)
  refine ⟨⟨hin 0 (by simp), hin 1 (by simp), hin 2 (by simp), hin 3 (by simp), h1, h2⟩, ⟨A, c, b, o, hin 4 (by simp), ⟨hc, hA⟩, ?_⟩, ⟨K, kc, kb, ko, hin 5 (by simp), ⟨hkc, hK⟩, ?_⟩, trivial⟩
  · cases al with
    | nil => trivial
    | cons x r => exact hal.carry fun o => hout _ _ (hA.2 (by simp)).2.1
  · exact hk.carry (Nat.le_refl _) (Nat.le_refl _) (fun b o h _ => hout b o h) (fun j hj => hout _ _ (hK.2 (by omega)).2.1)

theorem FoAt.outside {w : World} {g m hi : Nat} {F : Fo} {o : Nat} (h : FoAt w (g + 1) hi g o F) (hm : o + 6 * F.len ≤ m) (vs : List Value) : FoAt (w.setCells g m vs) (g + 1) hi g o F :=
  h.carry (Nat.le_refl _) (Nat.le_refl _) (fun b o hb _ => World.cell?_setCells_out g _ _ _ _ (fun e _ => by simp at e; omega)) (fun j hj => World.cell?_setCells_out g _ _ _ _ (fun _ _ => by simp; omega))

theorem Fo.small_app : ∀ (F : Fo) {G : Fo}, (F.app G).small → G.small
  | .nil, _, h => h
  | .cons _ _ _ _ _ _ r, _, h => Fo.small_app r h.2.2.2

end Go.Proofs.Ytnhifdffofpphab
