
import Derived.Test.YtbcbmgeoaejlmaaRuF
import Derived.Maps.Own
import Derived.Maps.OwnOps
import Derived.Maps.OwnSet
import Derived.Maps.Views
import Derived.DeepKeys4
import Derived.Deep.RegionHeld3
namespace Go.Proofs.Ytbcbmgeoaejlmaa
open Go.ChangeShapes Go.WideShapes Go.ChangeAt Go.RowKit Go.Deep Go.Maps

/-- an element reads as itself -/
def rdV (v : Value) : Option (DataW Value × List MemPlace) := some (.held v, [])
theorem ba_same {a b : ByteArray} (h : a.toList = b.toList) : a = b := by
  rw [ByteArray.toList_eq, ByteArray.toList_eq] at h
  cases a; cases b
  simp only at h
  congr
  exact Array.ext' h
theorem ruKeyed : Keyed Try.prog 84 :=
  Keyed.of_law (deep_law_laid (by kernel_rfl) (m := 3) (by omega) (of_decide_eq_true (by kernel_rfl)) (by kernel_rfl) (by kernel_rfl))
theorem ruled_key (sp : Int) (n : ByteArray) (h : (Lit.int .i64 sp).wf = true) (hn : n.size ≤ maxLen) : ∃ kl, keyOf Try.prog 84 (.agg #[.int .i64 sp, .string n]) = some kl := by
  obtain ⟨m, hm⟩ : ∃ m, Try.prog.types.size = m + 1 := ⟨Try.prog.types.size - 1, by have : 1 ≤ Try.prog.types.size := of_decide_eq_true (by kernel_rfl); omega⟩
  have hk : Try.prog.keyType 84 = true := by kernel_rfl
  have c2 : Try.prog.cellsOf 84 = 2 := by kernel_rfl
  have ci : Try.prog.cellsOf 3 = 1 := by kernel_rfl
  have cs : Try.prog.cellsOf 9 = 1 := by kernel_rfl
  have hf : (Value.agg #[.int .i64 sp, .string n]).formed Try.prog 84 = true := by
    simp [Value.formed, Try.underlying84, c2]
  have h1 : Try.prog.keyLits (m + 1 + 1) 84 [.int .i64 sp, .string n] = some [.int .i64 sp, .string n.data.toList] := by
    simp [Program.keyLits, Try.underlying84, Try.underlying3, Try.underlying9, c2, ci, cs, h, hn]
  unfold keyOf
  rw [Try.underlying84]
  simp only
  rw [hk, hf, hm]
  simp only [Bool.and_self, if_true]
  exact ⟨_, by rw [show (Value.agg #[.int .i64 sp, .string n]).cells.toList = [.int .i64 sp, .string n] from rfl, h1]; rfl⟩

def RuVal (w : World) (x : Ru) (v : Value) : Prop := ∃ B c, v = .agg #[.int .i64 x.1, .string x.2.1, .slice B x.2.2.length c] ∧ x.2.2.length ≤ c ∧ NmIn w B x.2.2
/-- block b of w is a map of at most n entries, one for each of c spaces and names, those of l -/
def RuMap (w0 w : World) (b n : Nat) (l : List Ru) (c : Nat) : Prop :=
  (∃ D : DataW Value, w.ownsMap Try.prog 84 rdV b n D ∧ Maps.size D = c ∧
    ∀ (sp : Int) (nm : ByteArray) (kl : Lit), keyOf Try.prog 84 (.agg #[.int .i64 sp, .string nm]) = some kl → Maps.has D kl = hasRu l sp nm ∧
      (hasRu l sp nm = true → ∃ x ∈ l, ruIs sp nm x = true ∧ ∃ v, RuVal w0 x v ∧ ∀ z, D.atKey kl z = .held v)) ∧
  Below w0.heap.size w0 w ∧ w0.heap.size ≤ b
theorem RuMap.made (w : World) : RuMap w (w.alloc (.map #[] 0)) w.heap.size 0 [] 0 :=
  ⟨⟨.map [], World.ownsMap_made _ _ _ _, rfl, fun _ _ _ _ => ⟨rfl, fun h => by cases h⟩⟩, (Below.refl _ _).alloc (Nat.le_refl _) _, Nat.le_refl _⟩
theorem RuMap.next {w0 w w' : World} {b n c : Nat} {l : List Ru} (h : RuMap w0 w b n l c) (hB : Below w.heap.size w w') : RuMap w0 w' b n l c := by
  obtain ⟨⟨D, h1, h2, h3⟩, h4, h5⟩ := h
  refine ⟨⟨D, ?_, h2, h3⟩, h4.trans (hB.mono h4.size), h5⟩
  have hlt := h1.lt
  obtain ⟨es, clock, hb, F, hs, hD⟩ := h1
  exact ⟨es, clock, (hB.block b hlt).trans hb, F, hs, hD⟩
theorem hasRu_snoc (l : List Ru) (x : Ru) (sp : Int) (n : ByteArray) : hasRu (l ++ [x]) sp n = (hasRu l sp n || ruIs sp n x) := by
  unfold hasRu; rw [List.any_append]; simp
theorem ruIs_eq {sp : Int} {n : ByteArray} {x : Ru} (h : ruIs sp n x = true) : sp = x.1 ∧ n = x.2.1 := by
  simp only [ruIs, Bool.and_eq_true, beq_iff_eq] at h
  exact ⟨h.1.symm, ba_same h.2.symm⟩
set_option maxRecDepth 100000 in
theorem RuMap.put {w0 w : World} {b n c : Nat} {l : List Ru} (h : RuMap w0 w b n l c) (hn : n < maxLen) (x : Ru) (hx : (Lit.int .i64 x.1).wf = true) (hz : x.2.1.size ≤ maxLen) {v : Value} (hv : RuVal w0 x v) :
    ∃ w', (Instr.mapUpdate 142 (.map (some b)) (.agg #[.int .i64 x.1, .string x.2.1]) v).run Try.prog w = .ok () w' ∧ RuMap w0 w' b (n + 1) (l ++ [x]) (if hasRu l x.1 x.2.1 = true then c else c + 1) ∧ w.grownBy w' (some b) := by
  obtain ⟨⟨D, hown, hsz, hat⟩, hb, hle⟩ := h
  obtain ⟨kl, hkl⟩ := ruled_key x.1 x.2.1 hx hz
  obtain ⟨w', hrun, hown', hg⟩ := hown.update ruKeyed Try.underlying142 hn hkl (show rdV v = some (.held v, []) from rfl)
  have hT := hown.tidy ruKeyed
  have hkk : WideAt.IsKeyLit kl := ruKeyed.key hkl
  refine ⟨w', hrun, ⟨⟨_, hown', ?_, fun sp nm kl' hk' => ?_⟩, hb.grown hg hb.size (fun k hk => by cases hk; exact hle), hle⟩, hg⟩
  · rw [Maps.size_put hT, (hat _ _ _ hkl).1, hsz]
  · by_cases e : kl' = kl
    · subst e
      have he := ruKeyed.inj hk' hkl
      have e1 : sp = x.1 := by injection he with he; simp at he; exact he.1
      have e2 : nm = x.2.1 := by injection he with he; simp at he; exact he.2
      subst e1 e2
      have hi : ruIs x.1 x.2.1 x = true := by simp [ruIs]
      rw [hasRu_snoc, hi, Bool.or_true]
      exact ⟨Maps.has_put_same hT.isMap hkk _, fun _ => ⟨x, by simp, hi, v, hv, fun z => Maps.atKey_put_same hT.isMap hkk _ _⟩⟩
    · have hi : ruIs sp nm x = false := by
        cases hh : ruIs sp nm x with
        | false => rfl
        | true =>
          obtain ⟨e1, e2⟩ := ruIs_eq hh
          subst e1 e2
          rw [hkl] at hk'
          exact absurd (Option.some.inj hk').symm e
      rw [hasRu_snoc, hi, Bool.or_false, Maps.has_put_other e]
      obtain ⟨a1, a2⟩ := hat sp nm kl' hk'
      refine ⟨a1, fun hh => ?_⟩
      obtain ⟨y, hy, h1, u, hu, h2⟩ := a2 hh
      exact ⟨y, by simp [hy], h1, u, hu, fun z => by rw [Maps.atKey_put_other e]; exact h2 z⟩
/-- how many differ -/
def cntR (l : List Ru) : Nat → Nat
  | 0 => 0
  | k + 1 => match l[k]? with | some x => if hasRu (l.take k) x.1 x.2.1 = true then cntR l k else cntR l k + 1 | none => cntR l k
theorem cntR_succ {l : List Ru} {k : Nat} (hk : k < l.length) : cntR l (k + 1) = if hasRu (l.take k) l[k].1 l[k].2.1 = true then cntR l k else cntR l k + 1 := by
  rw [cntR, List.getElem?_eq_getElem hk]
theorem cntR_le (l : List Ru) : ∀ k, cntR l k ≤ k
  | 0 => Nat.le_refl _
  | k + 1 => by
    rw [cntR]
    have := cntR_le l k
    split
    · split <;> omega
    · omega
theorem cntR_dis (l : List Ru) : ∀ k, k ≤ l.length → decide (cntR l k = k) = disGo l k
  | 0, _ => rfl
  | k + 1, hk => by
    have ih := cntR_dis l k (by omega)
    have hle := cntR_le l k
    rw [cntR_succ (by omega), disGo_succ (by omega)]
    cases h : hasRu (l.take k) l[k].1 l[k].2.1 with
    | true => simp; omega
    | false =>
      rw [if_neg (by simp), ← ih]
      simp

/-- a key that is handed back from a variable -/
theorem ret_ruled {fn : Func} {p : Tmp} {R : Ending → World → Prop} {a : Act} {W : World} {g : Nat} {v0 v1 : Value} (hres : fn.results = #[.cell p 84])
    (hL : Lay W g #[v0, v1]) (hp : a.tmps.getD p undef = .pointer (some ⟨g, 0, none⟩)) (hd : a.defers = []) (hR : R (.returned (.agg #[v0, v1])) W) : bodyPost Try.prog fn R .ret a W := by
  refine bodyPost_ret (v := .agg #[v0, v1]) ?_ hd hR
  have hp' : a.tmps[p]?.getD undef = .pointer (some ⟨g, 0, none⟩) := by simpa using hp
  have h0 := hL.1
  simp [results, hres, hp', go_sem, h0]
theorem ruledBy_any (sp : Int) (n : ByteArray) (al : List ByteArray) (w : World) (A : Option Addr) (c : Nat) :
    Calls Try.prog 145 #[.agg #[.int .i64 sp, .string n, .slice A al.length c]] w fun e w' => e = .returned (.agg #[.int .i64 sp, .string n]) ∧ Below w.heap.size w w' := by
  go_enter Try.func145, Try.ntmps145
  go_wp2
  (try simp only [Exit.inBlock, Exit.then])
  have L := Lay.new (w.alloc (.cells #[.int .i64 sp, .string n, .slice A al.length c] 89)) #[.int .i64 sp, .string n] 84
  simp only [World.size_alloc] at L
  exact ret_ruled rfl L rfl rfl ⟨rfl, by go_grown⟩
end Go.Proofs.Ytbcbmgeoaejlmaa
