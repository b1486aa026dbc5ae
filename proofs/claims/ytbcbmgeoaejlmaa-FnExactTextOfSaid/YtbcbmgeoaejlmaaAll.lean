
import Derived.Test.YtbcbmgeoaejlmaaOK
namespace Go.Proofs.Ytbcbmgeoaejlmaa
open Go.ChangeShapes Go.WideShapes Go.ChangeAt Go.RowKit Go.Deep
variable {σ : Type}

/-- the whole walk, for a visitor that never stops -/
def travU (st : σ → List Nd → σ) : Fo → List Nd → σ → σ
  | .nil, _, s => s
  | .cons k sp n t al kids rest, ch, s => travU st rest ch (travU st kids (⟨k, sp, n, t, al⟩ :: ch) (st s (⟨k, sp, n, t, al⟩ :: ch)))
def yes (st : σ → List Nd → σ) : σ → List Nd → σ × Bool := fun s ch => (st s ch, true)
theorem trav_yes (st : σ → List Nd → σ) : ∀ (F : Fo) (ch : List Nd) (s : σ), trav (yes st) F ch s = (travU st F ch s, true)
  | .nil, _, _ => rfl
  | .cons k sp n t al kids rest, ch, s => by
    have h2 := trav_yes st kids (⟨k, sp, n, t, al⟩ :: ch) (st s (⟨k, sp, n, t, al⟩ :: ch))
    rw [trav_on (st := yes st) rfl (by show (trav (yes st) kids _ (st s _)).2 = true; rw [h2])]
    show trav (yes st) rest ch (trav (yes st) kids _ (st s _)).1 = _
    rw [h2, trav_yes st rest, travU]

def travPU (ok : σ → List Nd → Prop) (st : σ → List Nd → σ) : Fo → List Nd → σ → Prop
  | .nil, _, _ => True
  | .cons k sp n t al kids rest, ch, s => ok s (⟨k, sp, n, t, al⟩ :: ch) ∧ travPU ok st kids (⟨k, sp, n, t, al⟩ :: ch) (st s (⟨k, sp, n, t, al⟩ :: ch)) ∧ travPU ok st rest ch (travU st kids (⟨k, sp, n, t, al⟩ :: ch) (st s (⟨k, sp, n, t, al⟩ :: ch)))
theorem travP_yes (ok : σ → List Nd → Prop) (st : σ → List Nd → σ) : ∀ (F : Fo) (ch : List Nd) (s : σ), travP ok (yes st) F ch s ↔ travPU ok st F ch s
  | .nil, _, _ => Iff.rfl
  | .cons k sp n t al kids rest, ch, s => by
    rw [travP, travPU]
    have h2 := trav_yes st kids (⟨k, sp, n, t, al⟩ :: ch) (st s (⟨k, sp, n, t, al⟩ :: ch))
    show (ok s _ ∧ (true = true → travP ok (yes st) kids _ (st s _) ∧ ((trav (yes st) kids _ (st s _)).2 = true → travP ok (yes st) rest ch (trav (yes st) kids _ (st s _)).1))) ↔ _
    rw [h2, travP_yes ok st kids, travP_yes ok st rest]
    exact ⟨fun ⟨a, b⟩ => ⟨a, (b rfl).1, (b rfl).2 rfl⟩, fun ⟨a, b, c⟩ => ⟨a, fun _ => ⟨b, fun _ => c⟩⟩⟩
theorem travPU_always (st : σ → List Nd → σ) : ∀ (F : Fo) (ch : List Nd) (s : σ), travPU always st F ch s
  | .nil, _, _ => trivial
  | .cons _ _ _ _ _ kids rest, _, _ => ⟨trivial, travPU_always st kids _ _, travPU_always st rest _ _⟩

def SeenU (st : σ → List Nd → σ) (Inv : σ → (Nat → Prop) → World → Prop) (s : σ) (C : Nat → Prop) (ch : List Nd) (w : World) (e : Ending) (w' : World) : Prop :=
  ∃ D : Nat → Prop, e = .returned (.tuple #[]) ∧ Inv (st s ch) D w' ∧ But C w w' ∧ ∀ k, D k → C k ∨ w.heap.size ≤ k
structure VisU (P : Program) (g : Nat) (cap : Array Value) (lo hi : Nat) (ok : σ → List Nd → Prop) (st : σ → List Nd → σ) (Inv : σ → (Nat → Prop) → World → Prop) : Prop where
  own : ∀ s C w, Inv s C w → ∀ k, C k → hi ≤ k ∧ k < w.heap.size
  keep : ∀ s C w w', Inv s C w → Kin w w' → Inv s C w'
  call : ∀ s C w q ch, ch ≠ [] → ch.length ≤ 1048576 → ok s ch → Inv s C w → SpotAt w C lo hi q ch → hi ≤ w.heap.size → Calls P g (#[.pointer q] ++ cap) w (SeenU st Inv s C ch w)
def GoneU (st : σ → List Nd → σ) (Inv : σ → (Nat → Prop) → World → Prop) (s : σ) (C : Nat → Prop) (F : Fo) (w : World) (e : Ending) (w' : World) : Prop :=
  ∃ D : Nat → Prop, e = .returned (.tuple #[]) ∧ Inv (travU st F [] s) D w' ∧ But C w w' ∧ ∀ k, D k → C k ∨ w.heap.size ≤ k

def BoxAt (w : World) (C : Nat → Prop) (hi pv g : Nat) (cap : Array Value) : Prop := hi ≤ pv ∧ pv < w.heap.size ∧ ¬ C pv ∧ w.cell? ⟨pv, 0, none⟩ = some (.func (.func g) #[] cap)
theorem BoxAt.but {C D : Nat → Prop} {w w' : World} {hi pv g : Nat} {cap : Array Value} (h : BoxAt w C hi pv g cap) (hB : But C w w') (hD : ∀ k, D k → C k ∨ w.heap.size ≤ k) : BoxAt w' D hi pv g cap := by
  obtain ⟨a1, a2, a3, a4⟩ := h
  exact ⟨a1, Nat.lt_of_lt_of_le a2 hB.size, fun d => (hD pv d).elim a3 fun x => by omega, (hB.cell (p := ⟨pv, 0, none⟩) a2 a3).trans a4⟩

theorem all1_any (g : Nat) (cap : Array Value) (lo hi : Nat) (ok : σ → List Nd → Prop) (st : σ → List Nd → σ) (Inv : σ → (Nat → Prop) → World → Prop) (V : VisU Try.prog g cap lo hi ok st Inv) (eg : ∀ args w, (callFunc g args).run Try.prog w = .ok (.enter g args) w) (pv : Nat)
    (s : σ) (C : Nat → Prop) (w : World) (q : Option Addr) (ch : List Nd) (hne : ch ≠ []) (hl : ch.length ≤ 1048576) (ho : ok s ch) (hI : Inv s C w) (hb : BoxAt w C hi pv g cap) (hS : SpotAt w C lo hi q ch) (hh : hi ≤ w.heap.size) :
    Calls Try.prog 159 #[.pointer q, .pointer (some ⟨pv, 0, none⟩)] w (Seen (yes st) (fun s C w => Inv s C w ∧ BoxAt w C hi pv g cap) s C ch w) := by
  have hc := V.call s C w q ch hne hl ho hI hS hh
  have HB := Lib.hid hb
  have hcell := hb.2.2.2
  clear hI hS hb hne V ho
  go_enter Try.func159, Try.ntmps159
  go_wp2_with (go_at_fn g; refine hc.mono ?_; rintro e w1 ⟨D, rfl, i1, b1, d1⟩; have K := Lib.hid (And.intro i1 (And.intro b1 d1)); clear i1 b1 d1 hc)
  go_ret
  exact ⟨D, rfl, ⟨K.out.1, HB.out.but K.out.2.1 K.out.2.2⟩, K.out.2.1, K.out.2.2⟩

theorem visAll (g : Nat) (cap : Array Value) (lo hi : Nat) (ok : σ → List Nd → Prop) (st : σ → List Nd → σ) (Inv : σ → (Nat → Prop) → World → Prop) (V : VisU Try.prog g cap lo hi ok st Inv) (eg : ∀ args w, (callFunc g args).run Try.prog w = .ok (.enter g args) w) (pv : Nat) :
    Vis Try.prog 159 #[.pointer (some ⟨pv, 0, none⟩)] lo hi ok (yes st) (fun s C w => Inv s C w ∧ BoxAt w C hi pv g cap) where
  own := fun _ _ _ h k hk => V.own _ _ _ h.1 k hk
  keep := fun _ _ _ _ h hB => ⟨V.keep _ _ _ _ h.1 hB, h.2.but hB.but.none fun _ h => Or.inl h⟩
  call := fun s C w q ch hne hl ho hI hS hh => all1_any g cap lo hi ok st Inv V eg pv s C w q ch hne hl ho hI.1 hI.2 hS hh

theorem walkAll_any (g : Nat) (cap : Array Value) (lo hi : Nat) (ok : σ → List Nd → Prop) (st : σ → List Nd → σ) (Inv : σ → (Nat → Prop) → World → Prop) (V : VisU Try.prog g cap lo hi ok st Inv) (eg : ∀ args w, (callFunc g args).run Try.prog w = .ok (.enter g args) w) (F : Fo)
    (s : σ) (C : Nat → Prop) (w : World) (A : Option Addr) (c b o : Nat) (hd : F.nodes ≤ 1048576) (hp : travPU ok st F [] s) (hI : Inv s C w) (hh : hi ≤ w.heap.size) (hA : RowAt lo hi A F.len b o) (hF : FoAt w lo hi b o F) :
    Calls Try.prog 100 #[.slice A F.len c, .func (.func g) #[] cap] w (GoneU st Inv s C F w) := by
  have hmf : ∀ (fn : Fn) (first cap : Array Value) (w : World), (Instr.makeFunc fn first cap).run Try.prog w = .ok (.func fn first cap) w := fun _ _ _ _ => rfl
  have HA := Lib.hid hA
  have HF := Lib.hid hF
  have HI := Lib.hid hI
  have HV := Lib.hid V
  have HP := Lib.hid ((travP_yes ok st F [] s).2 hp)
  clear hA hF hI V hp
  go_enter Try.func100, Try.ntmps100
  go_wp2_with (go_at_call 92; refine (walk_any 159 #[.pointer (some ⟨w.heap.size, 0, none⟩)] lo hi ok (yes st) (fun s C w' => Inv s C w' ∧ BoxAt w' C hi w.heap.size g cap) (visAll g cap lo hi ok st Inv HV.out eg w.heap.size) (enters_of Try.func159 (by kernel_rfl) rfl) F s C _ A c b o hd HP.out ?i1 ?i2 HA.out ?i3).mono ?i4)
  case i1 => exact ⟨HV.out.keep _ _ _ _ HI.out ((Kin.refl _).alloc _ _ (by decide)), hh, by simp, fun d => absurd ((HV.out.own _ _ _ HI.out _ d).2) (Nat.lt_irrefl _), new_cell rfl⟩
  case i2 => simp; omega
  case i3 => exact HF.out.but HA.out ((But.refl No w).alloc _) hh (fun _ h => h.elim)
  case i4 =>
    rintro e w' ⟨D, rfl, i1, b1, d1⟩
    rw [trav_yes] at i1
    have K := Lib.hid (And.intro i1.1 (And.intro b1 d1))
    clear i1 b1 d1
    go_wp2
    go_end0
    exact ⟨D, rfl, K.out.1, ((But.refl C w).alloc _).trans K.out.2.1 (fun _ h => Or.inl h), fun k hk => (K.out.2.2 k hk).imp id fun h => by simp at h; omega⟩

/-- the code of a tree that a call is given -/
noncomputable def faultOf (F : Fo) : Int := if F.len ≤ 4096 then (if goodB F = true then 0 else 1) else 2
theorem fault_long {F : Fo} (h : ¬ F.len ≤ 4096) : faultOf F = 2 := if_neg h
theorem fault_bad {F : Fo} (h : F.len ≤ 4096) (hg : goodB F = false) : faultOf F = 1 := by rw [faultOf, if_pos h, hg]; rfl
theorem fault_ok {F : Fo} (h : F.len ≤ 4096) (hg : goodB F = true) : faultOf F = 0 := by rw [faultOf, if_pos h, hg]; rfl
theorem good_len {F : Fo} (hg : goodB F = true) : F.len ≤ 4096 := by
  have : Good F := by simpa [goodB] using hg
  have h1 := this.1
  have := Fo.len_le_nodes F
  omega

theorem treeFault_any (F : Fo) (w : World) (A : Option Addr) (c b o lo hi : Nat) (hd : F.nodes ≤ 1048576) (hh : hi ≤ w.heap.size) (hA : RowAt lo hi A F.len b o) (hF : FoAt w lo hi b o F) :
    Calls Try.prog 86 #[.slice A F.len c] w fun e w' => e = .returned (.int .i64 (faultOf F)) ∧ Below w.heap.size w w' := by
  have hln := Fo.len_le_nodes F
  have HA := Lib.hid hA
  have HF := Lib.hid hF
  clear hA hF
  by_cases hl : F.len ≤ 4096
  · cases hg : goodB F with
    | true =>
      have HG := Lib.hid hg
      have HE := Lib.hid (fault_ok hl hg)
      clear hg
      go_enter Try.func86, Try.ntmps86
      go_wp2_with (go_at_call 40; refine (implTreeOK_any F _ A c b o lo hi hd hh HA.out HF.out).mono ?_; rintro e w1 ⟨rfl, hB⟩; rw [HG.out]; have KB := Lib.hid hB; clear hB)
      go_ret
      exact ⟨by rw [HE.out]; rfl, KB.out⟩
    | false =>
      have HG := Lib.hid hg
      have HE := Lib.hid (fault_bad hl hg)
      clear hg
      go_enter Try.func86, Try.ntmps86
      go_wp2_with (go_at_call 40; refine (implTreeOK_any F _ A c b o lo hi hd hh HA.out HF.out).mono ?_; rintro e w1 ⟨rfl, hB⟩; rw [HG.out]; have KB := Lib.hid hB; clear hB)
      go_ret
      exact ⟨by rw [HE.out]; rfl, KB.out⟩
  · have hl' : (F.len : Int) > 4096 := by omega
    have HE := Lib.hid (fault_long hl)
    go_enter Try.func86, Try.ntmps86
    go_wp2
    go_ret
    exact ⟨by rw [HE.out]; rfl, Below.refl _ _⟩
theorem l03Ask_any (F : Fo) (w : World) (A : Option Addr) (c b o lo hi : Nat) (hd : F.nodes ≤ 1048576) (hh : hi ≤ w.heap.size) (hA : RowAt lo hi A F.len b o) (hF : FoAt w lo hi b o F) :
    Calls Try.prog 84 #[.slice A F.len c] w fun e w' => e = .returned (.int .i64 (faultOf F)) ∧ Below w.heap.size w w' := by
  have hln := Fo.len_le_nodes F
  have HA := Lib.hid hA
  have HF := Lib.hid hF
  clear hA hF
  by_cases hl : F.len ≤ 4096
  · cases hg : goodB F with
    | true =>
      have HG := Lib.hid hg
      have HE := Lib.hid (fault_ok hl hg)
      clear hg
      go_enter Try.func84, Try.ntmps84
      go_wp2_with (go_at_call 81; refine (l03Tree_any F _ A c b o lo hi hd hh HA.out HF.out).mono ?_; rintro e w1 ⟨rfl, hB⟩; rw [HG.out]; have KB := Lib.hid hB; clear hB)
      go_ret
      exact ⟨by rw [HE.out]; rfl, KB.out⟩
    | false =>
      have HG := Lib.hid hg
      have HE := Lib.hid (fault_bad hl hg)
      clear hg
      go_enter Try.func84, Try.ntmps84
      go_wp2_with (go_at_call 81; refine (l03Tree_any F _ A c b o lo hi hd hh HA.out HF.out).mono ?_; rintro e w1 ⟨rfl, hB⟩; rw [HG.out]; have KB := Lib.hid hB; clear hB)
      go_ret
      exact ⟨by rw [HE.out]; rfl, KB.out⟩
  · have hl' : (F.len : Int) > 4096 := by omega
    have HE := Lib.hid (fault_long hl)
    go_enter Try.func84, Try.ntmps84
    go_wp2
    go_ret
    exact ⟨by rw [HE.out]; rfl, Below.refl _ _⟩
end Go.Proofs.Ytbcbmgeoaejlmaa
