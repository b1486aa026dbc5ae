
import Derived.Test.YtbcbmgeoaejlmaaDef
namespace Go.Proofs.Ytbcbmgeoaejlmaa
open Go.ChangeShapes Go.WideShapes Go.ChangeAt Go.RowKit Go.Deep

theorem owns_open {w : World} {base : Nat} {e : TypeId} {size : Nat} {v : Value} {n : Nat} {vs : List Value} (h : w.ownsRow base e size v n vs) (hn : n ≠ 0) : ∃ g cap, v = .slice (some ⟨g, 0, none⟩) n cap ∧ base ≤ g ∧ g < w.heap.size ∧ (∀ j u, vs[j]? = some u → w.cell? ⟨g, j, none⟩ = some u) ∧ ∀ j, w.frozen? ⟨g, j, none⟩ = false := by
  have hc := fun g hg => World.ownsRow.cells h (g := g) hg
  obtain ⟨hl, h⟩ := h
  rcases h with ⟨_, h0⟩ | ⟨g, cap, cur, rfl, hb, hg, hnn, hm, hs, ht⟩
  · exact absurd h0 hn
  · refine ⟨g, cap, rfl, hb, (Array.getElem?_eq_some_iff.1 hg).1, fun j u hu => ?_, fun j => by simp [World.frozen?, hg]⟩
    have := hc g rfl j u hu
    rwa [Addr.add_lit, Nat.zero_add] at this
theorem defNames_le : ∀ t ∈ defNames, t.size ≤ maxLen := by decide
theorem def_names {w : World} {g : Nat} (h : Lay w g #[.string ⟨#[112]⟩, .string ⟨#[100, 105, 118]⟩, .string ⟨#[98]⟩, .string ⟨#[105]⟩, .string ⟨#[97]⟩, .string ⟨#[117, 108]⟩, .string ⟨#[108, 105]⟩, .string ⟨#[98, 114]⟩, .string ⟨#[104, 49]⟩, .string ⟨#[116, 97, 98, 108, 101]⟩]) : NmIn w (some ⟨g, 0, none⟩) defNames :=
  ⟨by simp [defNames, maxLen], Or.inr ⟨g, 0, rfl, fun k hk => by
    match k, hk with
    | 0, _ => exact ⟨h.1 0, defNames_le _ (List.getElem_mem _)⟩
    | 1, _ => exact ⟨h.1 1, defNames_le _ (List.getElem_mem _)⟩
    | 2, _ => exact ⟨h.1 2, defNames_le _ (List.getElem_mem _)⟩
    | 3, _ => exact ⟨h.1 3, defNames_le _ (List.getElem_mem _)⟩
    | 4, _ => exact ⟨h.1 4, defNames_le _ (List.getElem_mem _)⟩
    | 5, _ => exact ⟨h.1 5, defNames_le _ (List.getElem_mem _)⟩
    | 6, _ => exact ⟨h.1 6, defNames_le _ (List.getElem_mem _)⟩
    | 7, _ => exact ⟨h.1 7, defNames_le _ (List.getElem_mem _)⟩
    | 8, _ => exact ⟨h.1 8, defNames_le _ (List.getElem_mem _)⟩
    | 9, _ => exact ⟨h.1 9, defNames_le _ (List.getElem_mem _)⟩
    | k + 10, h => exact absurd h (by simp [defNames])⟩⟩

theorem five_kept (w : World) (g o : Nat) (u : Value) (o1 o2 o3 o4 o5 : Obj) (k : Nat) (hk : k < w.heap.size) (hg : k ≠ g) : ((((((w.setCell ⟨g, o, none⟩ u).alloc o1).alloc o2).alloc o3).alloc o4).alloc o5).heap[k]? = w.heap[k]? := by
  have h0 : k < (w.setCell ⟨g, o, none⟩ u).heap.size := by rw [World.size_setCell]; exact hk
  rw [Below.heap_alloc _ _ _ (by simp; omega), Below.heap_alloc _ _ _ (by simp; omega), Below.heap_alloc _ _ _ (by simp; omega), Below.heap_alloc _ _ _ (by simp; omega), Below.heap_alloc _ _ _ h0, heap_set w g o u hg]
theorem five_allocs (w : World) (g o : Nat) (u : Value) (o1 o2 o3 o4 o5 : Obj) (k : Nat) (hk : k < w.heap.size) : ((((((w.setCell ⟨g, o, none⟩ u).alloc o1).alloc o2).alloc o3).alloc o4).alloc o5).heap[k]? = (w.setCell ⟨g, o, none⟩ u).heap[k]? := by
  have h0 : k < (w.setCell ⟨g, o, none⟩ u).heap.size := by rw [World.size_setCell]; exact hk
  rw [Below.heap_alloc _ _ _ (by simp; omega), Below.heap_alloc _ _ _ (by simp; omega), Below.heap_alloc _ _ _ (by simp; omega), Below.heap_alloc _ _ _ (by simp; omega), Below.heap_alloc _ _ _ h0]
theorem five_lay (w : World) (g o : Nat) (u : Value) (c1 c2 c3 c4 c5 : Array Value) (t1 t2 t3 t4 t5 : TypeId) :
    Lay ((((((w.setCell ⟨g, o, none⟩ u).alloc (.cells c1 t1)).alloc (.cells c2 t2)).alloc (.cells c3 t3)).alloc (.cells c4 t4)).alloc (.cells c5 t5)) w.heap.size c1 ∧ Lay ((((((w.setCell ⟨g, o, none⟩ u).alloc (.cells c1 t1)).alloc (.cells c2 t2)).alloc (.cells c3 t3)).alloc (.cells c4 t4)).alloc (.cells c5 t5)) (w.heap.size + 3) c4 := by
  have hz : (w.setCell ⟨g, o, none⟩ u).heap.size = w.heap.size := World.size_setCell _ _ _
  have a1 : Lay ((w.setCell ⟨g, o, none⟩ u).alloc (.cells c1 t1)) w.heap.size c1 := by have h := Lay.new (w.setCell ⟨g, o, none⟩ u) c1 t1; rwa [hz] at h
  have a4 : Lay (((((w.setCell ⟨g, o, none⟩ u).alloc (.cells c1 t1)).alloc (.cells c2 t2)).alloc (.cells c3 t3)).alloc (.cells c4 t4)) (w.heap.size + 3) c4 := by
    have h := Lay.new ((((w.setCell ⟨g, o, none⟩ u).alloc (.cells c1 t1)).alloc (.cells c2 t2)).alloc (.cells c3 t3)) c4 t4
    have e : ((((w.setCell ⟨g, o, none⟩ u).alloc (.cells c1 t1)).alloc (.cells c2 t2)).alloc (.cells c3 t3)).heap.size = w.heap.size + 3 := by simp
    rwa [e] at h
  exact ⟨a1.below (B := w.heap.size + 1) (((((Below.refl _ _).alloc (by simp) _).alloc (by simp) _).alloc (by simp) _).alloc (by simp) _) (by omega), a4.below (B := w.heap.size + 4) ((Below.refl _ _).alloc (by simp) _) (by omega)⟩
theorem nine_kept (w : World) (n : Nat) (u0 u1 u2 u3 u4 u5 u6 u7 u8 : Value) (k : Nat) (hk : k ≠ n) : (((((((((w.setCell ⟨n, 0, none⟩ u0).setCell ⟨n, 1, none⟩ u1).setCell ⟨n, 2, none⟩ u2).setCell ⟨n, 3, none⟩ u3).setCell ⟨n, 4, none⟩ u4).setCell ⟨n, 5, none⟩ u5).setCell ⟨n, 6, none⟩ u6).setCell ⟨n, 7, none⟩ u7).setCell ⟨n, 8, none⟩ u8).heap[k]? = w.heap[k]? := by
  rw [heap_set _ _ _ _ hk, heap_set _ _ _ _ hk, heap_set _ _ _ _ hk, heap_set _ _ _ _ hk, heap_set _ _ _ _ hk, heap_set _ _ _ _ hk, heap_set _ _ _ _ hk, heap_set _ _ _ _ hk, heap_set _ _ _ _ hk]
/-- the rules as the model makes them -/
theorem def_in {w : World} {g h : Nat} {vs : List Value} (hv : PlainV defNames vs) (hc : ∀ j u, vs[j]? = some u → j ≠ 14 → w.cell? ⟨g, j, none⟩ = some u) (h14 : w.cell? ⟨g, 14, none⟩ = some (.slice (some ⟨h, 0, none⟩) 1 1)) (hh : Lay w h #[.string ⟨#[104, 114, 101, 102]⟩]) : RuIn w (some ⟨g, 0, none⟩) defRu := by
  refine ⟨by simp [defRu, maxLen], Or.inr ⟨g, 0, rfl, fun k hk => ?_⟩⟩
  rw [Nat.zero_add]
  match k, hk with
  | 0, _ =>
    obtain ⟨v0, v1, B, c, v2⟩ := hv.2 0 (by decide)
    exact ⟨hc _ _ v0 (by omega), hc _ _ v1 (by omega), defNames_le _ (List.getElem_mem (l := defNames) (n := 0) (by decide)), B, c, hc _ _ v2 (by omega), Nat.zero_le _, by simp [defRu], Or.inl rfl⟩
  | 1, _ =>
    obtain ⟨v0, v1, B, c, v2⟩ := hv.2 1 (by decide)
    exact ⟨hc _ _ v0 (by omega), hc _ _ v1 (by omega), defNames_le _ (List.getElem_mem (l := defNames) (n := 1) (by decide)), B, c, hc _ _ v2 (by omega), Nat.zero_le _, by simp [defRu], Or.inl rfl⟩
  | 2, _ =>
    obtain ⟨v0, v1, B, c, v2⟩ := hv.2 2 (by decide)
    exact ⟨hc _ _ v0 (by omega), hc _ _ v1 (by omega), defNames_le _ (List.getElem_mem (l := defNames) (n := 2) (by decide)), B, c, hc _ _ v2 (by omega), Nat.zero_le _, by simp [defRu], Or.inl rfl⟩
  | 3, _ =>
    obtain ⟨v0, v1, B, c, v2⟩ := hv.2 3 (by decide)
    exact ⟨hc _ _ v0 (by omega), hc _ _ v1 (by omega), defNames_le _ (List.getElem_mem (l := defNames) (n := 3) (by decide)), B, c, hc _ _ v2 (by omega), Nat.zero_le _, by simp [defRu], Or.inl rfl⟩
  | 4, _ =>
    obtain ⟨v0, v1, B, c, v2⟩ := hv.2 4 (by decide)
    exact ⟨hc _ _ v0 (by omega), hc _ _ v1 (by omega), defNames_le _ (List.getElem_mem (l := defNames) (n := 4) (by decide)), some ⟨h, 0, none⟩, 1, h14, Nat.le_refl _, by simp [defRu, maxLen], Or.inr ⟨h, 0, rfl, fun k hk => by
      match k, hk with
      | 0, _ => exact ⟨hh.1 0, (by decide : (⟨#[104, 114, 101, 102]⟩ : ByteArray).size ≤ maxLen)⟩
      | k + 1, h => exact absurd h (by show ¬ k + 1 < 1; omega)⟩⟩
  | 5, _ =>
    obtain ⟨v0, v1, B, c, v2⟩ := hv.2 5 (by decide)
    exact ⟨hc _ _ v0 (by omega), hc _ _ v1 (by omega), defNames_le _ (List.getElem_mem (l := defNames) (n := 5) (by decide)), B, c, hc _ _ v2 (by omega), Nat.zero_le _, by simp [defRu], Or.inl rfl⟩
  | 6, _ =>
    obtain ⟨v0, v1, B, c, v2⟩ := hv.2 6 (by decide)
    exact ⟨hc _ _ v0 (by omega), hc _ _ v1 (by omega), defNames_le _ (List.getElem_mem (l := defNames) (n := 6) (by decide)), B, c, hc _ _ v2 (by omega), Nat.zero_le _, by simp [defRu], Or.inl rfl⟩
  | 7, _ =>
    obtain ⟨v0, v1, B, c, v2⟩ := hv.2 7 (by decide)
    exact ⟨hc _ _ v0 (by omega), hc _ _ v1 (by omega), defNames_le _ (List.getElem_mem (l := defNames) (n := 7) (by decide)), B, c, hc _ _ v2 (by omega), Nat.zero_le _, by simp [defRu], Or.inl rfl⟩
  | 8, _ =>
    obtain ⟨v0, v1, B, c, v2⟩ := hv.2 8 (by decide)
    exact ⟨hc _ _ v0 (by omega), hc _ _ v1 (by omega), defNames_le _ (List.getElem_mem (l := defNames) (n := 8) (by decide)), B, c, hc _ _ v2 (by omega), Nat.zero_le _, by simp [defRu], Or.inl rfl⟩
  | 9, _ =>
    obtain ⟨v0, v1, B, c, v2⟩ := hv.2 9 (by decide)
    exact ⟨hc _ _ v0 (by omega), hc _ _ v1 (by omega), defNames_le _ (List.getElem_mem (l := defNames) (n := 9) (by decide)), B, c, hc _ _ v2 (by omega), Nat.zero_le _, by simp [defRu], Or.inl rfl⟩
  | k + 10, h => exact absurd h (by simp [defRu])

set_option maxHeartbeats 1000000 in
set_option maxRecDepth 100000 in
theorem specDefault_any (w : World) : Calls Try.prog 24 #[] w fun e w' => ∃ V, e = .returned (.agg #[.bool defC.ha, .bool defC.hb, .slice V.a1 defC.al.length V.c1, .slice V.a2 defC.rm.length V.c2, .slice V.a3 defC.uw.length V.c3, .slice V.a4 defC.at_.length V.c4, .slice V.a5 defC.dp.length V.c5, .bool defC.cm, .bool defC.da]) ∧ CfIn w' defC V ∧ Below w.heap.size w w' := by
  have LB : Lay ((w.alloc (.cells #[.bool false, .bool false, .slice none 0 0, .slice none 0 0, .slice none 0 0, .slice none 0 0, .slice none 0 0, .bool false, .bool false] 34)).alloc (.cells #[.string ⟨#[112]⟩, .string ⟨#[100, 105, 118]⟩, .string ⟨#[98]⟩, .string ⟨#[105]⟩, .string ⟨#[97]⟩, .string ⟨#[117, 108]⟩, .string ⟨#[108, 105]⟩, .string ⟨#[98, 114]⟩, .string ⟨#[104, 49]⟩, .string ⟨#[116, 97, 98, 108, 101]⟩] 9)) w.heap.size #[.bool false, .bool false, .slice none 0 0, .slice none 0 0, .slice none 0 0, .slice none 0 0, .slice none 0 0, .bool false, .bool false] := (Lay.new w #[.bool false, .bool false, .slice none 0 0, .slice none 0 0, .slice none 0 0, .slice none 0 0, .slice none 0 0, .bool false, .bool false] 34).below (B := w.heap.size + 1) ((Below.refl _ _).alloc (by simp) _) (by omega)
  have LN : Lay ((w.alloc (.cells #[.bool false, .bool false, .slice none 0 0, .slice none 0 0, .slice none 0 0, .slice none 0 0, .slice none 0 0, .bool false, .bool false] 34)).alloc (.cells #[.string ⟨#[112]⟩, .string ⟨#[100, 105, 118]⟩, .string ⟨#[98]⟩, .string ⟨#[105]⟩, .string ⟨#[97]⟩, .string ⟨#[117, 108]⟩, .string ⟨#[108, 105]⟩, .string ⟨#[98, 114]⟩, .string ⟨#[104, 49]⟩, .string ⟨#[116, 97, 98, 108, 101]⟩] 9)) (w.heap.size + 1) #[.string ⟨#[112]⟩, .string ⟨#[100, 105, 118]⟩, .string ⟨#[98]⟩, .string ⟨#[105]⟩, .string ⟨#[97]⟩, .string ⟨#[117, 108]⟩, .string ⟨#[108, 105]⟩, .string ⟨#[98, 114]⟩, .string ⟨#[104, 49]⟩, .string ⟨#[116, 97, 98, 108, 101]⟩] := by have h := Lay.new (w.alloc (.cells #[.bool false, .bool false, .slice none 0 0, .slice none 0 0, .slice none 0 0, .slice none 0 0, .slice none 0 0, .bool false, .bool false] 34)) #[.string ⟨#[112]⟩, .string ⟨#[100, 105, 118]⟩, .string ⟨#[98]⟩, .string ⟨#[105]⟩, .string ⟨#[97]⟩, .string ⟨#[117, 108]⟩, .string ⟨#[108, 105]⟩, .string ⟨#[98, 114]⟩, .string ⟨#[104, 49]⟩, .string ⟨#[116, 97, 98, 108, 101]⟩] 9; simpa using h
  have HB0 := Lib.hid (And.intro LB (show Below w.heap.size w ((w.alloc (.cells #[.bool false, .bool false, .slice none 0 0, .slice none 0 0, .slice none 0 0, .slice none 0 0, .slice none 0 0, .bool false, .bool false] 34)).alloc (.cells #[.string ⟨#[112]⟩, .string ⟨#[100, 105, 118]⟩, .string ⟨#[98]⟩, .string ⟨#[105]⟩, .string ⟨#[97]⟩, .string ⟨#[117, 108]⟩, .string ⟨#[108, 105]⟩, .string ⟨#[98, 114]⟩, .string ⟨#[104, 49]⟩, .string ⟨#[116, 97, 98, 108, 101]⟩] 9)) from ((Below.refl _ _).alloc (Nat.le_refl _) _).alloc (by simp) _))
  have HLN := Lib.hid (def_names LN)
  clear LB LN
  go_enter Try.func24, Try.ntmps24
  go_wp2_with fail
  refine (l07Plain_any defNames _ (some ⟨w.heap.size + 1, 0, none⟩) 10 (by decide) HLN.out).mono ?_
  rintro e w1 ⟨v, vs, rfl, hown, hvs, hB⟩
  obtain ⟨g, cap, rfl, hge, hlt, hcell, hfz⟩ := owns_open hown (by decide)
  have hge2 : w.heap.size + 2 ≤ g := by simpa using hge
  obtain ⟨_, _, B4, c4, h14⟩ := hvs.2 4 (by decide)
  have c14 : w1.cell? ⟨g, 14, none⟩ = some (.slice B4 0 c4) := hcell 14 _ h14
  have f14 := hfz 14
  have HV := Lib.hid (And.intro hvs (And.intro hcell (And.intro hlt hge2)))
  have LB1 := HB0.out.1.below hB (by simp; omega)
  have LB5 : Lay ((((((w1.setCell ⟨g, 14, none⟩ (.slice (some ⟨w1.heap.size, 0, none⟩) 1 1)).alloc (.cells #[.string ⟨#[104, 114, 101, 102]⟩] 9)).alloc (.cells #[] 89)).alloc (.cells #[] 89)).alloc (.cells #[.string ⟨#[99, 108, 97, 115, 115]⟩, .string ⟨#[105, 100]⟩, .string ⟨#[116, 105, 116, 108, 101]⟩] 9)).alloc (.cells #[] 9)) w.heap.size _ := LB1.blk (five_kept w1 g 14 _ _ _ _ _ _ w.heap.size (by have := hB.size; simp at this; omega) (by omega))
  obtain ⟨p0, p1, p2, p3, p4, p5, p6, p7, p8⟩ := lay9 LB5
  have z0 := LB5.2 0
  have z1 := LB5.2 1
  have z2 := LB5.2 2
  have z3 := LB5.2 3
  have z4 := LB5.2 4
  have z5 := LB5.2 5
  have z6 := LB5.2 6
  have z7 := LB5.2 7
  have z8 := LB5.2 8
  have HB1 := Lib.hid (HB0.out.2.trans (hB.mono HB0.out.2.size))
  have hne : g ≠ w.heap.size := by omega
  have hne' : w.heap.size ≠ g := by omega
  have hwn : w.heap.size < w1.heap.size := by omega
  have hw1 : w1.heap.size ≠ w.heap.size := by omega
  have hl5 := five_lay w1 g 14 (.slice (some ⟨w1.heap.size, 0, none⟩) 1 1) #[.string ⟨#[104, 114, 101, 102]⟩] #[] #[] #[.string ⟨#[99, 108, 97, 115, 115]⟩, .string ⟨#[105, 100]⟩, .string ⟨#[116, 105, 116, 108, 101]⟩] #[] 9 89 89 9 9
  have HL5 := Lib.hid hl5
  have H14 := Lib.hid c14
  clear hown hvs hB hcell hfz h14 hge LB1 LB5 hl5
  go_wp2
  (try simp only [Exit.inBlock, Exit.then])
  refine bodyPost_ret (v := .agg #[.bool true, .bool true, .slice (some ⟨g, 0, none⟩) defNames.length cap, .slice (some ⟨w1.heap.size + 1, 0, none⟩) 0 0, .slice (some ⟨w1.heap.size + 2, 0, none⟩) 0 0, .slice (some ⟨w1.heap.size + 3, 0, none⟩) 3 3, .slice (some ⟨w1.heap.size + 4, 0, none⟩) 0 0, .bool false, .bool false]) (by simp [results, Try.results24, go_sem, *]) rfl ?_
  have hg9 := (nine_kept _ w.heap.size (.bool true) (.bool true) (.slice (some ⟨g, 0, none⟩) defNames.length cap) (.slice (some ⟨w1.heap.size + 1, 0, none⟩) 0 0) (.slice (some ⟨w1.heap.size + 1 + 1, 0, none⟩) 0 0) (.slice (some ⟨w1.heap.size + 1 + 1 + 1, 0, none⟩) 3 3) (.slice (some ⟨w1.heap.size + 1 + 1 + 1 + 1, 0, none⟩) 0 0) (.bool false) (.bool false) g hne).trans (five_allocs w1 g 14 (.slice (some ⟨w1.heap.size, 0, none⟩) 1 1) (.cells #[.string ⟨#[104, 114, 101, 102]⟩] 9) (.cells #[] 89) (.cells #[] 89) (.cells #[.string ⟨#[99, 108, 97, 115, 115]⟩, .string ⟨#[105, 100]⟩, .string ⟨#[116, 105, 116, 108, 101]⟩] 9) (.cells #[] 9) g HV.out.2.2.1)
  refine ⟨{ a1 := some ⟨g, 0, none⟩, c1 := cap, a2 := some ⟨w1.heap.size + 1, 0, none⟩, c2 := 0, a3 := some ⟨w1.heap.size + 2, 0, none⟩, c3 := 0, a4 := some ⟨w1.heap.size + 3, 0, none⟩, c4 := 3, a5 := some ⟨w1.heap.size + 4, 0, none⟩, c5 := 0 }, rfl, ⟨def_in HV.out.1 (fun j u hj hne14 => ?_) ?_ (HL5.out.1.blk (nine_kept _ w.heap.size (.bool true) (.bool true) (.slice (some ⟨g, 0, none⟩) defNames.length cap) (.slice (some ⟨w1.heap.size + 1, 0, none⟩) 0 0) (.slice (some ⟨w1.heap.size + 1 + 1, 0, none⟩) 0 0) (.slice (some ⟨w1.heap.size + 1 + 1 + 1, 0, none⟩) 3 3) (.slice (some ⟨w1.heap.size + 1 + 1 + 1 + 1, 0, none⟩) 0 0) (.bool false) (.bool false) _ (by omega))), ⟨by simp [defC, maxLen], Or.inl rfl⟩, ⟨by simp [defC, maxLen], Or.inl rfl⟩, ⟨by simp [defC, maxLen], Or.inr ⟨w1.heap.size + 3, 0, rfl, fun k hk => ?_⟩⟩, ⟨by simp [defC, maxLen], Or.inl rfl⟩, Nat.le_refl 3, Nat.le_refl 0⟩, ?_⟩
  · exact (World.cell?_of_block (w := w1.setCell ⟨g, 14, none⟩ (.slice (some ⟨w1.heap.size, 0, none⟩) 1 1)) (a := ⟨g, j, none⟩) hg9).trans ((by rw [World.cell?_setCell_other (h := fun e => by injection e with _ e2; exact hne14 e2.symm)] : (w1.setCell ⟨g, 14, none⟩ (.slice (some ⟨w1.heap.size, 0, none⟩) 1 1)).cell? ⟨g, j, none⟩ = w1.cell? ⟨g, j, none⟩).trans (HV.out.2.1 j u hj))
  · exact (World.cell?_of_block (w := w1.setCell ⟨g, 14, none⟩ (.slice (some ⟨w1.heap.size, 0, none⟩) 1 1)) (a := ⟨g, 14, none⟩) hg9).trans (World.cell?_setCell_same _ _ _ H14.out)
  · have hl := HL5.out.2.blk (nine_kept _ w.heap.size (.bool true) (.bool true) (.slice (some ⟨g, 0, none⟩) defNames.length cap) (.slice (some ⟨w1.heap.size + 1, 0, none⟩) 0 0) (.slice (some ⟨w1.heap.size + 1 + 1, 0, none⟩) 0 0) (.slice (some ⟨w1.heap.size + 1 + 1 + 1, 0, none⟩) 3 3) (.slice (some ⟨w1.heap.size + 1 + 1 + 1 + 1, 0, none⟩) 0 0) (.bool false) (.bool false) _ (by omega))
    match k, hk with
    | 0, _ => exact ⟨hl.1 0, (by decide : (⟨#[99, 108, 97, 115, 115]⟩ : ByteArray).size ≤ maxLen)⟩
    | 1, _ => exact ⟨hl.1 1, (by decide : (⟨#[105, 100]⟩ : ByteArray).size ≤ maxLen)⟩
    | 2, _ => exact ⟨hl.1 2, (by decide : (⟨#[116, 105, 116, 108, 101]⟩ : ByteArray).size ≤ maxLen)⟩
    | k + 3, h => exact absurd h (by simp [defC])
  · have b1 := (HB1.out.setCell (p := ⟨g, 14, none⟩) (show w.heap.size ≤ g by omega) (.slice (some ⟨w1.heap.size, 0, none⟩) 1 1))
    go_grown
end Go.Proofs.Ytbcbmgeoaejlmaa
