import Derived.Test.YtlghmcnhdmidnaaDoorBack
import Derived.Test.YtlghmcnhdmidnaaDoorWords
import Derived.Test.YtlghmcnhdmidnaaDoorComment
import Derived.Test.YtlghmcnhdmidnaaDoorAt
import Derived.Test.YtlghmcnhdmidnaaDoorUnImpl
import Derived.Test.YtlghmcnhdmidnaaDoorDigits
import Derived.Laws.BytesArg
import Derived.Laws.IdiomStrings
import Derived.Deep.DeepCutAuto
import Derived.Deep.RegionWith
import Derived.Deep.RegionHeld3
import Derived.BigRegion
namespace Go.Proofs.YtlghmcnhdmidnaaDoor
open Go.ChangeShapes Go.WideShapes Go.ChangeAt Go.RowKit

theorem conv_row {w0 wr W : World} {v : Value} {l : List UInt8} (h : RowOf w0 wr v l) (hB : Below wr.heap.size wr W) : (convert 22 9 v).run Tryd.prog W = .ok (.string ⟨l.toArray⟩) W := by
  obtain ⟨h1, g, cap, rfl⟩ := h
  obtain ⟨_, hc⟩ := h1.cellAt
  exact run_convert_bytes_back W 22 9 5 ⟨g, 0, none⟩ cap l Tryd.underlying22 Tryd.underlying5 Tryd.underlying9 (fun j hj => by
    rw [show (⟨g, 0, none⟩ : Addr).add j = ⟨g, j, none⟩ by cases j <;> simp [Addr.add]]
    exact (hB.cell (p := ⟨g, j, none⟩) (World.block_lt_of_cell? wr ⟨g, j, none⟩ (hc j hj))).trans (hc j hj))
theorem conv_one (L : Nat) (c : UInt8) (n : Nat) (hn : c.toNat = n) (W : World) (h : W.cell? ⟨L, 0, none⟩ = some (.int .u8 (n : Int))) : (convert 22 9 (.slice (some ⟨L, 0, none⟩) 1 1)).run Tryd.prog W = .ok (.string ⟨[c].toArray⟩) W :=
  run_convert_bytes_back W 22 9 5 ⟨L, 0, none⟩ 1 [c] Tryd.underlying22 Tryd.underlying5 Tryd.underlying9 (fun j hj => by
    obtain rfl : j = 0 := by simpa using hj
    rw [← hn] at h
    exact h)
theorem ba_ext {a b : ByteArray} (h : a.data.toList = b.data.toList) : a = b := by
  obtain ⟨⟨x⟩⟩ := a
  obtain ⟨⟨y⟩⟩ := b
  simp at h
  subst h
  rfl
theorem un_whole {n : Nat} (h1 : 1 ≤ n) (h2 : n ≤ 126) : unAns ((⟨#[97, 38, 35]⟩ : ByteArray) ++ (⟨(dec3 n).toArray⟩ : ByteArray) ++ (⟨#[59, 98]⟩ : ByteArray)) = (⟨#[97]⟩ : ByteArray) ++ (⟨[UInt8.ofNat n].toArray⟩ : ByteArray) ++ (⟨#[98]⟩ : ByteArray) := by
  have hd : ((⟨#[97, 38, 35]⟩ : ByteArray) ++ (⟨(dec3 n).toArray⟩ : ByteArray) ++ (⟨#[59, 98]⟩ : ByteArray)).data.toList = 97 :: 38 :: 35 :: (dec3 n ++ [59, 98]) := by
    simp [ByteArray.data_append]
  have hl : (dec3 n).length ≤ 3 := by
    have key : ∀ m : Fin 127, (dec3 m).length ≤ 3 := by decide +kernel
    exact key ⟨n, by omega⟩
  have hs : ((⟨#[97, 38, 35]⟩ : ByteArray) ++ (⟨(dec3 n).toArray⟩ : ByteArray) ++ (⟨#[59, 98]⟩ : ByteArray)).size ≤ 65536 := by
    rw [ByteArray.size_append, ByteArray.size_append]
    have e1 : (⟨(dec3 n).toArray⟩ : ByteArray).size = (dec3 n).length := by simp [ByteArray.size]
    have e2 : (⟨#[97, 38, 35]⟩ : ByteArray).size = 3 := rfl
    have e3 : (⟨#[59, 98]⟩ : ByteArray).size = 2 := rfl
    omega
  rw [unAns, if_pos hs, hd, un_number h1 h2]
  apply ba_ext
  simp [ByteArray.data_append]


set_option maxHeartbeats 4000000 in
set_option maxRecDepth 100000 in
theorem esc_tail (w wo wr : World) (l : List UInt8) (n : Nat) (hn : n ≤ 126) (hL : l = dec3 n) (hn1' : 1 ≤ n) (u0 u1 u2 u3 u4 u5 u6 u7 u9 u10 u11 u12 u13 u14 u15 u16 u17 u18 u19 u20 u21 u22 u23 u24 u25 u26 u27 u28 u29 u30 u31 u32 u33 u34 u35 u36 u37 u38 u39 u40 u41 u42 u43 u44 u45 u46 u47 u48 u49 u50 u51 u52 u53 u54 u55 u56 u57 u58 u59 u60 u61 u62 u63 u64 u65 u66 u67 u68 u69 u70 u71 u72 u73 u74 u75 u76 u77 u78 u79 u80 u81 u82 u83 u84 u85 u86 u87 u88 u89 u90 u91 u92 u93 u94 u95 u96 u97 u98 u99 u100 u101 u102 u103 u104 u105 u106 u107 u108 u109 u110 u111 u112 u113 u114 u115 u116 u117 u118 u119 u120 u121 u122 u123 u124 u125 u126 u127 : Value) (Q : Exit → Act → World → Prop)
    (hrow : ∀ W, Below wo.heap.size wo W → (convert 22 9 u9).run Tryd.prog W = .ok (.string ⟨l.toArray⟩) W)
    (hEx : ∀ W, Below w.heap.size w W → Env W) (hW1 : Below w.heap.size w wr) (hW2 : Below wo.heap.size wo wr)
    (hQp : ∀ c (a : Act) d v w', Q (.panic c) (a.put d v) w' → Q (.panic c) a w')
    (hQ : ∀ (v116 v117 v118 v119 v120 v121 v122 v123 v124 v125 v126 v127 : Value) (w' : World), Below w.heap.size w w' → Q .normal { tmps := #[u0, u1, u2, u3, .bool true, u5, u6, u7, (.int .i64 (n : Int)), u9, u10, u11, u12, u13, u14, u15, u16, u17, u18, u19, u20, u21, u22, u23, u24, u25, u26, u27, u28, u29, u30, u31, u32, u33, u34, u35, u36, u37, u38, u39, u40, u41, u42, u43, u44, u45, u46, u47, u48, u49, u50, u51, u52, u53, u54, u55, u56, u57, u58, u59, u60, u61, u62, u63, u64, u65, u66, u67, u68, u69, u70, u71, u72, u73, u74, u75, u76, u77, u78, u79, u80, u81, u82, u83, u84, u85, u86, u87, u88, u89, u90, u91, u92, u93, u94, u95, u96, u97, u98, u99, u100, u101, u102, u103, u104, u105, u106, u107, u108, u109, u110, u111, u112, u113, u114, u115, v116, v117, v118, v119, v120, v121, v122, v123, v124, v125, v126, v127], defers := [] } w') :
    Code.wp Tryd.prog (Code.region 19 #[{ dst := some 116, op := Op.move (Operand.tmp 9), type := 22, pos := "laws.go:128", after := #[], guard := none }, { dst := some 117, op := Op.convert 22 9 (Operand.tmp 116), type := 9, pos := "laws.go:128", after := #[{ on := 0, ground := Ground.data }], guard := none }, { dst := some 118, op := Op.binOp BinOp.add 9 (Operand.const (Value.string { data := #[97, 38, 35] })) (Operand.tmp 117) 9, type := 9, pos := "laws.go:128", after := #[{ on := 1, ground := Ground.data }], guard := none }, { dst := some 119, op := Op.binOp BinOp.add 9 (Operand.tmp 118) (Operand.const (Value.string { data := #[59, 98] })) 9, type := 9, pos := "laws.go:128", after := #[{ on := 2, ground := Ground.data }], guard := none }, { dst := some 120, op := Op.call { callee := Callee.value (Operand.func 10), args := #[Operand.tmp 119], argTypes := #[9] }, type := 9, pos := "laws.go:128", after := #[{ on := 3, ground := Ground.data }], guard := none }, { dst := some 121, op := Op.move (Operand.tmp 8), type := 3, pos := "laws.go:128", after := #[], guard := none }, { dst := some 122, op := Op.convert 3 5 (Operand.tmp 121), type := 5, pos := "laws.go:128", after := #[{ on := 5, ground := Ground.data }], guard := none }, { dst := some 123, op := Op.buildSlice 22 1 #[(0, Operand.tmp 122)], type := 22, pos := "laws.go:128", after := #[{ on := 6, ground := Ground.data }], guard := none }, { dst := some 124, op := Op.convert 22 9 (Operand.tmp 123), type := 9, pos := "laws.go:128", after := #[{ on := 7, ground := Ground.data }], guard := none }, { dst := some 125, op := Op.binOp BinOp.add 9 (Operand.const (Value.string { data := #[97] })) (Operand.tmp 124) 9, type := 9, pos := "laws.go:128", after := #[{ on := 8, ground := Ground.data }], guard := none }, { dst := some 126, op := Op.binOp BinOp.add 9 (Operand.tmp 125) (Operand.const (Value.string { data := #[98] })) 9, type := 9, pos := "laws.go:128", after := #[{ on := 9, ground := Ground.data }], guard := none }, { dst := some 127, op := Op.binOp BinOp.eql 9 (Operand.tmp 120) (Operand.tmp 126) 9, type := 4, pos := "laws.go:128", after := #[{ on := 4, ground := Ground.data }, { on := 10, ground := Ground.data }], guard := none }, { dst := some 4, op := Op.assign (Operand.tmp 127), type := 4, pos := "laws.go:128", after := #[{ on := 11, ground := Ground.data }, { on := 4, ground := Ground.chain }, { on := 0, ground := Ground.phase }, { on := 1, ground := Ground.phase }, { on := 2, ground := Ground.phase }, { on := 3, ground := Ground.phase }, { on := 4, ground := Ground.phase }, { on := 5, ground := Ground.phase }, { on := 6, ground := Ground.phase }, { on := 7, ground := Ground.phase }, { on := 8, ground := Ground.phase }, { on := 9, ground := Ground.phase }, { on := 10, ground := Ground.phase }, { on := 11, ground := Ground.phase }], guard := none }] true) Q { tmps := #[u0, u1, u2, u3, u4, u5, u6, u7, (.int .i64 (n : Int)), u9, u10, u11, u12, u13, u14, u15, u16, u17, u18, u19, u20, u21, u22, u23, u24, u25, u26, u27, u28, u29, u30, u31, u32, u33, u34, u35, u36, u37, u38, u39, u40, u41, u42, u43, u44, u45, u46, u47, u48, u49, u50, u51, u52, u53, u54, u55, u56, u57, u58, u59, u60, u61, u62, u63, u64, u65, u66, u67, u68, u69, u70, u71, u72, u73, u74, u75, u76, u77, u78, u79, u80, u81, u82, u83, u84, u85, u86, u87, u88, u89, u90, u91, u92, u93, u94, u95, u96, u97, u98, u99, u100, u101, u102, u103, u104, u105, u106, u107, u108, u109, u110, u111, u112, u113, u114, u115, u116, u117, u118, u119, u120, u121, u122, u123, u124, u125, u126, u127], defers := [] } wr := by
  have HL := Lib.hid hL
  have HQ := Lib.hid hQ
  clear hL hQ
  have hn2' : n ≤ 126 := hn
  have hw8 : IntKind.u8.wrap (n : Int) = (n : Int) := by simp [IntKind.wrap, IntKind.bits, IntKind.signed]; omega
  have hcv := hrow
  have hll : l.length ≤ 3 := by
    rw [HL.out]
    have key : ∀ m : Fin 127, (dec3 m).length ≤ 3 := by decide +kernel
    exact key ⟨n, by omega⟩
  have hls : (⟨l.toArray⟩ : ByteArray).size = l.length := by simp [ByteArray.size]
  have a1 : ∀ W, (Op.stringOp .add ⟨#[97, 38, 35]⟩ ⟨l.toArray⟩).run Tryd.prog W = .ok (.string ((⟨#[97, 38, 35]⟩ : ByteArray) ++ (⟨l.toArray⟩ : ByteArray))) W := fun W => run_string_add_sum W _ _ (by have : (⟨#[97, 38, 35]⟩ : ByteArray).size = 3 := rfl; omega)
  have hs1 : ((⟨#[97, 38, 35]⟩ : ByteArray) ++ (⟨l.toArray⟩ : ByteArray)).size = 3 + l.length := by rw [ByteArray.size_append, hls]; rfl
  have a2 : ∀ W, (Op.stringOp .add ((⟨#[97, 38, 35]⟩ : ByteArray) ++ (⟨l.toArray⟩ : ByteArray)) ⟨#[59, 98]⟩).run Tryd.prog W = .ok (.string (((⟨#[97, 38, 35]⟩ : ByteArray) ++ (⟨l.toArray⟩ : ByteArray)) ++ (⟨#[59, 98]⟩ : ByteArray))) W := fun W => run_string_add_sum W _ _ (by have : (⟨#[59, 98]⟩ : ByteArray).size = 2 := rfl; omega)
  have a3 : ∀ W, (Op.stringOp .add ⟨#[97]⟩ ⟨[UInt8.ofNat n].toArray⟩).run Tryd.prog W = .ok (.string ((⟨#[97]⟩ : ByteArray) ++ (⟨[UInt8.ofNat n].toArray⟩ : ByteArray))) W := fun W => run_string_add_sum W _ _ (by have e1 : (⟨#[97]⟩ : ByteArray).size = 1 := rfl; have e2 : (⟨[UInt8.ofNat n].toArray⟩ : ByteArray).size = 1 := rfl; omega)
  have hr1 : ((⟨#[97]⟩ : ByteArray) ++ (⟨[UInt8.ofNat n].toArray⟩ : ByteArray)).size = 2 := by rw [ByteArray.size_append]; rfl
  have a4 : ∀ W, (Op.stringOp .add ((⟨#[97]⟩ : ByteArray) ++ (⟨[UInt8.ofNat n].toArray⟩ : ByteArray)) ⟨#[98]⟩).run Tryd.prog W = .ok (.string (((⟨#[97]⟩ : ByteArray) ++ (⟨[UInt8.ofNat n].toArray⟩ : ByteArray)) ++ (⟨#[98]⟩ : ByteArray))) W := fun W => run_string_add_sum W _ _ (by have e1 : (⟨#[98]⟩ : ByteArray).size = 1 := rfl; omega)
  have iS : ∀ W, Env W → Calls Tryd.prog 10 #[.string (((⟨#[97, 38, 35]⟩ : ByteArray) ++ (⟨l.toArray⟩ : ByteArray)) ++ (⟨#[59, 98]⟩ : ByteArray))] W fun e w' => e = .returned (.string (((⟨#[97]⟩ : ByteArray) ++ (⟨[UInt8.ofNat n].toArray⟩ : ByteArray)) ++ (⟨#[98]⟩ : ByteArray))) ∧ Below W.heap.size W w' := fun W h => by
    have := implUnescape_any (((⟨#[97, 38, 35]⟩ : ByteArray) ++ (⟨l.toArray⟩ : ByteArray)) ++ (⟨#[59, 98]⟩ : ByteArray)) W h
    rw [show unAns (((⟨#[97, 38, 35]⟩ : ByteArray) ++ (⟨l.toArray⟩ : ByteArray)) ++ (⟨#[59, 98]⟩ : ByteArray)) = (((⟨#[97]⟩ : ByteArray) ++ (⟨[UInt8.ofNat n].toArray⟩ : ByteArray)) ++ (⟨#[98]⟩ : ByteArray)) by rw [HL.out]; exact un_whole hn1' hn2'] at this
    exact this
  have hcn : (UInt8.ofNat n).toNat = n := by simp; omega
  have hb0 : Below w.heap.size w wr.drew := hW1.drew
  have hr0 : Below wo.heap.size wo wr.drew := hW2.drew
  clear hs1 hr1 hls hll
  refine wp_region_held_drew (S := fun W => (convert 22 9 u9).run Tryd.prog W = .ok (.string ⟨l.toArray⟩) W) (by kernel_rfl) (hcv _ hr0) (fun hHeld => ?_)
  generalize wr.drew = W0 at hb0 hr0 hHeld ⊢
  refine wpAnyH_take (i := 0) (v := u9) rfl (by kernel_rfl) (by kernel_rfl) (by kernel_rfl) (fun _ _ _ h => hQp _ _ _ _ _ h) (Or.inl ⟨by rfl, fun w hSw => by (try dsimp only at hSw); go_simp⟩) (by assumption) ?_; (try simp only [Act.put, List.setIfInBounds_toArray, List.set_cons_zero, List.set_cons_succ, List.getElem_toArray, List.getElem_cons_zero])
  refine wpAnyH_take (i := 1) (v := .string ⟨l.toArray⟩) rfl (by kernel_rfl) (by kernel_rfl) (by kernel_rfl) (fun _ _ _ h => hQp _ _ _ _ _ h) (Or.inl ⟨by rfl, fun w hSw => by (try dsimp only at hSw); go_simp⟩) (by assumption) ?_; (try simp only [Act.put, List.setIfInBounds_toArray, List.set_cons_zero, List.set_cons_succ, List.getElem_toArray, List.getElem_cons_zero, List.getElem_cons_succ])
  refine wpAnyH_take (i := 2) (v := .string ((⟨#[97, 38, 35]⟩ : ByteArray) ++ (⟨l.toArray⟩ : ByteArray))) rfl (by kernel_rfl) (by kernel_rfl) (by kernel_rfl) (fun _ _ _ h => hQp _ _ _ _ _ h) (Or.inl ⟨by rfl, fun w hSw => by (try dsimp only at hSw); go_simp⟩) (by assumption) ?_; (try simp only [Act.put, List.setIfInBounds_toArray, List.set_cons_zero, List.set_cons_succ, List.getElem_toArray, List.getElem_cons_zero, List.getElem_cons_succ])
  refine wpAnyH_take (i := 3) (v := .string (((⟨#[97, 38, 35]⟩ : ByteArray) ++ (⟨l.toArray⟩ : ByteArray)) ++ (⟨#[59, 98]⟩ : ByteArray))) rfl (by kernel_rfl) (by kernel_rfl) (by kernel_rfl) (fun _ _ _ h => hQp _ _ _ _ _ h) (Or.inl ⟨by rfl, fun w hSw => by (try dsimp only at hSw); go_simp⟩) (by assumption) ?_; (try simp only [Act.put, List.setIfInBounds_toArray, List.set_cons_zero, List.set_cons_succ, List.getElem_toArray, List.getElem_cons_zero, List.getElem_cons_succ])
  refine wpAnyH_take (i := 5) (v := .int .i64 (n : Int)) rfl (by kernel_rfl) (by kernel_rfl) (by kernel_rfl) (fun _ _ _ h => hQp _ _ _ _ _ h) (Or.inl ⟨by rfl, fun w hSw => by (try dsimp only at hSw); go_simp⟩) (by assumption) ?_; (try simp only [Act.put, List.setIfInBounds_toArray, List.set_cons_zero, List.set_cons_succ, List.getElem_toArray, List.getElem_cons_zero, List.getElem_cons_succ])
  refine wpAnyH_take (i := 6) (v := .int .u8 (n : Int)) rfl (by kernel_rfl) (by kernel_rfl) (by kernel_rfl) (fun _ _ _ h => hQp _ _ _ _ _ h) (Or.inl ⟨by rfl, fun w hSw => by (try dsimp only at hSw); go_simp⟩) (by assumption) ?_; (try simp only [Act.put, List.setIfInBounds_toArray, List.set_cons_zero, List.set_cons_succ, List.getElem_toArray, List.getElem_cons_zero, List.getElem_cons_succ])
  refine wpAnyH_ready (rs := [4, 7]) (by kernel_rfl) (by simp) ?_
  refine AllReadyH.cons rfl (fun K hK => ?_) (AllReadyH.cons rfl (fun K hK => ?_) AllReadyH.nil)
  · skip
    go_simp
    refine (iS _ (hEx _ hb0)).mono ?_
    rintro e w5 ⟨rfl, h5⟩
    have hb5 := hb0.trans (h5.mono hb0.size)
    have hr5 := hr0.trans (h5.mono hr0.size)
    (try go_wp2_with fail)
    refine hK.out _ _ (hcv _ hr5) (fun hHeld => ?_)
    clear hK K
    (try simp only [Act.put, List.setIfInBounds_toArray, List.set_cons_zero, List.set_cons_succ, List.getElem_toArray, List.getElem_cons_zero, List.getElem_cons_succ])
    refine wpAnyH_ready (rs := [7]) (by kernel_rfl) (by simp) ?_
    refine AllReadyH.cons rfl (fun K hK => ?_) AllReadyH.nil
    go_simp
    have hb6 : Below w.heap.size w (w5.alloc (.cells #[.int .u8 (n : Int)] 5)) := hb5.alloc hb5.size _
    have hr6 : Below wo.heap.size wo (w5.alloc (.cells #[.int .u8 (n : Int)] 5)) := hr5.alloc hr5.size _
    have hcell : (w5.alloc (.cells #[.int .u8 (n : Int)] 5)).cell? ⟨w5.heap.size, 0, none⟩ = some (.int .u8 (n : Int)) := by simp
    refine hK.out _ _ (hcv _ hr6) (fun hHeld => ?_)
    clear hK K
    (try simp only [Act.put, List.setIfInBounds_toArray, List.set_cons_zero, List.set_cons_succ, List.getElem_toArray, List.getElem_cons_zero, List.getElem_cons_succ])
    refine wpAnyH_ready (rs := [8]) (by kernel_rfl) (by simp) ?_
    refine AllReadyH.cons rfl (fun K hK => ?_) AllReadyH.nil
    have h1 := conv_one w5.heap.size (UInt8.ofNat n) n hcn _ hcell
    go_simp
    refine hK.out _ _ (hcv _ hr6) (fun hHeld => ?_)
    clear hK K h1
    (try simp only [Act.put, List.setIfInBounds_toArray, List.set_cons_zero, List.set_cons_succ, List.getElem_toArray, List.getElem_cons_zero, List.getElem_cons_succ])
    refine wpAnyH_take (i := 9) (v := .string ((⟨#[97]⟩ : ByteArray) ++ (⟨[UInt8.ofNat n].toArray⟩ : ByteArray))) rfl (by kernel_rfl) (by kernel_rfl) (by kernel_rfl) (fun _ _ _ h => hQp _ _ _ _ _ h) (Or.inl ⟨by rfl, fun w hSw => by (try dsimp only at hSw); go_simp⟩) (by assumption) ?_; (try simp only [Act.put, List.setIfInBounds_toArray, List.set_cons_zero, List.set_cons_succ, List.getElem_toArray, List.getElem_cons_zero, List.getElem_cons_succ])
    refine wpAnyH_take (i := 10) (v := .string (((⟨#[97]⟩ : ByteArray) ++ (⟨[UInt8.ofNat n].toArray⟩ : ByteArray)) ++ (⟨#[98]⟩ : ByteArray))) rfl (by kernel_rfl) (by kernel_rfl) (by kernel_rfl) (fun _ _ _ h => hQp _ _ _ _ _ h) (Or.inl ⟨by rfl, fun w hSw => by (try dsimp only at hSw); go_simp⟩) (by assumption) ?_; (try simp only [Act.put, List.setIfInBounds_toArray, List.set_cons_zero, List.set_cons_succ, List.getElem_toArray, List.getElem_cons_zero, List.getElem_cons_succ])
    refine wpAnyH_take (i := 11) (v := .bool true) rfl (by kernel_rfl) (by kernel_rfl) (by kernel_rfl) (fun _ _ _ h => hQp _ _ _ _ _ h) (Or.inl ⟨by rfl, fun w hSw => by (try dsimp only at hSw); go_simp⟩) (by assumption) ?_; (try simp only [Act.put, List.setIfInBounds_toArray, List.set_cons_zero, List.set_cons_succ, List.getElem_toArray, List.getElem_cons_zero, List.getElem_cons_succ])
    refine wpAnyH_take (i := 12) (v := .bool true) rfl (by kernel_rfl) (by kernel_rfl) (by kernel_rfl) (fun _ _ _ h => hQp _ _ _ _ _ h) (Or.inl ⟨by rfl, fun w hSw => by (try dsimp only at hSw); go_simp⟩) (by assumption) ?_; (try simp only [Act.put, List.setIfInBounds_toArray, List.set_cons_zero, List.set_cons_succ, List.getElem_toArray, List.getElem_cons_zero, List.getElem_cons_succ])
    refine wpAnyH_done (by kernel_rfl) ?_ _
    exact HQ.out _ _ _ _ _ _ _ _ _ _ _ _ _ hb6
  · skip
    go_simp
    have hb6 : Below w.heap.size w (W0.alloc (.cells #[.int .u8 (n : Int)] 5)) := hb0.alloc hb0.size _
    have hr6 : Below wo.heap.size wo (W0.alloc (.cells #[.int .u8 (n : Int)] 5)) := hr0.alloc hr0.size _
    have hcell : (W0.alloc (.cells #[.int .u8 (n : Int)] 5)).cell? ⟨W0.heap.size, 0, none⟩ = some (.int .u8 (n : Int)) := by simp
    refine hK.out _ _ (hcv _ hr6) (fun hHeld => ?_)
    clear hK K
    (try simp only [Act.put, List.setIfInBounds_toArray, List.set_cons_zero, List.set_cons_succ, List.getElem_toArray, List.getElem_cons_zero, List.getElem_cons_succ])
    refine wpAnyH_ready (rs := [4, 8]) (by kernel_rfl) (by simp) ?_
    refine AllReadyH.cons rfl (fun K hK => ?_) (AllReadyH.cons rfl (fun K hK => ?_) AllReadyH.nil)
    · skip
      go_simp
      refine (iS _ (hEx _ hb6)).mono ?_
      rintro e w5 ⟨rfl, h5⟩
      have hb5 := hb6.trans (h5.mono hb6.size)
      have hr5 := hr6.trans (h5.mono hr6.size)
      (try go_wp2_with fail)
      refine hK.out _ _ (hcv _ hr5) (fun hHeld => ?_)
      clear hK K
      (try simp only [Act.put, List.setIfInBounds_toArray, List.set_cons_zero, List.set_cons_succ, List.getElem_toArray, List.getElem_cons_zero, List.getElem_cons_succ])
      have hcell5 := (h5.cell (p := ⟨W0.heap.size, 0, none⟩) (by simp)).trans hcell
      refine wpAnyH_ready (rs := [8]) (by kernel_rfl) (by simp) ?_
      refine AllReadyH.cons rfl (fun K hK => ?_) AllReadyH.nil
      have h1 := conv_one W0.heap.size (UInt8.ofNat n) n hcn _ hcell5
      go_simp
      refine hK.out _ _ (hcv _ hr5) (fun hHeld => ?_)
      clear hK K h1
      (try simp only [Act.put, List.setIfInBounds_toArray, List.set_cons_zero, List.set_cons_succ, List.getElem_toArray, List.getElem_cons_zero, List.getElem_cons_succ])
      refine wpAnyH_take (i := 9) (v := .string ((⟨#[97]⟩ : ByteArray) ++ (⟨[UInt8.ofNat n].toArray⟩ : ByteArray))) rfl (by kernel_rfl) (by kernel_rfl) (by kernel_rfl) (fun _ _ _ h => hQp _ _ _ _ _ h) (Or.inl ⟨by rfl, fun w hSw => by (try dsimp only at hSw); go_simp⟩) (by assumption) ?_; (try simp only [Act.put, List.setIfInBounds_toArray, List.set_cons_zero, List.set_cons_succ, List.getElem_toArray, List.getElem_cons_zero, List.getElem_cons_succ])
      refine wpAnyH_take (i := 10) (v := .string (((⟨#[97]⟩ : ByteArray) ++ (⟨[UInt8.ofNat n].toArray⟩ : ByteArray)) ++ (⟨#[98]⟩ : ByteArray))) rfl (by kernel_rfl) (by kernel_rfl) (by kernel_rfl) (fun _ _ _ h => hQp _ _ _ _ _ h) (Or.inl ⟨by rfl, fun w hSw => by (try dsimp only at hSw); go_simp⟩) (by assumption) ?_; (try simp only [Act.put, List.setIfInBounds_toArray, List.set_cons_zero, List.set_cons_succ, List.getElem_toArray, List.getElem_cons_zero, List.getElem_cons_succ])
      refine wpAnyH_take (i := 11) (v := .bool true) rfl (by kernel_rfl) (by kernel_rfl) (by kernel_rfl) (fun _ _ _ h => hQp _ _ _ _ _ h) (Or.inl ⟨by rfl, fun w hSw => by (try dsimp only at hSw); go_simp⟩) (by assumption) ?_; (try simp only [Act.put, List.setIfInBounds_toArray, List.set_cons_zero, List.set_cons_succ, List.getElem_toArray, List.getElem_cons_zero, List.getElem_cons_succ])
      refine wpAnyH_take (i := 12) (v := .bool true) rfl (by kernel_rfl) (by kernel_rfl) (by kernel_rfl) (fun _ _ _ h => hQp _ _ _ _ _ h) (Or.inl ⟨by rfl, fun w hSw => by (try dsimp only at hSw); go_simp⟩) (by assumption) ?_; (try simp only [Act.put, List.setIfInBounds_toArray, List.set_cons_zero, List.set_cons_succ, List.getElem_toArray, List.getElem_cons_zero, List.getElem_cons_succ])
      refine wpAnyH_done (by kernel_rfl) ?_ _
      exact HQ.out _ _ _ _ _ _ _ _ _ _ _ _ _ hb5
    · skip
      have h1 := conv_one W0.heap.size (UInt8.ofNat n) n hcn _ hcell
      go_simp
      refine hK.out _ _ (hcv _ hr6) (fun hHeld => ?_)
      clear hK K h1
      (try simp only [Act.put, List.setIfInBounds_toArray, List.set_cons_zero, List.set_cons_succ, List.getElem_toArray, List.getElem_cons_zero, List.getElem_cons_succ])
      refine wpAnyH_take (i := 9) (v := .string ((⟨#[97]⟩ : ByteArray) ++ (⟨[UInt8.ofNat n].toArray⟩ : ByteArray))) rfl (by kernel_rfl) (by kernel_rfl) (by kernel_rfl) (fun _ _ _ h => hQp _ _ _ _ _ h) (Or.inl ⟨by rfl, fun w hSw => by (try dsimp only at hSw); go_simp⟩) (by assumption) ?_; (try simp only [Act.put, List.setIfInBounds_toArray, List.set_cons_zero, List.set_cons_succ, List.getElem_toArray, List.getElem_cons_zero, List.getElem_cons_succ])
      refine wpAnyH_take (i := 10) (v := .string (((⟨#[97]⟩ : ByteArray) ++ (⟨[UInt8.ofNat n].toArray⟩ : ByteArray)) ++ (⟨#[98]⟩ : ByteArray))) rfl (by kernel_rfl) (by kernel_rfl) (by kernel_rfl) (fun _ _ _ h => hQp _ _ _ _ _ h) (Or.inl ⟨by rfl, fun w hSw => by (try dsimp only at hSw); go_simp⟩) (by assumption) ?_; (try simp only [Act.put, List.setIfInBounds_toArray, List.set_cons_zero, List.set_cons_succ, List.getElem_toArray, List.getElem_cons_zero, List.getElem_cons_succ])
      refine wpAnyH_ready (rs := [4]) (by kernel_rfl) (by simp) ?_
      refine AllReadyH.cons rfl (fun K hK => ?_) AllReadyH.nil
      go_simp
      refine (iS _ (hEx _ hb6)).mono ?_
      rintro e w5 ⟨rfl, h5⟩
      have hb5 := hb6.trans (h5.mono hb6.size)
      have hr5 := hr6.trans (h5.mono hr6.size)
      (try go_wp2_with fail)
      refine hK.out _ _ (hcv _ hr5) (fun hHeld => ?_)
      clear hK K
      (try simp only [Act.put, List.setIfInBounds_toArray, List.set_cons_zero, List.set_cons_succ, List.getElem_toArray, List.getElem_cons_zero, List.getElem_cons_succ])
      refine wpAnyH_take (i := 11) (v := .bool true) rfl (by kernel_rfl) (by kernel_rfl) (by kernel_rfl) (fun _ _ _ h => hQp _ _ _ _ _ h) (Or.inl ⟨by rfl, fun w hSw => by (try dsimp only at hSw); go_simp⟩) (by assumption) ?_; (try simp only [Act.put, List.setIfInBounds_toArray, List.set_cons_zero, List.set_cons_succ, List.getElem_toArray, List.getElem_cons_zero, List.getElem_cons_succ])
      refine wpAnyH_take (i := 12) (v := .bool true) rfl (by kernel_rfl) (by kernel_rfl) (by kernel_rfl) (fun _ _ _ h => hQp _ _ _ _ _ h) (Or.inl ⟨by rfl, fun w hSw => by (try dsimp only at hSw); go_simp⟩) (by assumption) ?_; (try simp only [Act.put, List.setIfInBounds_toArray, List.set_cons_zero, List.set_cons_succ, List.getElem_toArray, List.getElem_cons_zero, List.getElem_cons_succ])
      refine wpAnyH_done (by kernel_rfl) ?_ _
      exact HQ.out _ _ _ _ _ _ _ _ _ _ _ _ _ hb5
end Go.Proofs.YtlghmcnhdmidnaaDoor
