import Derived.Test.YtpennadfomnenaaGreatDoorQ24
set_option linter.unusedVariables false
namespace Go.Proofs.YtpennadfomnenaaGreatDoor
open Go.ChangeShapes Go.WideShapes Go.ChangeAt Go.RowKit Go.Deep

theorem staysOpen_any (x : Nd) (b o lo hi : Nat) (w : World) (self : Bool) (h : NdAt w lo hi b o x) :
    Calls Tryz.prog 230 #[.pointer (some ⟨b, o, none⟩), .bool self] w fun e w' => e = .returned (.bool (staysB x.sp x.n self)) ∧ w = w' := by
  have c1 := h.1.2.1
  have H := Lib.hid h
  clear h
  by_cases hs : x.sp = 0
  · have HC : Hid (∀ q, contI x = q → (q != 2) = staysB x.sp x.n self) := Lib.hid fun q hq => by
      subst hq
      have hv : voidB x = inL voidL x.n := by simp [voidB, hs]
      unfold contI staysB
      rw [if_pos hs, ← hv]
      cases voidB x with
      | true => simp
      | false => cases rawB x <;> simp
    rw [hs] at c1
    obtain ⟨q, hq⟩ : ∃ q, contI x = q := ⟨_, rfl⟩
    have HQ := Lib.hid hq
    have HR := Lib.hid (HC.out q hq)
    clear hq hs HC
    go_enter Tryz.func230, Tryz.ntmps230
    go_wp2_with (go_at_call 74; refine (contentOf_any x b o lo hi _ H.out).mono ?_; rintro e w' ⟨rfl, rfl⟩; rw [HQ.out])
    go_ret
    exact ⟨ret_bool HR.out, rfl⟩
  · have hs' : (x.sp != 0) = true := by simpa using hs
    have HR : Hid ((!self) = staysB x.sp x.n self) := Lib.hid (by unfold staysB; rw [if_neg hs])
    clear hs
    go_enter Tryz.func230, Tryz.ntmps230
    go_wp2
    go_ret
    exact ⟨ret_bool HR.out, rfl⟩
/-- the last node of a row, as it is read -/
theorem GRow.lastNd {w : World} {base : Nat} {v : Value} {P : Fo} {k sp : Int} {n t : ByteArray} {al : List (ByteArray × ByteArray)} {kids : Fo} {bl : List Nat} (h : GRow w base v (P.app (.one k sp n t al kids)) bl) :
    ∃ g cap, v = .slice (some ⟨g, 0, none⟩) (P.len + 1) cap ∧ NdAt w 0 w.heap.size g (P.len * 6) ⟨k, sp, n, t, al⟩ := by
  obtain ⟨xs, ho, hv, hn, hb, hg⟩ := h
  obtain ⟨x1, x2, b1, b2, rfl, rfl, i1, i2⟩ := hv.unapp
  obtain ⟨A, K, ca, ck, ba, bk, br, xr, rfl, rfl, hz, h4, h5, ⟨rfl, rfl⟩⟩ := i2
  have hln : (P.app (.one k sp n t al kids)).len = P.len + 1 := by rw [Fo.len_app]; rfl
  rw [hln] at ho
  have hx1 := i1.len
  rcases ho.2 with ⟨_, h0⟩ | ⟨g, cap, cur, rfl, hbs, hblk, hle, _, _, _⟩
  · omega
  · have hc : ∀ j u, j < 6 → ([.int .i64 k, .int .i64 sp, .string n, .string t, .slice A al.length ca, .slice K kids.len ck] : List Value)[j]? = some u → w.cell? ⟨g, P.len * 6 + j, none⟩ = some u := fun j u hj hu => by
      rw [ho.cellAt _ (by omega), List.getElem?_append_right (by omega), hx1, Nat.add_sub_cancel_left]; exact hu
    refine ⟨g, cap, rfl, ⟨⟨hc 0 _ (by omega) rfl, hc 1 _ (by omega) rfl, hc 2 _ (by omega) rfl, hc 3 _ (by omega) rfl, hz.1, hz.2⟩, A, ca, ?_⟩⟩
    rcases h4.2.2 with ⟨e1, e2⟩ | ⟨a, e1, e2, e3⟩
    · rw [e1] at h4 ⊢
      exact ⟨0, 0, by have := hc 4 _ (by omega) rfl; rw [e1] at this; exact this, ⟨h4.1, h4.2.1, fun h => absurd h (Nat.lt_irrefl _)⟩, trivial⟩
    · have hlt := hb a (by rw [e2]; simp)
      exact ⟨a, 0, hc 4 _ (by omega) rfl, ⟨h4.1, h4.2.1, fun _ => ⟨e1, Nat.zero_le _, hlt.2⟩⟩, e3.at⟩
/-- the last node is open from now on -/
theorem Tr.opened {w : World} {bb : Nat} {F P : Fo} {up : List Fr} {v v0 : Value} {ps : List Value} {bF bl : List Nat} {sp : Int} {n : ByteArray} {al : List (ByteArray × ByteArray)} (h : Tr w (bb + 1) F up v v0 ps bF bl) (hF : F = P.app (.one 1 sp n ⟨#[]⟩ al .nil)) (hN : NewAt w bb F v) :
    ∃ g cap bl', v = .slice (some ⟨g, 0, none⟩) (P.len + 1) cap ∧ Tr w (bb + 1) .nil (⟨sp, n, al, P⟩ :: up) (.slice none 0 0) v0 (ps ++ [.pointer (some ⟨g, P.len * 6, none⟩)]) [] bl' ∧ ∀ q ∈ bl', q ∈ ownL v ++ bF ++ bl := by
  obtain ⟨hrow, hup, hnd⟩ := h
  have hln : F.len = P.len + 1 := by rw [hF, Fo.len_app]; rfl
  have hlt := hrow.lt
  obtain ⟨g, cap, rfl, _, _, hc5⟩ := hN
  rw [hln] at hc5 hnd hup hlt ⊢
  rw [Nat.add_sub_cancel] at hc5
  obtain ⟨xs, ho, hv, hn, hb, hg⟩ := hrow
  rw [hF] at hv
  obtain ⟨x1, x2, b1, b2, rfl, rfl, i1, i2⟩ := hv.unapp
  obtain ⟨A, K, ca, ck, ba, bk, br, xr, rfl, rfl, hz, h4, h5, ⟨rfl, rfl⟩⟩ := i2
  have hx1 := i1.len
  rw [hln] at ho
  have hc : w.cell? ⟨g, P.len * 6 + 5, none⟩ = some (.slice K Fo.nil.len ck) := by
    rw [ho.cellAt _ (by omega), List.getElem?_append_right (by omega), hx1, Nat.add_sub_cancel_left]; rfl
  rw [hc5] at hc
  injection hc with hc
  injection hc with hc1 _ hc3
  subst hc1 hc3
  have hbk : bk = [] := by
    rcases h5.2.2 with ⟨_, e⟩ | ⟨c, b', e, _⟩
    · exact e
    · cases e
  subst hbk
  simp only [List.append_nil] at hnd hb hn hg hlt
  obtain ⟨n1, n2, n3⟩ := List.nodup_append.1 hnd
  obtain ⟨n4, n5, n6⟩ := List.nodup_append.1 n1
  have hgm : g ∈ ownL (.slice (some ⟨g, 0, none⟩) (P.len + 1) cap) := mem_ownL.2 rfl
  refine ⟨g, cap, g :: (b1 ++ ba ++ bl), rfl, ⟨GRow.nil w _, ⟨g, cap, x1, b1, ba, A, ca, ps, bl, ho, i1, ⟨hz.1, h4⟩, rfl, hup, rfl, fun q hq => hb q hq⟩, ?_⟩, fun q hq => ?_⟩
  · show ([] ++ [] ++ (g :: (b1 ++ ba ++ bl))).Nodup
    rw [List.nil_append, List.nil_append]
    refine List.nodup_cons.2 ⟨fun hm => ?_, List.nodup_append.2 ⟨n5, n2, fun a ha b hb e => n3 a (List.mem_append.2 (Or.inr ha)) b hb e⟩⟩
    rcases List.mem_append.1 hm with hm | hm
    · exact n6 g hgm g hm rfl
    · exact n3 g (List.mem_append.2 (Or.inl hgm)) g hm rfl
  · simp only [List.append_nil]
    rcases List.mem_cons.1 hq with rfl | hq
    · exact List.mem_append.2 (Or.inl (List.mem_append.2 (Or.inl hgm)))
    · rcases List.mem_append.1 hq with hq | hq
      · exact List.mem_append.2 (Or.inl (List.mem_append.2 (Or.inr hq)))
      · exact List.mem_append.2 (Or.inr hq)
theorem infoPtr : (Tryz.prog.info? 86).map (fun i => (i.zero, i.size, i.bytes)) = some (some (.pointer none), 1, 8) := by kernel_rfl
/-- .. and its pointer is put behind the others -/
theorem BI.opened {w w1 : World} {bb : Nat} {z : Zi} {v v0 pv pv' : Value} {ps : List Value} {bF bl : List Nat} {P : Fo} {sp : Int} {n : ByteArray} {al : List (ByteArray × ByteArray)} {g cap : Nat} (h : BI w bb z v v0 pv ps bF bl) (hF : z.F = P.app (.one 1 sp n ⟨#[]⟩ al .nil)) (hN : NewAt w bb z.F v) (hv : v = .slice (some ⟨g, 0, none⟩) (P.len + 1) cap)
    (hs : w.heap.size ≤ w1.heap.size) (hk : ∀ q, q < w.heap.size → pv.ownBlock ≠ some q → w1.heap[q]? = w.heap[q]?) (hown : w1.ownsRow (bb + 1) 86 1 pv' (ps.length + 1) (ps ++ [.pointer (some ⟨g, P.len * 6, none⟩)])) (hat : pv'.ownBlock = pv.ownBlock ∨ ∃ q, pv'.ownBlock = some q ∧ w.heap.size ≤ q)
    (y : Zi) (hy : y = ⟨.nil, ⟨sp, n, al, P⟩ :: z.up, z.c⟩) (hfit : y.fit) :
    ∃ bl', BI (w1.setCell ⟨bb, 1, none⟩ pv') bb y (.slice none 0 0) v0 pv' (ps ++ [.pointer (some ⟨g, P.len * 6, none⟩)]) [] bl' ∧ ∀ q, FpI bb (.slice none 0 0) pv' [] bl' q → FpI bb v pv bF bl q ∨ w.heap.size ≤ q := by
  obtain ⟨g', cap', bl', e1, r1, r2⟩ := h.tr.opened hF hN
  obtain ⟨rfl, rfl⟩ : g' = g ∧ cap' = cap := by
    rw [e1] at hv
    injection hv with a _ b
    injection a with a
    injection a with a
    exact ⟨a, b⟩
  subst hy
  have hlt := h.tr.lt
  have hbb := (h.lt bb (Or.inl rfl)).2
  have far : ∀ q, bb + 1 ≤ q → (w1.setCell ⟨bb, 1, none⟩ pv').heap[q]? = w1.heap[q]? := fun q hq => Below.heap_setCell w1 ⟨bb, 1, none⟩ _ q (by rintro rfl; exact absurd hq (Nat.not_succ_le_self _))
  have hpn : ∀ q ∈ bl', pv.ownBlock ≠ some q := fun q hq e => h.dis q (mem_ownL.2 e) (r2 q hq)
  have hfl : ∀ q ∈ ownL (.slice none 0 0) ++ [] ++ bl', q ∈ bl' := fun q hq => by simpa [ownL, Value.ownBlock] using hq
  refine ⟨bl', ⟨r1.same (by simpa using hs) fun q hq => ?_, ?_, fun q hq hm => ?_, ?_, hfit⟩, fun q hq => ?_⟩
  · have hq := hfl q hq
    rw [far q (hlt q (r2 q hq)).1, hk q (hlt q (r2 q hq)).2 (hpn q hq)]
  · rw [List.length_append]
    exact ownsRow_same hown fun q hq => far q (World.ownsRow.lt hown q hq).1
  · have hm := hfl q hm
    rcases hat with e | ⟨q', e, e'⟩
    · exact hpn q hm (by rw [← e]; exact mem_ownL.1 hq)
    · have := mem_ownL.1 hq
      rw [e] at this
      injection this with this
      have := hlt q (r2 q hm)
      omega
  · have h0 : Lay w1 bb #[v0, pv, .int .i64 (z.c : Int)] := lay_same h.lay (hk bb hbb fun e => by have := World.ownsRow.lt h.op bb e; omega)
    have := h0.set 1 pv'
    simpa using this
  · rcases hq with hq | hq | hq
    · exact Or.inl (Or.inl hq)
    · rcases hat with e | ⟨q', e, e'⟩
      · exact Or.inl (Or.inr (Or.inl (mem_ownL.2 (by rw [← e]; exact mem_ownL.1 hq))))
      · have := mem_ownL.1 hq
        rw [e] at this
        injection this with this
        exact Or.inr (by omega)
    · exact Or.inl (Or.inr (Or.inr (r2 q (hfl q hq))))
end Go.Proofs.YtpennadfomnenaaGreatDoor
