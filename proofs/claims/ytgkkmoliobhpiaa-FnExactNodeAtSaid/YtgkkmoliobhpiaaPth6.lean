import Derived.Test.YtgkkmoliobhpiaaPth5
namespace Go.Proofs.Ytgkkmoliobhpiaa
open Go.ChangeShapes Go.WideShapes Go.ChangeAt Go.RowKit Go.Deep

/-- the rows of a node within some blocks -/
structure NR (w : World) (f : Fo) (A : Option Addr) (ca : Nat) (K : Option Addr) (ck : Nat) (ba bk : List Nat) (lo hi : Nat) : Prop where
  al : f.hal.length ≤ ca ∧ f.hal.length ≤ maxLen ∧ AlRow w A f.hal ba
  ks : f.hkids.len ≤ ck ∧ f.hkids.len ≤ maxLen ∧ KRow w K f.hkids bk
  nd : (ba ++ bk).Nodup
  at' : ∀ q ∈ ba ++ bk, lo ≤ q ∧ q < hi
  le : hi ≤ w.heap.size
theorem NR.of {w : World} {f : Fo} {A : Option Addr} {ca : Nat} {K : Option Addr} {ck : Nat} {ba bk : List Nat} {lo : Nat} (h : NodeRows w f A ca K ck ba bk lo) : NR w f A ca K ck ba bk lo w.heap.size := ⟨h.1, h.2.1, h.2.2.1, h.2.2.2, Nat.le_refl _⟩
theorem NR.same {w w' : World} {f : Fo} {A : Option Addr} {ca : Nat} {K : Option Addr} {ck : Nat} {ba bk : List Nat} {lo hi : Nat} (h : NR w f A ca K ck ba bk lo hi) (hs : w.heap.size ≤ w'.heap.size) (hb : ∀ q ∈ ba ++ bk, w'.heap[q]? = w.heap[q]?) : NR w' f A ca K ck ba bk lo hi :=
  ⟨⟨h.al.1, h.al.2.1, h.al.2.2.same fun q hq => hb q (by simp [hq])⟩, ⟨h.ks.1, h.ks.2.1, h.ks.2.2.same fun q hq => hb q (by simp [hq])⟩, h.nd, h.at', Nat.le_trans h.le hs⟩
theorem NR.next {w w' : World} {f : Fo} {A : Option Addr} {ca : Nat} {K : Option Addr} {ck : Nat} {ba bk : List Nat} {lo hi : Nat} (h : NR w f A ca K ck ba bk lo hi) (hB : Below w.heap.size w w') : NR w' f A ca K ck ba bk lo hi :=
  h.same hB.size fun q hq => hB.block q (by have := (h.at' q hq).2; have := h.le; omega)
theorem NR.only {w w' : World} {f : Fo} {A : Option Addr} {ca : Nat} {K : Option Addr} {ck : Nat} {ba bk : List Nat} {lo hi : Nat} (h : NR w f A ca K ck ba bk lo hi) {cs : List Nat} (hB : OnlyAt w w' cs) (hc : ∀ k ∈ cs, ¬ (lo ≤ k ∧ k < hi)) : NR w' f A ca K ck ba bk lo hi :=
  h.same hB.size fun q hq => hB.block q (by have := (h.at' q hq).2; have := h.le; omega) (fun e => hc q e (h.at' q hq))
theorem al_read {w : World} {A : Option Addr} {al : List (ByteArray × ByteArray)} {ba : List Nat} {lo hi : Nat} (h : AlRow w A al ba) (hl : al.length ≤ maxLen) (hb : ∀ q ∈ ba, lo ≤ q ∧ q < hi) : ∃ b, RowAt lo hi A al.length b 0 ∧ AsAt w b 0 al := by
  rcases h with ⟨rfl, rfl⟩ | ⟨a, rfl, rfl, h3⟩
  · exact ⟨0, ⟨hl, fun hp => absurd hp (Nat.lt_irrefl _)⟩, trivial⟩
  · have := hb a (by simp)
    exact ⟨a, ⟨hl, fun _ => ⟨rfl, this.1, this.2⟩⟩, h3.at⟩
theorem k_read {w : World} {A : Option Addr} {G : Fo} {bs : List Nat} {lo hi : Nat} (h : KRow w A G bs) (hl : G.len ≤ maxLen) (hb : ∀ q ∈ bs, lo ≤ q ∧ q < hi) : ∃ b, RowAt lo hi A G.len b 0 ∧ FoAt w lo hi b 0 G := by
  rcases h with ⟨h0, _⟩ | ⟨c, b', e1, e2, e3⟩
  · refine ⟨0, ⟨hl, fun hp => by omega⟩, ?_⟩
    cases G with
    | nil => trivial
    | cons _ _ _ _ _ _ _ => simp [Fo.len] at h0
  · have hc := hb c (by rw [e2]; simp)
    exact ⟨c, ⟨hl, fun _ => ⟨e1, hc.1, hc.2⟩⟩, e3.at fun k hk => hb k (by rw [e2]; simp [hk])⟩
theorem eqNR {w : World} {f : Fo} {A A' : Option Addr} {ca ca' : Nat} {K K' : Option Addr} {ck ck' : Nat} {ba bk ba' bk' : List Nat} {lo hi lo' hi' : Nat} (h : NR w f A ca K ck ba bk lo hi) (h' : NR w f A' ca' K' ck' ba' bk' lo' hi') :
    Calls Try.prog 16 #[.agg #[.int .i64 f.hk, .int .i64 f.hsp, .string f.hn, .string f.ht, .slice A f.hal.length ca, .slice K f.hkids.len ck], .agg #[.int .i64 f.hk, .int .i64 f.hsp, .string f.hn, .string f.ht, .slice A' f.hal.length ca', .slice K' f.hkids.len ck']] w fun e w' =>
      e = .returned (.bool true) ∧ Below w.heap.size w w' := by
  obtain ⟨b, a1, a2⟩ := al_read h.al.2.2 h.al.2.1 fun q hq => h.at' q (by simp [hq])
  obtain ⟨kb, k1, k2⟩ := k_read h.ks.2.2 h.ks.2.1 fun q hq => h.at' q (by simp [hq])
  obtain ⟨b', a1', a2'⟩ := al_read h'.al.2.2 h'.al.2.1 fun q hq => h'.at' q (by simp [hq])
  obtain ⟨kb', k1', k2'⟩ := k_read h'.ks.2.2 h'.ks.2.1 fun q hq => h'.at' q (by simp [hq])
  exact eqNode_same _ _ _ _ _ _ (eqNodeS_same _) w A K A' K' ca ck ca' ck' b 0 kb 0 b' 0 kb' 0 lo hi lo' hi' a1 a2 k1 k2 h.le a1' a2' k1' k2' h'.le
/-- the same rows, marked -/
structure MR (w : World) (al : List (ByteArray × ByteArray)) (G : Fo) (A K : Option Addr) (ba bk : List Nat) (lo hi : Nat) : Prop where
  ra : al.length ≤ maxLen ∧ AlRow w A (markAl al 1) ba
  rk : G.len ≤ maxLen ∧ KRow w K (markFo G (1 + 2 * al.length)) bk
  at' : ∀ q ∈ ba ++ bk, lo ≤ q ∧ q < hi
  le : hi ≤ w.heap.size
theorem MR.next {w w' : World} {al : List (ByteArray × ByteArray)} {G : Fo} {A K : Option Addr} {ba bk : List Nat} {lo hi : Nat} (h : MR w al G A K ba bk lo hi) (hB : Below w.heap.size w w') : MR w' al G A K ba bk lo hi :=
  ⟨⟨h.ra.1, h.ra.2.same fun q hq => hB.block q (by have := (h.at' q (by simp [hq])).2; have := h.le; omega)⟩, ⟨h.rk.1, h.rk.2.same fun q hq => hB.block q (by have := (h.at' q (by simp [hq])).2; have := h.le; omega)⟩, h.at', Nat.le_trans h.le hB.size⟩

set_option maxHeartbeats 1000000 in
theorem markNR {w : World} {k sp : Int} {n t : ByteArray} {al : List (ByteArray × ByteArray)} {G : Fo} {A K : Option Addr} {ca ck : Nat} {ba bk : List Nat} {lo hi : Nat} (hal : al.length ≤ maxLen ∧ AlRow w A al ba) (hks : G.len ≤ maxLen ∧ KRow w K G bk) (hnd : (ba ++ bk).Nodup) (hat : ∀ q ∈ ba ++ bk, lo ≤ q ∧ q < hi) (hle : hi ≤ w.heap.size)
    (hc : 1 + 2 * al.length + G.cnt ≤ 1073741824) :
    Calls Try.prog 21 #[.agg #[.int .i64 k, .int .i64 sp, .string n, .string t, .slice A al.length ca, .slice K G.len ck], .int .i64 1] w fun e w' =>
      e = .returned (.int .i64 ((1 + 2 * al.length + G.cnt : Nat) : Int)) ∧ MR w' al G A K ba bk lo hi ∧ OnlyAt w w' (ba ++ bk) := by
  have hlt : ∀ q ∈ ba ++ bk, q < w.heap.size := fun q hq => by have := (hat q hq).2; omega
  have HL := Lib.hid (Lay.new w #[.int .i64 k, .int .i64 sp, .string n, .string t, .slice A al.length ca, .slice K G.len ck] 37)
  have HA : Hid (AlRow (w.alloc (.cells #[.int .i64 k, .int .i64 sp, .string n, .string t, .slice A al.length ca, .slice K G.len ck] 37)) A al ba) := Lib.hid (hal.2.same fun q hq => Below.heap_alloc _ _ _ (hlt q (by simp [hq])))
  have HK : Hid (KRow (w.alloc (.cells #[.int .i64 k, .int .i64 sp, .string n, .string t, .slice A al.length ca, .slice K G.len ck] 37)) K G bk) := Lib.hid (hks.2.same fun q hq => Below.heap_alloc _ _ _ (hlt q (by simp [hq])))
  have HB : Hid (OnlyAt w (w.alloc (.cells #[.int .i64 k, .int .i64 sp, .string n, .string t, .slice A al.length ca, .slice K G.len ck] 37)) (ba ++ bk)) := Lib.hid ((But.refl _ _).alloc _)
  have HQ := Lib.hid (And.intro hal.1 (And.intro hks.1 (And.intro hnd (And.intro hat (And.intro hle hlt)))))
  clear hal hks hnd hat hle hlt
  go_enter Try.func21, Try.ntmps21
  go_wp2_with fail
  refine (markAttrS_any al 1 _ A ca ba (Nat.le_refl _) (by omega) HA.out).mono ?_
  rintro e w1 ⟨rfl, hA1, hB1⟩
  obtain ⟨_, _, hnd, hat, hle, hlt⟩ := HQ.out
  have hnb : w.heap.size ∉ ba := fun h => by have := hlt _ (List.mem_append_left bk h); omega
  have e5 : w1.cell? ⟨w.heap.size, 5, none⟩ = some (.slice K G.len ck) := (hB1.cell (p := ⟨w.heap.size, 5, none⟩) (by simp) hnb).trans (HL.out.1 5)
  have HA1 := Lib.hid hA1
  have HK1 : Hid (KRow w1 K G bk) := Lib.hid (HK.out.same fun q hq => hB1.block q (by have := hlt q (by simp [hq]); simp; omega) (fun h => (List.nodup_append.1 hnd).2.2 q h q hq rfl))
  have HB1 : Hid (OnlyAt w w1 (ba ++ bk)) := Lib.hid (HB.out.then (hB1.sub fun q hq => by simp [hq]))
  clear hA1 hB1 hnd hat hle hlt hnb HA HK HB HL
  go_wp2_with fail
  refine (markNodeS_any G (1 + 2 * al.length) _ K ck bk (by omega) hc HQ.out.2.1 HK1.out (List.nodup_append.1 HQ.out.2.2.1).2.1 (fun q hq => by have := HQ.out.2.2.2.2.2 q (by simp [hq]); have := HB1.out.size; omega)).mono ?_
  rintro e w2 ⟨rfl, hK2, hB2⟩
  have HB2 : Hid (OnlyAt w w2 (ba ++ bk)) := Lib.hid (HB1.out.then (hB2.sub fun q hq => by simp [hq]))
  have HA2 : Hid (AlRow w2 A (markAl al 1) ba) := Lib.hid (HA1.out.same fun q hq => hB2.block q (by have := HQ.out.2.2.2.2.2 q (by simp [hq]); have := HB1.out.size; omega) (fun h => (List.nodup_append.1 HQ.out.2.2.1).2.2 q hq q h rfl))
  have HK2 := Lib.hid hK2
  clear hK2 hB2
  go_wp2
  go_ret
  obtain ⟨q1, q2, _, hat, hle, _⟩ := HQ.out
  exact ⟨rfl, ⟨⟨q1, HA2.out⟩, ⟨q2, HK2.out⟩, hat, Nat.le_trans hle HB2.out.size⟩, HB2.out⟩

set_option maxHeartbeats 1000000 in
theorem heldNR {w : World} {k sp : Int} {n t : ByteArray} {al : List (ByteArray × ByteArray)} {G : Fo} {A K : Option Addr} {ca ck : Nat} {ba bk : List Nat} {lo hi : Nat} (h : MR w al G A K ba bk lo hi) (hc : 1 + 2 * al.length + G.cnt ≤ 1073741824) :
    Calls Try.prog 22 #[.agg #[.int .i64 k, .int .i64 sp, .string n, .string t, .slice A al.length ca, .slice K G.len ck], .int .i64 1] w fun e w' =>
      e = .returned (.int .i64 ((1 + 2 * al.length + G.cnt : Nat) : Int)) ∧ Below w.heap.size w w' := by
  obtain ⟨b, a1, a2⟩ := al_read h.ra.2 (by rw [markAl_len]; exact h.ra.1) fun q hq => h.at' q (by simp [hq])
  obtain ⟨kb, k1, k2⟩ := k_read h.rk.2 (by rw [markFo_len]; exact h.rk.1) fun q hq => h.at' q (by simp [hq])
  rw [markAl_len] at a1
  rw [markFo_len] at k1
  have hle := h.le
  have BX := Lib.hid ((Below.refl w.heap.size w).alloc (Nat.le_refl _) (.cells #[.int .i64 k, .int .i64 sp, .string n, .string t, .slice A al.length ca, .slice K G.len ck] 37))
  have HA := Lib.hid (And.intro a1 a2)
  have HK := Lib.hid (And.intro k1 k2)
  clear h a1 a2 k1 k2
  go_enter Try.func22, Try.ntmps22
  go_wp2_with fail
  refine (heldAttrS_any al 1 _ A ca b 0 lo hi (Nat.le_refl _) (by omega) HA.out.1 (Nat.le_trans hle BX.out.size) (al_below (al := markAl al 1) (by rw [markAl_len]; exact HA.out.1.mono (Nat.zero_le _) (Nat.le_refl _)) HA.out.2 BX.out hle)).mono ?_
  rintro e w1 ⟨rfl, hB⟩
  have e5 := box_cell hB (j := 5) rfl
  have B1 := Lib.hid (BX.out.trans (hB.mono BX.out.size))
  clear hB
  go_wp2_with fail
  refine (heldNodeS_any G (1 + 2 * al.length) _ K ck kb 0 lo hi (by omega) hc HK.out.1 (Nat.le_trans hle B1.out.size) (FoAt.below (F := markFo G (1 + 2 * al.length)) (by rw [markFo_len]; exact HK.out.1) HK.out.2 B1.out hle)).mono ?_
  rintro e w2 ⟨rfl, hB⟩
  have B2 := Lib.hid (B1.out.trans (hB.mono B1.out.size))
  clear hB
  go_wp2
  go_ret
  exact ⟨rfl, B2.out⟩
end Go.Proofs.Ytgkkmoliobhpiaa
