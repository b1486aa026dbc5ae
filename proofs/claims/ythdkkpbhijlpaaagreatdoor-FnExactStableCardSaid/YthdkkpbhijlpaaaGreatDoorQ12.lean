import Derived.Test.YthdkkpbhijlpaaaGreatDoorQ11
set_option linter.unusedVariables false
namespace Go.Proofs.YthdkkpbhijlpaaaGreatDoor
open Go.ChangeShapes Go.WideShapes Go.ChangeAt Go.RowKit Go.Deep
def idxAl:List (ByteArray × ByteArray)→ByteArray→Nat→Int
 | [],_,_=>-1
 | x::r,n,k=>if (x.1.toList==n.toList)=true then (k:Int) else idxAl r n (k+1)
theorem idxAl_neg:∀(al:List (ByteArray × ByteArray)) (n:ByteArray) (k:Nat),idxAl al n k = -1∨0≤idxAl al n k
 | [],_,_=>Or.inl rfl
 | x::r,n,k=>by
  rw[idxAl];split
  ·right;omega
  ·exact idxAl_neg r n (k+1)
theorem idxAl_none:∀(al:List (ByteArray × ByteArray)) (n:ByteArray) (k:Nat),idxAl al n k = -1↔∀x ∈ al,x.1≠n
 | [],_,_=>by simp[idxAl]
 | x::r,n,k=>by
  rw[idxAl]
  split
  ·rename_i h
   refine ⟨fun e=>by omega,fun h2=>absurd (str_ext (by simpa using h)) (h2 x (by simp))⟩
  ·rename_i h
   rw[idxAl_none r n (k+1)]
   simp only[List.mem_cons,forall_eq_or_imp]
   exact ⟨fun h2=>⟨fun e=>h (by rw[e];simp),h2⟩,fun h2=>h2.2⟩
theorem named1_any (x:ByteArray × ByteArray) (n:ByteArray) (B:Nat) (w:World) (hB:B<w.heap.size) (hc:w.cell? ⟨B,0,none⟩=some (.string n)):
 Calls Tryz.prog 253 #[.agg #[.string x.1,.string x.2],.pointer (some ⟨B,0,none⟩)] w fun e w'=>e=.returned (.bool (x.1.toList==n.toList))∧Below w.heap.size w w':=by
 obtain ⟨m,v⟩:=x
 go_enter Tryz.func253,Tryz.ntmps253
 go_wp2
 go_ret
 exact ⟨rfl,by go_grown⟩
theorem indexAttr_any (al:List (ByteArray × ByteArray)) (n:ByteArray) (B:Nat) (w:World) (A:Option Addr) (c b o lo hi:Nat) (hA:RowAt lo hi A al.length b o) (hh:hi≤w.heap.size) (hal:AsAt w b o al)
 (hB:B<w.heap.size) (hc:w.cell? ⟨B,0,none⟩=some (.string n)):
 Calls Tryz.prog 252 #[.slice A al.length c,.func (.func 253) #[] #[.pointer (some ⟨B,0,none⟩)]] w fun e w'=>e=.returned (.int .i64 (idxAl al n 0))∧Below w.heap.size w w':=by
 have hlen:=hA.1
 unfold maxLen at hlen
 have HA:=Lib.hid hA
 have HS:=Lib.hid hal
 have HC:=Lib.hid hc
 clear hA hal hc
 go_enter Tryz.func252,Tryz.ntmps252
 go_wp2
 go_loopw [8] (fun i wr=>∃(k:Nat) (suf:List (ByteArray × ByteArray)),i=.int .i64 (k:Int)∧k+suf.length=al.length∧Hid (AsAt w b (o+k*2) suf∧Below w.heap.size w wr∧idxAl al n 0=idxAl suf n k)) (fun i wr=>al.length-(intOf i).toNat)
 case atStart=>exact ⟨0,al,rfl,by omega,Lib.hid ⟨by simpa using HS.out,Below.refl _ _,rfl⟩⟩
 case round=>
  obtain ⟨k,suf,rfl,hk,HH⟩:=hrel
  cases suf with
  | nil=>
   have hkl:k=al.length:=by simpa using hk
   clear hk
   subst hkl
   go_wp2
   go_ret
   exact ⟨by rw[HH.out.2.2];rfl,HH.out.2.1⟩
  | cons x r=>
   obtain ⟨⟨s1,s2,s3,s4,s5⟩,hB2,he⟩:=HH.out
   obtain ⟨rfl,hlo,hhi⟩:=HA.out.2 (by simp at hk;omega)
   have t1:=(hB2.cell (p:=⟨b,o+k*2,none⟩) (by show b<_;omega)).trans s1
   have t2:=(hB2.cell (p:=⟨b,o+k*2+1,none⟩) (by show b<_;omega)).trans s2
   have H5:=Lib.hid s5
   have HB:=Lib.hid hB2
   have HE:=Lib.hid he
   simp at hk
   clear HH s1 s2 s5 hB2 he
   cases hq:(x.1.toList==n.toList) with
   | true=>
    have HQ:=Lib.hid hq
    clear hq
    go_wp2_with (go_at_call 253;go_loud (refine (named1_any x n B _ (Nat.lt_of_lt_of_le hB HB.out.size) ((HB.out.cell (p:=⟨B,0,none⟩) hB).trans HC.out)).mono ?_;rintro e w' ⟨rfl,hB'⟩;rw[HQ.out];have HB':=Lib.hid hB';clear hB'))
    go_ret
    exact ⟨by rw[HE.out,idxAl,if_pos HQ.out];rfl,HB.out.trans (HB'.out.mono HB.out.size)⟩
   | false=>
    have HQ:=Lib.hid hq
    clear hq
    go_wp2_with (go_at_call 253;go_loud (refine (named1_any x n B _ (Nat.lt_of_lt_of_le hB HB.out.size) ((HB.out.cell (p:=⟨B,0,none⟩) hB).trans HC.out)).mono ?_;rintro e w' ⟨rfl,hB'⟩;rw[HQ.out];have HB':=Lib.hid hB';clear hB'))
    go_roundw
    case rel=>exact ⟨k+1,r,by go_num,by omega,Lib.hid ⟨by rw[show o+(k+1)*2=o+k*2+2 by omega];exact H5.out,HB.out.trans (HB'.out.mono HB.out.size),by rw[HE.out,idxAl,if_neg (by rw[HQ.out];simp)]⟩⟩
    case measure=>simp[intOf];omega
theorem placeOfAttr_any (al:List (ByteArray × ByteArray)) (n:ByteArray) (w:World) (A:Option Addr) (c b o lo hi:Nat) (hA:RowAt lo hi A al.length b o) (hh:hi≤w.heap.size) (hal:AsAt w b o al):
 Calls Tryz.prog 215 #[.slice A al.length c,.string n] w fun e w'=>e=.returned (.int .i64 (idxAl al n 0))∧Below w.heap.size w w':=by
 have hmf:∀(fn:Fn) (first cap:Array Value) (w:World),(Instr.makeFunc fn first cap).run Tryz.prog w=.ok (.func fn first cap) w:=fun _ _ _ _=>rfl
 have HA:=Lib.hid hA
 have HS:=Lib.hid hal
 clear hA hal
 go_enter Tryz.func215,Tryz.ntmps215
 go_wp2_with (go_at_call 252;refine (indexAttr_any al n w.heap.size _ A c b o lo hi HA.out ?i1 ?i2 ?i3 ?i4).mono ?i5)
 case i1=>simp;omega
 case i2=>exact HS.out.but HA.out ((But.refl No w).alloc _) hh (fun _ h=>h.elim)
 case i3=>simp
 case i4=>exact new_cell rfl
 case i5=>
  rintro e w' ⟨rfl,hB'⟩
  have HB':=Lib.hid hB'
  clear hB'
  go_wp2
  go_ret
  exact ⟨rfl,((Below.refl _ _).alloc (Nat.le_refl _) _).trans (HB'.out.mono (by simp))⟩
noncomputable def attrB (x:ByteArray × ByteArray):Bool:=namedB small tagB x.1&&decide (x.2.size≤40)
theorem attrB_iff (x:ByteArray × ByteArray):attrB x=true↔AttrIs x:=by simp[attrB,AttrIs]
theorem attrOK_any (x:ByteArray × ByteArray) (w:World) (h1:x.1.size≤maxLen) (h2:x.2.size≤maxLen):
 Calls Tryz.prog 214 #[.agg #[.string x.1,.string x.2]] w fun e w'=>e=.returned (.bool (attrB x))∧Below w.heap.size w w':=by
 obtain ⟨n,v⟩:=x
 simp only at h1 h2
 have H1:=Lib.hid h1
 clear h1
 unfold maxLen at h2
 cases hn:namedB small tagB n with
 | true=>
  have HN:=Lib.hid hn
  clear hn
  go_enter Tryz.func214,Tryz.ntmps214
  go_wp2_with (go_at_call 140;refine (implTagOK_any n _ H1.out).mono ?_;rintro e w' ⟨rfl,rfl⟩;rw[HN.out])
  go_ret
  exact ⟨ret_bool (by simp[attrB,HN.out];omega),by go_grown⟩
 | false=>
  have HN:=Lib.hid hn
  clear hn
  go_enter Tryz.func214,Tryz.ntmps214
  go_wp2_with (go_at_call 140;refine (implTagOK_any n _ H1.out).mono ?_;rintro e w' ⟨rfl,rfl⟩;rw[HN.out])
  go_ret
  exact ⟨ret_bool (by simp[attrB,HN.out]),by go_grown⟩
end Go.Proofs.YthdkkpbhijlpaaaGreatDoor
namespace Go.Proofs.YthdkkpbhijlpaaaGreatDoor
open Go.ChangeShapes Go.WideShapes Go.ChangeAt Go.RowKit Go.Deep
theorem AsAt.take {w:World} {b:Nat}:∀{al:List (ByteArray × ByteArray)} {o:Nat} (k:Nat),AsAt w b o al→AsAt w b o (al.take k)
 | [],_,k,_=>by simp[AsAt]
 | _::_,_,0,_=>trivial
 | _::_,_,k+1,⟨h1,h2,h3,h4,h5⟩=>⟨h1,h2,h3,h4,AsAt.take k h5⟩
theorem idx_take {al:List (ByteArray × ByteArray)} {k:Nat} {n:ByteArray} (h:idxAl (al.take k) n 0 = -1) (j:Nat) (hj:j<k) (hl:j<al.length):al[j].1≠n:=by
 have hm:j<(al.take k).length:=by simp;omega
 have:=(idxAl_none _ _ _).1 h (al.take k)[j] (List.getElem_mem hm)
 simpa using this
theorem idx_hit {al:List (ByteArray × ByteArray)} {k:Nat} {n:ByteArray} (h:0≤idxAl (al.take k) n 0):∃j,∃hl:j<al.length,j<k∧al[j].1=n:=by
 have h2:¬∀x ∈ al.take k,x.1≠n:=fun hx=>by have:=(idxAl_none (al.take k) n 0).2 hx;omega
 simp only[Classical.not_forall,Classical.not_not]at h2
 obtain ⟨x,hx,hn⟩:=h2
 obtain ⟨j,hj,rfl⟩:=List.getElem_of_mem hx
 have hj':j<min k al.length:=by simpa using hj
 exact ⟨j,by omega,by omega,by simpa using hn⟩
theorem attrs_next {al:List (ByteArray × ByteArray)} {k:Nat} (h:AlTo al k) (hk:k<al.length) (ha:attrB al[k]=true) (hn:idxAl (al.take k) al[k].1 0 = -1):AlTo al (k+1):=by
 intro i hi hik
 by_cases e:i=k
 ·subst e;exact ⟨(attrB_iff _).1 ha,fun j hj=>idx_take hn j hj (by omega)⟩
 ·exact h i hi (by omega)
theorem slice_upto (b o n c k:Nat) (hk:k≤n) (hc:n≤c) (w:World):(Instr.slice 54 (.slice (some ⟨b,o,none⟩) n c) none (some (.int .i64 (k:Int))) none).run Tryz.prog w=.ok (.slice (some ⟨b,o,none⟩) k c) w:=by
 have he:Tryz.prog.elem 54 = 81 := by kernel_rfl
 have ht:Tryz.prog.underlying 54 = some (.slice (Tryz.prog.elem 54)):=by rw[he];exact Tryz.underlying54
 have hs:(sizeOf 81).run Tryz.prog w=.ok 2 w:=by kernel_rfl
 rw[run_slice_h w _ _ _ _ ht .i64 (k:Int) (by omega) (by omega),he,hs]
 show Result.ok (sliced (some ⟨b,o,none⟩) 0 (k:Int).toNat c 2) w=_
 unfold sliced
 rw[Int.toNat_natCast]
 by_cases e:c=0
 ·subst e
  obtain rfl:k=0:=by omega
  rfl
 ·rw[if_neg e];simp[Addr.add]
theorem placeOfAttr_k {al:List (ByteArray × ByteArray)} {w w1:World} {b o lo hi k c:Nat} (hlo:lo≤b) (hhi:b<hi) (hal:AsAt w b o al) (hk:k<al.length) (hlen:al.length≤9223372036854775807) (n:ByteArray) (hB:Below w.heap.size w w1) (hh:hi≤w.heap.size):
 Calls Tryz.prog 215 #[.slice (some ⟨b,o,none⟩) k c,.string n] w1 fun e w'=>e=.returned (.int .i64 (idxAl (al.take k) n 0))∧Below w1.heap.size w1 w':=by
 have hl:(al.take k).length=k:=by simp;omega
 have hr:RowAt lo hi (some ⟨b,o,none⟩) (al.take k).length b o:=⟨by rw[hl];unfold maxLen;omega,fun _=>⟨rfl,hlo,hhi⟩⟩
 have:=placeOfAttr_any (al.take k) n w1 (some ⟨b,o,none⟩) c b o lo hi hr (Nat.le_trans hh hB.size) ((hal.take k).but (C:=No) (lo:=lo) (hi:=hi) hr (But.of_below hB) hh (fun _ h=>h.elim))
 rwa[hl]at this
set_option maxHeartbeats 1000000 in
theorem attrsOK_any (al:List (ByteArray × ByteArray)) (w:World) (A:Option Addr) (c b o lo hi:Nat) (hA:RowC lo hi A al.length c b o) (hh:hi≤w.heap.size) (hal:AsAt w b o al):
 Calls Tryz.prog 163 #[.slice A al.length c] w fun e w'=>e=.returned (.bool (alB al))∧Below w.heap.size w w':=by
 obtain ⟨hcap,hA⟩:=hA
 have hlen:=hA.1
 unfold maxLen at hlen
 by_cases h6:al.length≤6
 ·have HA:=Lib.hid hA
  have HS:=Lib.hid hal.get
  have HAL:=Lib.hid hal
  clear hA hal
  go_enter Tryz.func163,Tryz.ntmps163
  go_wp2
  go_loopw [10] (fun i wr=>∃(k:Nat),i=.int .i64 (k:Int)∧k≤al.length∧Hid (AlTo al k∧Below w.heap.size w wr)) (fun i wr=>al.length-(intOf i).toNat)
  case atStart=>exact ⟨0,rfl,Nat.zero_le _,Lib.hid ⟨fun i _ h=>absurd h (Nat.not_lt_zero _),Below.refl _ _⟩⟩
  case round=>
   obtain ⟨k,rfl,hk,HH⟩:=hrel
   by_cases hlt:k<al.length
   ·obtain ⟨rfl,hlo,hhi⟩:=HA.out.2 (by omega)
    have hB:=HH.out.2
    obtain ⟨s1,s2,s3,s4⟩:=HS.out k hlt
    have t1:=(hB.cell (p:=⟨b,o+k*2,none⟩) (by show b<_;omega)).trans s1
    have t2:=(hB.cell (p:=⟨b,o+k*2+1,none⟩) (by show b<_;omega)).trans s2
    have HB:=Lib.hid hB
    clear hB s1 s2
    generalize hx:al[k]=x at *
    have HX:=Lib.hid hx
    clear hx
    obtain ⟨n,v⟩:=x
    simp only at t1 t2 s3 s4
    go_wp2
    have hv0:(wr.alloc (.cells #[.string n,.string v] 81)).drew.cell? ⟨wr.heap.size,0,none⟩=some (.string n):=new_cell rfl
    have hv1:(wr.alloc (.cells #[.string n,.string v] 81)).drew.cell? ⟨wr.heap.size,1,none⟩=some (.string v):=new_cell rfl
    have hsz:wr.heap.size<(wr.alloc (.cells #[.string n,.string v] 81)).drew.heap.size:=by show _<(wr.alloc _).heap.size;simp
    have hbw:Below w.heap.size w (wr.alloc (.cells #[.string n,.string v] 81)).drew:=(HB.out.alloc HB.out.size _).drew
    have HBW:=Lib.hid hbw
    clear hbw
    cases ha:attrB (n,v) with
    | false=>
     have HA1:=Lib.hid ha
     clear ha
     refine wp_region_held_drew (S:=fun w'=>w'.cell? ⟨wr.heap.size,0,none⟩=some (.string n)∧w'.cell? ⟨wr.heap.size,1,none⟩=some (.string v)) (by kernel_rfl) ⟨hv0,hv1⟩ (fun hHeld=>?_)
     refine wpAnyH_take (i:=0) (v:=.agg #[.string n,.string v]) rfl (by kernel_rfl) (by kernel_rfl) (by kernel_rfl) (fun _ _ _ h=>h) (Or.inl ⟨by rfl,fun w hSw=>by (try dsimp only at hSw);go_simp⟩) (by assumption) ?_;(try simp only[Act.put,List.setIfInBounds_toArray,List.set_cons_zero,List.set_cons_succ,List.getElem_toArray,List.getElem_cons_zero])
     refine wpAnyH_ready (rs:=[1]) (by kernel_rfl) (by simp) ?_;refine AllReadyH.cons rfl (fun K hK=>?_) AllReadyH.nil;go_simp;(go_at_call 214;refine (attrOK_any (n,v) _ s3 s4).mono ?_;rintro e w1 ⟨rfl,hB1⟩;rw[HA1.out];have f0:=(hB1.cell (p:=⟨wr.heap.size,0,none⟩) hsz).trans hv0;have f1:=(hB1.cell (p:=⟨wr.heap.size,1,none⟩) hsz).trans hv1;have K1:=Lib.hid (HBW.out.trans (hB1.mono HBW.out.size));clear hB1);(try go_wp2_with fail);refine hK.out _ _ ⟨f0,f1⟩ (fun hHeld=>?_);clear hK K;(try simp only[Act.put,List.setIfInBounds_toArray,List.set_cons_zero,List.set_cons_succ,List.getElem_toArray,List.getElem_cons_zero,List.getElem_cons_succ])
     refine wpAnyH_take (i:=2) (v:=.bool true) rfl (by kernel_rfl) (by kernel_rfl) (by kernel_rfl) (fun _ _ _ h=>h) (Or.inl ⟨by rfl,fun w hSw=>by (try dsimp only at hSw);go_simp⟩) (by assumption) ?_;(try simp only[Act.put,List.setIfInBounds_toArray,List.set_cons_zero,List.set_cons_succ,List.getElem_toArray,List.getElem_cons_zero,List.getElem_cons_succ])
     refine wpAnyH_take (i:=3) (v:=.bool true) rfl (by kernel_rfl) (by kernel_rfl) (by kernel_rfl) (fun _ _ _ h=>h) (Or.inl ⟨by rfl,fun w hSw=>by (try dsimp only at hSw);go_simp⟩) (by assumption) ?_;(try simp only[Act.put,List.setIfInBounds_toArray,List.set_cons_zero,List.set_cons_succ,List.getElem_toArray,List.getElem_cons_zero,List.getElem_cons_succ])
     refine wpAnyH_take (i:=4) (v:=undef) rfl (by kernel_rfl) (by kernel_rfl) (by kernel_rfl) (fun _ _ _ h=>h) (Or.inr ⟨by rfl,rfl⟩) (by assumption) ?_;(try simp only[Act.put,List.setIfInBounds_toArray,List.set_cons_zero,List.set_cons_succ,List.getElem_toArray,List.getElem_cons_zero,List.getElem_cons_succ])
     refine wpAnyH_take (i:=5) (v:=undef) rfl (by kernel_rfl) (by kernel_rfl) (by kernel_rfl) (fun _ _ _ h=>h) (Or.inr ⟨by rfl,rfl⟩) (by assumption) ?_;(try simp only[Act.put,List.setIfInBounds_toArray,List.set_cons_zero,List.set_cons_succ,List.getElem_toArray,List.getElem_cons_zero,List.getElem_cons_succ])
     refine wpAnyH_take (i:=6) (v:=undef) rfl (by kernel_rfl) (by kernel_rfl) (by kernel_rfl) (fun _ _ _ h=>h) (Or.inr ⟨by rfl,rfl⟩) (by assumption) ?_;(try simp only[Act.put,List.setIfInBounds_toArray,List.set_cons_zero,List.set_cons_succ,List.getElem_toArray,List.getElem_cons_zero,List.getElem_cons_succ])
     refine wpAnyH_take (i:=7) (v:=undef) rfl (by kernel_rfl) (by kernel_rfl) (by kernel_rfl) (fun _ _ _ h=>h) (Or.inr ⟨by rfl,rfl⟩) (by assumption) ?_;(try simp only[Act.put,List.setIfInBounds_toArray,List.set_cons_zero,List.set_cons_succ,List.getElem_toArray,List.getElem_cons_zero,List.getElem_cons_succ])
     refine wpAnyH_take (i:=8) (v:=undef) rfl (by kernel_rfl) (by kernel_rfl) (by kernel_rfl) (fun _ _ _ h=>h) (Or.inr ⟨by rfl,rfl⟩) (by assumption) ?_;(try simp only[Act.put,List.setIfInBounds_toArray,List.set_cons_zero,List.set_cons_succ,List.getElem_toArray,List.getElem_cons_zero,List.getElem_cons_succ])
     refine wpAnyH_take (i:=9) (v:=undef) rfl (by kernel_rfl) (by kernel_rfl) (by kernel_rfl) (fun _ _ _ h=>h) (Or.inr ⟨by rfl,rfl⟩) (by assumption) ?_;(try simp only[Act.put,List.setIfInBounds_toArray,List.set_cons_zero,List.set_cons_succ,List.getElem_toArray,List.getElem_cons_zero,List.getElem_cons_succ])
     refine wpAnyH_take (i:=10) (v:=undef) rfl (by kernel_rfl) (by kernel_rfl) (by kernel_rfl) (fun _ _ _ h=>h) (Or.inr ⟨by rfl,rfl⟩) (by assumption) ?_;(try simp only[Act.put,List.setIfInBounds_toArray,List.set_cons_zero,List.set_cons_succ,List.getElem_toArray,List.getElem_cons_zero,List.getElem_cons_succ])
     refine wpAnyH_take (i:=11) (v:=.bool true) rfl (by kernel_rfl) (by kernel_rfl) (by kernel_rfl) (fun _ _ _ h=>h) (Or.inl ⟨by rfl,fun w hSw=>by (try dsimp only at hSw);go_simp⟩) (by assumption) ?_;(try simp only[Act.put,List.setIfInBounds_toArray,List.set_cons_zero,List.set_cons_succ,List.getElem_toArray,List.getElem_cons_zero,List.getElem_cons_succ])
     refine wpAnyH_done (by kernel_rfl) ?_ _
     go_wp2
     go_ret
     exact ⟨ret_bool (alB_false fun h=>by have:=(attrB_iff _).2 (h.2 k hlt hlt).1;rw[HX.out,HA1.out]at this;simp at this),K1.out⟩
    | true=>
     have HA1:=Lib.hid ha
     clear ha
     have hsl:=slice_upto b o al.length c k hk hcap
     have hI:idxAl (al.take k) n 0 = -1∨0≤idxAl (al.take k) n 0:=idxAl_neg _ _ _
     generalize hi0:idxAl (al.take k) n 0=ix at hI
     have HI0:=Lib.hid hi0
     clear hi0
     rcases hI with rfl | hI
     ·skip
      refine wp_region_held_drew (S:=fun w'=>w'.cell? ⟨wr.heap.size,0,none⟩=some (.string n)∧w'.cell? ⟨wr.heap.size,1,none⟩=some (.string v)) (by kernel_rfl) ⟨hv0,hv1⟩ (fun hHeld=>?_)
      refine wpAnyH_take (i:=0) (v:=.agg #[.string n,.string v]) rfl (by kernel_rfl) (by kernel_rfl) (by kernel_rfl) (fun _ _ _ h=>h) (Or.inl ⟨by rfl,fun w hSw=>by (try dsimp only at hSw);go_simp⟩) (by assumption) ?_;(try simp only[Act.put,List.setIfInBounds_toArray,List.set_cons_zero,List.set_cons_succ,List.getElem_toArray,List.getElem_cons_zero])
      refine wpAnyH_ready (rs:=[1]) (by kernel_rfl) (by simp) ?_;refine AllReadyH.cons rfl (fun K hK=>?_) AllReadyH.nil;go_simp;(go_at_call 214;refine (attrOK_any (n,v) _ s3 s4).mono ?_;rintro e w1 ⟨rfl,hB1⟩;rw[HA1.out];have f0:=(hB1.cell (p:=⟨wr.heap.size,0,none⟩) hsz).trans hv0;have f1:=(hB1.cell (p:=⟨wr.heap.size,1,none⟩) hsz).trans hv1;have K1:=Lib.hid (HBW.out.trans (hB1.mono HBW.out.size));have LE:=Lib.hid hB1.size;clear hB1);(try go_wp2_with fail);refine hK.out _ _ ⟨f0,f1⟩ (fun hHeld=>?_);clear hK K;(try simp only[Act.put,List.setIfInBounds_toArray,List.set_cons_zero,List.set_cons_succ,List.getElem_toArray,List.getElem_cons_zero,List.getElem_cons_succ])
      refine wpAnyH_take (i:=2) (v:=.bool false) rfl (by kernel_rfl) (by kernel_rfl) (by kernel_rfl) (fun _ _ _ h=>h) (Or.inl ⟨by rfl,fun w hSw=>by (try dsimp only at hSw);go_simp⟩) (by assumption) ?_;(try simp only[Act.put,List.setIfInBounds_toArray,List.set_cons_zero,List.set_cons_succ,List.getElem_toArray,List.getElem_cons_zero,List.getElem_cons_succ])
      refine wpAnyH_take (i:=3) (v:=.bool false) rfl (by kernel_rfl) (by kernel_rfl) (by kernel_rfl) (fun _ _ _ h=>h) (Or.inl ⟨by rfl,fun w hSw=>by (try dsimp only at hSw);go_simp⟩) (by assumption) ?_;(try simp only[Act.put,List.setIfInBounds_toArray,List.set_cons_zero,List.set_cons_succ,List.getElem_toArray,List.getElem_cons_zero,List.getElem_cons_succ])
      refine wpAnyH_take (i:=4) (v:=.slice (some ⟨b,o,none⟩) al.length c) rfl (by kernel_rfl) (by kernel_rfl) (by kernel_rfl) (fun _ _ _ h=>h) (Or.inl ⟨by rfl,fun w hSw=>by (try dsimp only at hSw);go_simp⟩) (by assumption) ?_;(try simp only[Act.put,List.setIfInBounds_toArray,List.set_cons_zero,List.set_cons_succ,List.getElem_toArray,List.getElem_cons_zero,List.getElem_cons_succ])
      refine wpAnyH_take (i:=5) (v:=.int .i64 (k:Int)) rfl (by kernel_rfl) (by kernel_rfl) (by kernel_rfl) (fun _ _ _ h=>h) (Or.inl ⟨by rfl,fun w hSw=>by (try dsimp only at hSw);go_simp⟩) (by assumption) ?_;(try simp only[Act.put,List.setIfInBounds_toArray,List.set_cons_zero,List.set_cons_succ,List.getElem_toArray,List.getElem_cons_zero,List.getElem_cons_succ])
      refine wpAnyH_take (i:=6) (v:=.slice (some ⟨b,o,none⟩) k c) rfl (by kernel_rfl) (by kernel_rfl) (by kernel_rfl) (fun _ _ _ h=>h) (Or.inl ⟨by rfl,fun w hSw=>by (try dsimp only at hSw);go_simp⟩) (by assumption) ?_;(try simp only[Act.put,List.setIfInBounds_toArray,List.set_cons_zero,List.set_cons_succ,List.getElem_toArray,List.getElem_cons_zero,List.getElem_cons_succ])
      refine wpAnyH_take (i:=7) (v:=.pointer (some ⟨wr.heap.size,0,none⟩)) rfl (by kernel_rfl) (by kernel_rfl) (by kernel_rfl) (fun _ _ _ h=>h) (Or.inl ⟨by rfl,fun w hSw=>by (try dsimp only at hSw);go_simp⟩) (by assumption) ?_;(try simp only[Act.put,List.setIfInBounds_toArray,List.set_cons_zero,List.set_cons_succ,List.getElem_toArray,List.getElem_cons_zero,List.getElem_cons_succ])
      refine wpAnyH_take (i:=8) (v:=.string n) rfl (by kernel_rfl) (by kernel_rfl) (by kernel_rfl) (fun _ _ _ h=>h) (Or.inl ⟨by rfl,fun w hSw=>by (try dsimp only at hSw);go_simp⟩) (by assumption) ?_;(try simp only[Act.put,List.setIfInBounds_toArray,List.set_cons_zero,List.set_cons_succ,List.getElem_toArray,List.getElem_cons_zero,List.getElem_cons_succ])
      refine wpAnyH_ready (rs:=[9]) (by kernel_rfl) (by simp) ?_;refine AllReadyH.cons rfl (fun K hK=>?_) AllReadyH.nil;go_simp;(go_at_call 215;refine (placeOfAttr_k (o:=o) hlo hhi HAL.out hlt hlen n K1.out hh).mono ?_;rintro e w2 ⟨rfl,hB2⟩;rw[HI0.out];have g0:=(hB2.cell (p:=⟨wr.heap.size,0,none⟩) (Nat.lt_of_lt_of_le hsz LE.out)).trans f0;have g1:=(hB2.cell (p:=⟨wr.heap.size,1,none⟩) (Nat.lt_of_lt_of_le hsz LE.out)).trans f1;have K2:=Lib.hid (K1.out.trans (hB2.mono K1.out.size));clear hB2);(try go_wp2_with fail);refine hK.out _ _ ⟨g0,g1⟩ (fun hHeld=>?_);clear hK K;(try simp only[Act.put,List.setIfInBounds_toArray,List.set_cons_zero,List.set_cons_succ,List.getElem_toArray,List.getElem_cons_zero,List.getElem_cons_succ])
      refine wpAnyH_take (i:=10) (v:=.bool false) rfl (by kernel_rfl) (by kernel_rfl) (by kernel_rfl) (fun _ _ _ h=>h) (Or.inl ⟨by rfl,fun w hSw=>by (try dsimp only at hSw);go_simp⟩) (by assumption) ?_;(try simp only[Act.put,List.setIfInBounds_toArray,List.set_cons_zero,List.set_cons_succ,List.getElem_toArray,List.getElem_cons_zero,List.getElem_cons_succ])
      refine wpAnyH_take (i:=11) (v:=.bool false) rfl (by kernel_rfl) (by kernel_rfl) (by kernel_rfl) (fun _ _ _ h=>h) (Or.inl ⟨by rfl,fun w hSw=>by (try dsimp only at hSw);go_simp⟩) (by assumption) ?_;(try simp only[Act.put,List.setIfInBounds_toArray,List.set_cons_zero,List.set_cons_succ,List.getElem_toArray,List.getElem_cons_zero,List.getElem_cons_succ])
      refine wpAnyH_done (by kernel_rfl) ?_ _
      go_wp2
      go_roundw
      case rel=>exact ⟨k+1,by go_num,by omega,Lib.hid ⟨attrs_next HH.out.1 hlt (by rw[HX.out];exact HA1.out) (by rw[HX.out];exact HI0.out),K2.out⟩⟩
      case measure=>simp[intOf];omega
     ·skip
      refine wp_region_held_drew (S:=fun w'=>w'.cell? ⟨wr.heap.size,0,none⟩=some (.string n)∧w'.cell? ⟨wr.heap.size,1,none⟩=some (.string v)) (by kernel_rfl) ⟨hv0,hv1⟩ (fun hHeld=>?_)
      refine wpAnyH_take (i:=0) (v:=.agg #[.string n,.string v]) rfl (by kernel_rfl) (by kernel_rfl) (by kernel_rfl) (fun _ _ _ h=>h) (Or.inl ⟨by rfl,fun w hSw=>by (try dsimp only at hSw);go_simp⟩) (by assumption) ?_;(try simp only[Act.put,List.setIfInBounds_toArray,List.set_cons_zero,List.set_cons_succ,List.getElem_toArray,List.getElem_cons_zero])
      refine wpAnyH_ready (rs:=[1]) (by kernel_rfl) (by simp) ?_;refine AllReadyH.cons rfl (fun K hK=>?_) AllReadyH.nil;go_simp;(go_at_call 214;refine (attrOK_any (n,v) _ s3 s4).mono ?_;rintro e w1 ⟨rfl,hB1⟩;rw[HA1.out];have f0:=(hB1.cell (p:=⟨wr.heap.size,0,none⟩) hsz).trans hv0;have f1:=(hB1.cell (p:=⟨wr.heap.size,1,none⟩) hsz).trans hv1;have K1:=Lib.hid (HBW.out.trans (hB1.mono HBW.out.size));have LE:=Lib.hid hB1.size;clear hB1);(try go_wp2_with fail);refine hK.out _ _ ⟨f0,f1⟩ (fun hHeld=>?_);clear hK K;(try simp only[Act.put,List.setIfInBounds_toArray,List.set_cons_zero,List.set_cons_succ,List.getElem_toArray,List.getElem_cons_zero,List.getElem_cons_succ])
      refine wpAnyH_take (i:=2) (v:=.bool false) rfl (by kernel_rfl) (by kernel_rfl) (by kernel_rfl) (fun _ _ _ h=>h) (Or.inl ⟨by rfl,fun w hSw=>by (try dsimp only at hSw);go_simp⟩) (by assumption) ?_;(try simp only[Act.put,List.setIfInBounds_toArray,List.set_cons_zero,List.set_cons_succ,List.getElem_toArray,List.getElem_cons_zero,List.getElem_cons_succ])
      refine wpAnyH_take (i:=3) (v:=.bool false) rfl (by kernel_rfl) (by kernel_rfl) (by kernel_rfl) (fun _ _ _ h=>h) (Or.inl ⟨by rfl,fun w hSw=>by (try dsimp only at hSw);go_simp⟩) (by assumption) ?_;(try simp only[Act.put,List.setIfInBounds_toArray,List.set_cons_zero,List.set_cons_succ,List.getElem_toArray,List.getElem_cons_zero,List.getElem_cons_succ])
      refine wpAnyH_take (i:=4) (v:=.slice (some ⟨b,o,none⟩) al.length c) rfl (by kernel_rfl) (by kernel_rfl) (by kernel_rfl) (fun _ _ _ h=>h) (Or.inl ⟨by rfl,fun w hSw=>by (try dsimp only at hSw);go_simp⟩) (by assumption) ?_;(try simp only[Act.put,List.setIfInBounds_toArray,List.set_cons_zero,List.set_cons_succ,List.getElem_toArray,List.getElem_cons_zero,List.getElem_cons_succ])
      refine wpAnyH_take (i:=5) (v:=.int .i64 (k:Int)) rfl (by kernel_rfl) (by kernel_rfl) (by kernel_rfl) (fun _ _ _ h=>h) (Or.inl ⟨by rfl,fun w hSw=>by (try dsimp only at hSw);go_simp⟩) (by assumption) ?_;(try simp only[Act.put,List.setIfInBounds_toArray,List.set_cons_zero,List.set_cons_succ,List.getElem_toArray,List.getElem_cons_zero,List.getElem_cons_succ])
      refine wpAnyH_take (i:=6) (v:=.slice (some ⟨b,o,none⟩) k c) rfl (by kernel_rfl) (by kernel_rfl) (by kernel_rfl) (fun _ _ _ h=>h) (Or.inl ⟨by rfl,fun w hSw=>by (try dsimp only at hSw);go_simp⟩) (by assumption) ?_;(try simp only[Act.put,List.setIfInBounds_toArray,List.set_cons_zero,List.set_cons_succ,List.getElem_toArray,List.getElem_cons_zero,List.getElem_cons_succ])
      refine wpAnyH_take (i:=7) (v:=.pointer (some ⟨wr.heap.size,0,none⟩)) rfl (by kernel_rfl) (by kernel_rfl) (by kernel_rfl) (fun _ _ _ h=>h) (Or.inl ⟨by rfl,fun w hSw=>by (try dsimp only at hSw);go_simp⟩) (by assumption) ?_;(try simp only[Act.put,List.setIfInBounds_toArray,List.set_cons_zero,List.set_cons_succ,List.getElem_toArray,List.getElem_cons_zero,List.getElem_cons_succ])
      refine wpAnyH_take (i:=8) (v:=.string n) rfl (by kernel_rfl) (by kernel_rfl) (by kernel_rfl) (fun _ _ _ h=>h) (Or.inl ⟨by rfl,fun w hSw=>by (try dsimp only at hSw);go_simp⟩) (by assumption) ?_;(try simp only[Act.put,List.setIfInBounds_toArray,List.set_cons_zero,List.set_cons_succ,List.getElem_toArray,List.getElem_cons_zero,List.getElem_cons_succ])
      refine wpAnyH_ready (rs:=[9]) (by kernel_rfl) (by simp) ?_;refine AllReadyH.cons rfl (fun K hK=>?_) AllReadyH.nil;go_simp;(go_at_call 215;refine (placeOfAttr_k (o:=o) hlo hhi HAL.out hlt hlen n K1.out hh).mono ?_;rintro e w2 ⟨rfl,hB2⟩;rw[HI0.out];have g0:=(hB2.cell (p:=⟨wr.heap.size,0,none⟩) (Nat.lt_of_lt_of_le hsz LE.out)).trans f0;have g1:=(hB2.cell (p:=⟨wr.heap.size,1,none⟩) (Nat.lt_of_lt_of_le hsz LE.out)).trans f1;have K2:=Lib.hid (K1.out.trans (hB2.mono K1.out.size));clear hB2);(try go_wp2_with fail);refine hK.out _ _ ⟨g0,g1⟩ (fun hHeld=>?_);clear hK K;(try simp only[Act.put,List.setIfInBounds_toArray,List.set_cons_zero,List.set_cons_succ,List.getElem_toArray,List.getElem_cons_zero,List.getElem_cons_succ])
      refine wpAnyH_take (i:=10) (v:=.bool true) rfl (by kernel_rfl) (by kernel_rfl) (by kernel_rfl) (fun _ _ _ h=>h) (Or.inl ⟨by rfl,fun w hSw=>by (try dsimp only at hSw);go_simp⟩) (by assumption) ?_;(try simp only[Act.put,List.setIfInBounds_toArray,List.set_cons_zero,List.set_cons_succ,List.getElem_toArray,List.getElem_cons_zero,List.getElem_cons_succ])
      refine wpAnyH_take (i:=11) (v:=.bool true) rfl (by kernel_rfl) (by kernel_rfl) (by kernel_rfl) (fun _ _ _ h=>h) (Or.inl ⟨by rfl,fun w hSw=>by (try dsimp only at hSw);go_simp⟩) (by assumption) ?_;(try simp only[Act.put,List.setIfInBounds_toArray,List.set_cons_zero,List.set_cons_succ,List.getElem_toArray,List.getElem_cons_zero,List.getElem_cons_succ])
      refine wpAnyH_done (by kernel_rfl) ?_ _
      go_wp2
      go_ret
      exact ⟨ret_bool (alB_false fun h=>by obtain ⟨j,hl,hjk,he⟩:=idx_hit (by rw[HI0.out];exact hI);exact (h.2 k hlt hlt).2 j hjk (by rw[HX.out];exact he)),K2.out⟩
   ·obtain rfl:k=al.length:=by omega
    go_wp2
    go_ret
    exact ⟨ret_bool (alB_true ⟨h6,HH.out.1⟩),HH.out.2⟩
 ·clear hal hA
  go_enter Tryz.func163,Tryz.ntmps163
  go_wp2
  go_ret
  exact ⟨ret_bool (alB_false fun h=>h6 h.1),Below.refl _ _⟩
end Go.Proofs.YthdkkpbhijlpaaaGreatDoor
namespace Go.Proofs.YthdkkpbhijlpaaaGreatDoor
open Go.ChangeShapes Go.WideShapes Go.ChangeAt Go.RowKit Go.Deep
def rawB (x:Nd):Bool:=(x.sp==0)&&inL rawL x.n
def voidB (x:Nd):Bool:=(x.sp==0)&&inL voidL x.n
theorem rawB_iff (x:Nd):rawB x=true↔RawN x:=by simp[rawB,RawN]
theorem voidB_iff (x:Nd):voidB x=true↔VoidN x:=by simp[voidB,VoidN]
theorem isRaw_any (x:Nd) (b o lo hi:Nat) (w:World) (h:NdAt w lo hi b o x):
 Calls Tryz.prog 153 #[.pointer (some ⟨b,o,none⟩)] w fun e w'=>e=.returned (.bool (rawB x))∧w=w':=by
 obtain ⟨⟨c0,c1,c2,c3,z2,z3⟩,_⟩:=h
 obtain ⟨k,sp,n,t,al⟩:=x
 simp only at c0 c1 c2 c3 z2 z3
 clear c0 c3
 by_cases hs:sp=0
 ·subst hs
  go_enter Tryz.func153,Tryz.ntmps153
  go_wp2_with (go_at_call 209;refine (implIsRaw_any n _).mono ?_;rintro e w' ⟨rfl,rfl⟩)
  go_ret
  exact ⟨rfl,rfl⟩
 ·have hs':(sp==0)=false:=by simpa using hs
  have HS:=Lib.hid hs'
  go_enter Tryz.func153,Tryz.ntmps153
  go_wp2
  go_ret
  exact ⟨ret_bool (by simp[rawB,HS.out]),rfl⟩
theorem isVoid_any (x:Nd) (b o lo hi:Nat) (w:World) (h:NdAt w lo hi b o x):
 Calls Tryz.prog 165 #[.pointer (some ⟨b,o,none⟩)] w fun e w'=>e=.returned (.bool (voidB x))∧w=w':=by
 obtain ⟨⟨c0,c1,c2,c3,z2,z3⟩,_⟩:=h
 obtain ⟨k,sp,n,t,al⟩:=x
 simp only at c0 c1 c2 c3 z2 z3
 clear c0 c3
 by_cases hs:sp=0
 ·subst hs
  go_enter Tryz.func165,Tryz.ntmps165
  go_wp2_with (go_at_call 216;refine (implIsVoid_any n _).mono ?_;rintro e w' ⟨rfl,rfl⟩)
  go_ret
  exact ⟨rfl,rfl⟩
 ·have hs':(sp==0)=false:=by simpa using hs
  have HS:=Lib.hid hs'
  go_enter Tryz.func165,Tryz.ntmps165
  go_wp2
  go_ret
  exact ⟨ret_bool (by simp[voidB,HS.out]),rfl⟩
open Classical in
noncomputable def wordsB (x:Nd):Bool:=decide (WordsIs x)
theorem wordsB_t {x:Nd} (h:WordsIs x):true=wordsB x:=by simp[wordsB,h]
theorem wordsB_f {x:Nd} (h:¬WordsIs x):false=wordsB x:=by simp[wordsB,h]
theorem isWords_any (x:Nd) (b o lo hi:Nat) (w:World) (h:NdAt w lo hi b o x):
 Calls Tryz.prog 164 #[.pointer (some ⟨b,o,none⟩)] w fun e w'=>e=.returned (.bool (wordsB x))∧w=w':=by
 obtain ⟨⟨c0,c1,c2,c3,z2,z3⟩,A,c,b',o',c4,hR,_⟩:=h
 obtain ⟨k,sp,n,t,al⟩:=x
 have hl:=hR.2.1
 clear hR
 simp only at c0 c1 c2 c3 z2 z3 c4 hl
 unfold maxLen at z3 hl
 clear c0 z2
 by_cases h1:t.size≤120
 ·by_cases h2:sp=0
  ·subst h2
   by_cases h3:n.size=0
   ·have hn:=is_nil (s:=n) (by omega)
    have H3:=Lib.hid h3
    clear h3
    by_cases h4:al.length=0
    ·have H4:=Lib.hid h4
     rw[h4]at c4
     clear h4 hl
     go_enter Tryz.func164,Tryz.ntmps164
     go_wp2
     go_ret
     exact ⟨ret_bool (wordsB_t ⟨h1,rfl,H3.out,H4.out⟩),rfl⟩
    ·have H4:=Lib.hid h4
     have h4':((al.length:Int)==0)=false:=by simp;intro e;simp[e]at h4
     clear h4
     go_enter Tryz.func164,Tryz.ntmps164
     go_wp2
     go_ret
     exact ⟨ret_bool (wordsB_f fun h=>H4.out h.2.2.2),rfl⟩
   ·have hn:=ne_nil (s:=n) (by omega)
    have hn2:=ne_empty (s:=n) (by omega)
    have H3:=Lib.hid h3
    clear h3
    go_enter Tryz.func164,Tryz.ntmps164
    go_wp2
    go_ret
    exact ⟨ret_bool (wordsB_f fun h=>H3.out h.2.2.1),rfl⟩
  ·have hs':(sp==0)=false:=by simpa using h2
   have H2:=Lib.hid h2
   clear h2
   go_enter Tryz.func164,Tryz.ntmps164
   go_wp2
   go_ret
   exact ⟨ret_bool (wordsB_f fun h=>H2.out h.2.1),rfl⟩
 ·have H1:=Lib.hid h1
  have h1':decide ((t.size:Int)≤120)=false:=by simp;omega
  clear h1
  go_enter Tryz.func164,Tryz.ntmps164
  go_wp2
  go_ret
  exact ⟨ret_bool (wordsB_f fun h=>H1.out h.1),rfl⟩
theorem depth_any (C:Nat→Prop) (lo hi:Nat) (ch:List Nd) (q:Option Addr) (w:World) (h:SpotAt w C lo hi q ch) (hl:ch.length≤1048576):
 Calls Tryz.prog 104 #[.pointer q] w fun e w'=>e=.returned (.int .i64 ch.length)∧w=w':=by
 have HS:=Lib.hid h
 clear h
 go_enter Tryz.func104,Tryz.ntmps104
 go_wp2
 go_loop [0,3] (fun p i=>∃(p':Option Addr) (k:Nat) (suf:List Nd),p=.pointer p'∧i=.int .i64 (k:Int)∧k+suf.length=ch.length∧Hid (SpotAt w C lo hi p' suf)) (fun p i=>ch.length-(intOf i).toNat)
 case atStart=>exact ⟨q,0,ch,rfl,rfl,by omega,HS⟩
 case round=>
  obtain ⟨p',k,suf,rfl,rfl,hk,HH⟩:=hrel
  cases suf with
  | nil=>
   have hp:p'=none:=HH.out
   subst hp
   have hk':k=ch.length:=by simpa using hk
   subst hk'
   go_wp2
   go_ret
   exact ⟨rfl,rfl⟩
  | cons x r=>
   obtain ⟨g,b,o,q',rfl,h2,h3,h4,h5,h6,h7,h8,h9⟩:=HH.out
   have H9:=Lib.hid h9
   simp at hk
   clear HH h4 h5 h8 h9
   go_wp2
   go_round
   case rel=>exact ⟨q',k+1,r,rfl,by go_num,by omega,H9⟩
   case measure=>simp[intOf];omega
end Go.Proofs.YthdkkpbhijlpaaaGreatDoor
