import Derived.Deep.AppendLies
import Derived.Deep.RegionLaw
import Derived.Deep.RegionHeld3
import Derived.Test.YthdkkpbhijlpaaaGreatDoorQ30
set_option linter.unusedVariables false
namespace Go.Proofs.YthdkkpbhijlpaaaGreatDoor
open Go.ChangeShapes Go.WideShapes Go.ChangeAt Go.RowKit Go.Deep
theorem pop_keep {w w':World} {bb xb:Nat} {nv a0 a1 a2 a3 a4 a5:Value} (hb:w'.heap[bb]?=w.heap[bb]?) (hx:w'.heap[xb]?=w.heap[xb]?)
 (h:w.cell? ⟨bb,1,none⟩=some nv∧w.cell? ⟨xb,0,none⟩=some a0∧w.cell? ⟨xb,1,none⟩=some a1∧w.cell? ⟨xb,2,none⟩=some a2∧w.cell? ⟨xb,3,none⟩=some a3∧w.cell? ⟨xb,4,none⟩=some a4∧w.cell? ⟨xb,5,none⟩=some a5):
 w'.cell? ⟨bb,1,none⟩=some nv∧w'.cell? ⟨xb,0,none⟩=some a0∧w'.cell? ⟨xb,1,none⟩=some a1∧w'.cell? ⟨xb,2,none⟩=some a2∧w'.cell? ⟨xb,3,none⟩=some a3∧w'.cell? ⟨xb,4,none⟩=some a4∧w'.cell? ⟨xb,5,none⟩=some a5:=by
 have k:∀j,w'.cell? ⟨xb,j,none⟩=w.cell? ⟨xb,j,none⟩:=fun j=>World.cell?_of_block (w:=w) (a:=⟨xb,j,none⟩) hx
 rw[World.cell?_of_block (w:=w) (a:=⟨bb,1,none⟩) hb,k,k,k,k,k,k]
 exact h
set_option maxHeartbeats 8000000 in
set_option maxRecDepth 100000 in
theorem pop_any (B bb k:Nat) (z:Zi) (sv nv:Value) (nvs:List Value) (bl:List Nat) (w:World) (h:BS w B bb z sv nv nvs bl) (hk:k≤z.up.length):
 Calls Tryz.prog 73 #[.pointer (some ⟨bb,0,none⟩),.int .i64 (k:Int)] w fun e w'=>e=.returned (.tuple #[])∧BSOut B bb (FpS bb sv nv bl) w (z.to k) w':=by
 have HH:=Lib.hid (show BSOut B bb (FpS bb sv nv bl) w z w from ⟨But.refl _ _,sv,nv,nvs,bl,h,fun q hq=>Or.inl hq⟩)
 have h10:=h.fit.2.2.1
 have HU:=Lib.hid hk
 clear h hk
 go_enter Tryz.func73,Tryz.ntmps73
 go_wp2_with fail
 go_loopw [4] (fun _ wr=>∃y:Zi,Hid (BSOut B bb (FpS bb sv nv bl) w y wr∧k≤y.up.length∧y.to k=z.to k)) (fun _ wr=>lenAt bb wr)
 case atStart=>exact ⟨z,Lib.hid ⟨HH.out,HU.out,rfl⟩⟩
 case round=>
  clear HH
  obtain ⟨⟨F,up,c⟩,HY⟩:=hrel
  obtain ⟨⟨hB,sv2,nv2,nvs2,bl2,hS,hq⟩,hk,hto⟩:=HY.out
  have hfit:=hS.fit
  have hm10:=hfit.2.2.1
  simp only at hm10 hk
  have p0:wr.cell? ⟨bb,0,none⟩=some sv2:=hS.lay.1 0
  have p1:wr.cell? ⟨bb,1,none⟩=some nv2:=hS.lay.1 1
  have f0:wr.frozen? ⟨bb,0,none⟩=false:=hS.lay.2 0
  have f1:wr.frozen? ⟨bb,1,none⟩=false:=hS.lay.2 1
  have HS:=Lib.hid hS
  by_cases he:up.length=k
  ·obtain ⟨s0,d0,hsv⟩:∃s0 d0,sv2=.slice s0 up.length d0:=by
    rcases hS.srow.2 with ⟨e,h1⟩ | ⟨g,cap,cur,e,_⟩
    ·simp only at h1;exact ⟨none,0,by rw[e,h1]⟩
    ·exact ⟨_,_,e⟩
   rw[hsv]at p0
   have hcmp:¬((up.length:Nat):Int)>(k:Int):=by omega
   have HE:=Lib.hid he
   have hyz:(⟨F,up,c⟩:Zi).to k=⟨F,up,c⟩:=by unfold Zi.to;simp only;rw[he,Nat.sub_self];rfl
   have HZ:=Lib.hid (hyz.symm.trans hto)
   clear he hto hyz hS hB hq hk hsv
   go_wp2
   go_end0
   have:=HY.out.1
   rw[HZ.out]at this
   exact ⟨rfl,this⟩
  ·cases up with
   | nil=>exact absurd (Nat.le_zero.1 hk).symm he
   | cons x up=>
    have hlt:k<up.length+1:=by simp only[List.length_cons]at hk he;omega
    have hcmp:((up.length:Nat):Int)+1>(k:Int):=by omega
    obtain ⟨gn,cap,gs,caps,A,ca,D,e,e1,e2,e3,e4,e5,e6,e7,e8⟩:=hS.popped
    have hbb:=(hS.lt bb (Or.inl rfl)).2
    rw[e1]at p1
    rw[e2]at p0
    have c0:=e7 0 _ rfl
    have c1:=e7 1 _ rfl
    have c2:=e7 2 _ rfl
    have c3:=e7 3 _ rfl
    have c4:=e7 4 _ rfl
    have c5:=e7 5 _ rfl
    simp only[Nat.add_zero]at c0
    have HP:=Lib.hid e8
    have hm9:up.length≤9:=by simp only[List.length_cons]at hm10;omega
    clear hm10
    have hix:((up.length:Nat):Int)+1<((up.length:Nat):Int)+1+1:=by omega
    have HE:=Lib.hid (And.intro e1 (And.intro e2 (And.intro hB (And.intro hq hto))))
    clear e1 e2 e7 e8 hto hS hB hq hk he
    go_wp2
    go_region
    go_wp2
    go_region
    ·go_wp2
     have HWW:=Lib.hid (popW (a:=.slice (some ⟨gs,0,none⟩) up.length caps) (b':=.slice (some ⟨gn,0,none⟩) (up.length+1) cap) HS.out.lay hbb #[.int .i64 1,.int .i64 x.sp,.string x.n,.string ⟨#[]⟩,.slice A x.al.length ca,.slice D F.len e] 56 (.cells #[.bool false] 4))
     generalize hwa:((((wr.setCell ⟨bb,1,none⟩ (.slice (some ⟨gn,0,none⟩) (up.length+1) cap)).setCell ⟨bb,0,none⟩ (.slice (some ⟨gs,0,none⟩) up.length caps)).alloc (.cells #[.int .i64 1,.int .i64 x.sp,.string x.n,.string ⟨#[]⟩,.slice A x.al.length ca,.slice D F.len e] 56)).alloc (.cells #[.bool false] 4)).drew.drew=wa at HWW ⊢
     have hk1:∀q,q<wr.heap.size→q≠bb→wa.heap[q]?=wr.heap[q]?:=fun q h1 h2=>HWW.out.1.block q h1 h2
     obtain ⟨D0,e0,xs,hcw,hro,hP60,hvb,hfin⟩:=HP.out wa HWW.out.1.size hk1 HWW.out.2.1
     have hszw:wr.heap.size<wa.heap.size:=World.block_lt_of_cell? wa ⟨wr.heap.size,0,none⟩ (HWW.out.2.2.1 0)
     obtain ⟨b0,b1',b2,b3,b4,b5⟩:=lay6 HWW.out.2.2
     have qa:=hcw.1
     have pa:wa.cell? ⟨bb,1,none⟩=some (.slice (some ⟨gn,0,none⟩) (up.length+1) cap):=HWW.out.2.1.1 1
     have HCW:=Lib.hid hcw.2
     have HRO:=Lib.hid hro
     have HVB:=Lib.hid hvb
     have HFN:=Lib.hid hfin
     have hxl:xs.length=x.P.len*6:=hro.1
     have hbw:bb<wa.heap.size:=Nat.lt_trans hbb hszw
     have hgw:gn<wa.heap.size:=Nat.lt_trans e5 hszw
     have hBb:B≤bb:=HS.out.le
     have hBw:B≤wa.heap.size:=by omega
     clear hcw hro hvb hfin hwa hk1 p0 p1 f0 f1 c0 c1 c2 c3 c4 c5 HP HY hfit HU h10 hcmp hix e3 e4
     obtain ⟨i0,hi0,hz0,hz1,hz2⟩:=info_of infoNode
     have HZ:=Lib.hid (And.intro hz0 (And.intro hz1 hz2))
     clear hz0 hz1 hz2
     have hnb:=World.new_ne wa ⟨bb,1,none⟩ pa
     have hng:=World.new_ne wa ⟨gn,up.length*6+5,none⟩ qa
     have hnx:=World.new_ne wa ⟨wr.heap.size,0,none⟩ b0
     have hix3:((up.length:Nat):Int)<((up.length:Nat):Int)+1:=by omega
     have hwr:IntKind.i64.wrap ((up.length:Nat):Int)=(up.length:Int):=IntWalk.i64_in _ (by omega)
     have hwr2:IntKind.i64.wrap (((up.length:Nat):Int)+1-1)=(up.length:Int):=by rw[Int.add_sub_cancel];exact hwr
     have hixP:((x.P.len:Nat):Int)<((x.P.len:Nat):Int)+1:=by omega
     have pb:=(World.cell?_of_block (w:=wa) (a:=⟨bb,1,none⟩) (w':=wa.alloc (.cells #[.int .i64 1,.int .i64 x.sp,.string x.n,.string ⟨#[]⟩,.slice A x.al.length ca,.slice D F.len e] 56)) (Below.heap_alloc wa _ bb hbw)).trans pa
     have qb:=(World.cell?_of_block (w:=wa) (a:=⟨gn,up.length*6+5,none⟩) (w':=wa.alloc (.cells #[.int .i64 1,.int .i64 x.sp,.string x.n,.string ⟨#[]⟩,.slice A x.al.length ca,.slice D F.len e] 56)) (Below.heap_alloc wa _ gn hgw)).trans qa
     have HSZW:=Lib.hid hszw
     have HNX:Hid (∀q,(Value.slice D0 x.P.len e0).ownBlock=some q→q≠wr.heap.size):=Lib.hid fun q hq e=>by have:=HS.out.lt q (HVB.out q hq).2.2.2;omega
     have HGB:Hid (gn≠bb∧gn≠wr.heap.size):=Lib.hid ⟨e6,by omega⟩
     refine wp_region_held_drew (S:=fun w'=>w'.cell? ⟨bb,1,none⟩=some (.slice (some ⟨gn,0,none⟩) (up.length+1) cap)∧w'.cell? ⟨wr.heap.size,0,none⟩=some (.int .i64 1)∧w'.cell? ⟨wr.heap.size,1,none⟩=some (.int .i64 x.sp)∧w'.cell? ⟨wr.heap.size,2,none⟩=some (.string x.n)∧w'.cell? ⟨wr.heap.size,3,none⟩=some (.string ⟨#[]⟩)∧w'.cell? ⟨wr.heap.size,4,none⟩=some (.slice A x.al.length ca)∧w'.cell? ⟨wr.heap.size,5,none⟩=some (.slice D F.len e)) (by kernel_rfl) ⟨pa,b0,b1',b2,b3,b4,b5⟩ (fun hHeld=>?_)
     refine wpAnyH_take (i:=0) (v:=.pointer (some ⟨bb,0,none⟩)) rfl (by kernel_rfl) (by kernel_rfl) (by kernel_rfl) (fun _ _ _ h=>h) (Or.inl ⟨by rfl,fun w hSw=>by (try dsimp only at hSw);go_simp⟩) (by assumption) ?_;(try simp only[Act.put,List.setIfInBounds_toArray,List.set_cons_zero,List.set_cons_succ,List.getElem_toArray,List.getElem_cons_zero])
     refine wpAnyH_take (i:=1) (v:=.pointer (some ⟨bb,0,none⟩)) rfl (by kernel_rfl) (by kernel_rfl) (by kernel_rfl) (fun _ _ _ h=>h) (Or.inl ⟨by rfl,fun w hSw=>by (try dsimp only at hSw);go_simp⟩) (by assumption) ?_;(try simp only[Act.put,List.setIfInBounds_toArray,List.set_cons_zero,List.set_cons_succ,List.getElem_toArray,List.getElem_cons_zero,List.getElem_cons_succ])
     refine wpAnyH_take (i:=2) (v:=.pointer (some ⟨bb,1,none⟩)) rfl (by kernel_rfl) (by kernel_rfl) (by kernel_rfl) (fun _ _ _ h=>h) (Or.inl ⟨by rfl,fun w hSw=>by (try dsimp only at hSw);go_simp⟩) (by assumption) ?_;(try simp only[Act.put,List.setIfInBounds_toArray,List.set_cons_zero,List.set_cons_succ,List.getElem_toArray,List.getElem_cons_zero,List.getElem_cons_succ])
     refine wpAnyH_take (i:=3) (v:=.slice (some ⟨gn,0,none⟩) (up.length+1) cap) rfl (by kernel_rfl) (by kernel_rfl) (by kernel_rfl) (fun _ _ _ h=>h) (Or.inl ⟨by rfl,fun w hSw=>by (try dsimp only at hSw);go_simp⟩) (by assumption) ?_;(try simp only[Act.put,List.setIfInBounds_toArray,List.set_cons_zero,List.set_cons_succ,List.getElem_toArray,List.getElem_cons_zero,List.getElem_cons_succ])
     refine wpAnyH_take (i:=4) (v:=.int .i64 ((up.length:Nat)+1:Int)) rfl (by kernel_rfl) (by kernel_rfl) (by kernel_rfl) (fun _ _ _ h=>h) (Or.inl ⟨by rfl,fun w hSw=>by (try dsimp only at hSw);go_simp⟩) (by assumption) ?_;(try simp only[Act.put,List.setIfInBounds_toArray,List.set_cons_zero,List.set_cons_succ,List.getElem_toArray,List.getElem_cons_zero,List.getElem_cons_succ])
     refine wpAnyH_take (i:=5) (v:=.int .i64 ((up.length:Nat):Int)) rfl (by kernel_rfl) (by kernel_rfl) (by kernel_rfl) (fun _ _ _ h=>h) (Or.inl ⟨by rfl,fun w hSw=>by (try dsimp only at hSw);go_simp⟩) (by assumption) ?_;(try simp only[Act.put,List.setIfInBounds_toArray,List.set_cons_zero,List.set_cons_succ,List.getElem_toArray,List.getElem_cons_zero,List.getElem_cons_succ])
     refine wpAnyH_take (i:=6) (v:=.pointer (some ⟨bb,0,none⟩)) rfl (by kernel_rfl) (by kernel_rfl) (by kernel_rfl) (fun _ _ _ h=>h) (Or.inl ⟨by rfl,fun w hSw=>by (try dsimp only at hSw);go_simp⟩) (by assumption) ?_;(try simp only[Act.put,List.setIfInBounds_toArray,List.set_cons_zero,List.set_cons_succ,List.getElem_toArray,List.getElem_cons_zero,List.getElem_cons_succ])
     refine wpAnyH_take (i:=7) (v:=.pointer (some ⟨bb,0,none⟩)) rfl (by kernel_rfl) (by kernel_rfl) (by kernel_rfl) (fun _ _ _ h=>h) (Or.inl ⟨by rfl,fun w hSw=>by (try dsimp only at hSw);go_simp⟩) (by assumption) ?_;(try simp only[Act.put,List.setIfInBounds_toArray,List.set_cons_zero,List.set_cons_succ,List.getElem_toArray,List.getElem_cons_zero,List.getElem_cons_succ])
     refine wpAnyH_take (i:=8) (v:=.pointer (some ⟨bb,1,none⟩)) rfl (by kernel_rfl) (by kernel_rfl) (by kernel_rfl) (fun _ _ _ h=>h) (Or.inl ⟨by rfl,fun w hSw=>by (try dsimp only at hSw);go_simp⟩) (by assumption) ?_;(try simp only[Act.put,List.setIfInBounds_toArray,List.set_cons_zero,List.set_cons_succ,List.getElem_toArray,List.getElem_cons_zero,List.getElem_cons_succ])
     refine wpAnyH_take (i:=9) (v:=.slice (some ⟨gn,0,none⟩) (up.length+1) cap) rfl (by kernel_rfl) (by kernel_rfl) (by kernel_rfl) (fun _ _ _ h=>h) (Or.inl ⟨by rfl,fun w hSw=>by (try dsimp only at hSw);go_simp⟩) (by assumption) ?_;(try simp only[Act.put,List.setIfInBounds_toArray,List.set_cons_zero,List.set_cons_succ,List.getElem_toArray,List.getElem_cons_zero,List.getElem_cons_succ])
     refine wpAnyH_take (i:=10) (v:=.int .i64 ((up.length:Nat)+1:Int)) rfl (by kernel_rfl) (by kernel_rfl) (by kernel_rfl) (fun _ _ _ h=>h) (Or.inl ⟨by rfl,fun w hSw=>by (try dsimp only at hSw);go_simp⟩) (by assumption) ?_;(try simp only[Act.put,List.setIfInBounds_toArray,List.set_cons_zero,List.set_cons_succ,List.getElem_toArray,List.getElem_cons_zero,List.getElem_cons_succ])
     refine wpAnyH_take (i:=11) (v:=.int .i64 ((up.length:Nat):Int)) rfl (by kernel_rfl) (by kernel_rfl) (by kernel_rfl) (fun _ _ _ h=>h) (Or.inl ⟨by rfl,fun w hSw=>by (try dsimp only at hSw);go_simp⟩) (by assumption) ?_;(try simp only[Act.put,List.setIfInBounds_toArray,List.set_cons_zero,List.set_cons_succ,List.getElem_toArray,List.getElem_cons_zero,List.getElem_cons_succ])
     refine wpAnyH_take (i:=12) (v:=.pointer (some ⟨gn,up.length*6,none⟩)) rfl (by kernel_rfl) (by kernel_rfl) (by kernel_rfl) (fun _ _ _ h=>h) (Or.inl ⟨by rfl,fun w hSw=>by (try dsimp only at hSw);go_simp⟩) (by assumption) ?_;(try simp only[Act.put,List.setIfInBounds_toArray,List.set_cons_zero,List.set_cons_succ,List.getElem_toArray,List.getElem_cons_zero,List.getElem_cons_succ])
     refine wpAnyH_take (i:=13) (v:=.pointer (some ⟨gn,up.length*6+5,none⟩)) rfl (by kernel_rfl) (by kernel_rfl) (by kernel_rfl) (fun _ _ _ h=>h) (Or.inl ⟨by rfl,fun w hSw=>by (try dsimp only at hSw);go_simp⟩) (by assumption) ?_;(try simp only[Act.put,List.setIfInBounds_toArray,List.set_cons_zero,List.set_cons_succ,List.getElem_toArray,List.getElem_cons_zero,List.getElem_cons_succ])
     refine wpAnyH_take (i:=15) (v:=.agg #[.int .i64 1,.int .i64 x.sp,.string x.n,.string ⟨#[]⟩,.slice A x.al.length ca,.slice D F.len e]) rfl (by kernel_rfl) (by kernel_rfl) (by kernel_rfl) (fun _ _ _ h=>h) (Or.inl ⟨by rfl,fun w hSw=>by (try dsimp only at hSw);go_simp⟩) (by assumption) ?_;(try simp only[Act.put,List.setIfInBounds_toArray,List.set_cons_zero,List.set_cons_succ,List.getElem_toArray,List.getElem_cons_zero,List.getElem_cons_succ])
     refine wpAnyH_ready (rs:=[14,16]) (by kernel_rfl) (by simp) ?_;refine AllReadyH.cons rfl (fun K hK=>?_) (AllReadyH.cons rfl (fun K hK=>?_) AllReadyH.nil)
     case' _=>
      go_simp;refine hK.out _ _ ⟨pa,b0,b1',b2,b3,b4,b5⟩ (fun hHeld=>?_);clear hK K;(try simp only[Act.put,List.setIfInBounds_toArray,List.set_cons_zero,List.set_cons_succ,List.getElem_toArray,List.getElem_cons_zero,List.getElem_cons_succ])
      refine wpAnyH_ready (rs:=[16]) (by kernel_rfl) (by simp) ?_;refine AllReadyH.cons rfl (fun K hK=>?_) AllReadyH.nil
     rotate_left
     case' _=>
      go_simp;refine hK.out _ _ (pop_keep (bb:=bb) (xb:=wr.heap.size) (w:=wa) (Below.heap_alloc wa _ bb hbw) (Below.heap_alloc wa _ wr.heap.size HSZW.out) ⟨pa,b0,b1',b2,b3,b4,b5⟩) (fun hHeld=>?_);clear hK K;(try simp only[Act.put,List.setIfInBounds_toArray,List.set_cons_zero,List.set_cons_succ,List.getElem_toArray,List.getElem_cons_zero,List.getElem_cons_succ])
      refine wpAnyH_ready (rs:=[14]) (by kernel_rfl) (by simp) ?_;refine AllReadyH.cons rfl (fun K hK=>?_) AllReadyH.nil
     rotate_left
     all_goals
      go_simp;refine hK.out _ _ (pop_keep (bb:=bb) (xb:=wr.heap.size) (w:=wa) (Below.heap_alloc wa _ bb hbw) (Below.heap_alloc wa _ wr.heap.size HSZW.out) ⟨pa,b0,b1',b2,b3,b4,b5⟩) (fun hHeld=>?_);clear hK K;(try simp only[Act.put,List.setIfInBounds_toArray,List.set_cons_zero,List.set_cons_succ,List.getElem_toArray,List.getElem_cons_zero,List.getElem_cons_succ])
      refine wpAnyH_ready (rs:=[17]) (by kernel_rfl) (by simp) ?_;refine AllReadyH.cons rfl (fun K hK=>?_) AllReadyH.nil
      refine step_append_lies _ (by rfl) _ _ _ (by rfl) B 56 i0 _ 6 96 Tryz.underlying24 hi0 HZ.out.1 HZ.out.2.1 HZ.out.2.2 rfl (by omega) (.slice D0 x.P.len e0) x.P.len xs (by rfl) (HRO.out.alloc _) ⟨wa.heap.size,0,none⟩ 1 1 [.int .i64 1,.int .i64 x.sp,.string x.n,.string ⟨#[]⟩,.slice A x.al.length ca,.slice D F.len e] (by rfl) (by rfl) (World.news_of_block (cs:=#[.int .i64 1,.int .i64 x.sp,.string x.n,.string ⟨#[]⟩,.slice A x.al.length ca,.slice D F.len e]) (t:=56) (fr:=(0,0)) (heap_alloc_new wa _)) (by simp[Value.oneCell']) (by omega) (by unfold maxLen;omega) (by omega) (by simp;omega) (wa.heap.size+1) (by simp) ?_;intro gg cap1 w1 hown1 hgrow hat hlt;have hbk:w1.heap[bb]?=wa.heap[bb]?:=(hgrow.block bb (by simp;omega) (fun h=>(HVB.out bb h.symm).1 rfl)).trans (Below.heap_alloc wa _ bb hbw);have hgk:w1.heap[gn]?=wa.heap[gn]?:=(hgrow.block gn (by simp;omega) (fun h=>(HVB.out gn h.symm).2.1 rfl)).trans (Below.heap_alloc wa _ gn hgw);have hxk:w1.heap[wr.heap.size]?=wa.heap[wr.heap.size]?:=(hgrow.block wr.heap.size (by have:=HSZW.out;simp;omega) (fun h=>HNX.out _ h.symm rfl)).trans (Below.heap_alloc wa _ wr.heap.size HSZW.out);have r0:=(World.cell?_of_block (w:=wa) (a:=⟨gn,up.length*6+5,none⟩) hgk).trans qa;have r1:=(World.frozen?_of_block (w:=wa) (a:=⟨gn,up.length*6+5,none⟩) hgk).trans HCW.out;have hS1:=pop_keep (bb:=bb) (xb:=wr.heap.size) (w:=wa) (w':=w1) hbk hxk ⟨pa,b0,b1',b2,b3,b4,b5⟩;have HW1:=Lib.hid (And.intro hown1 (And.intro hgrow (And.intro hat (And.intro hbk hgk))));clear hown1 hgrow hat hlt hbk hgk hxk
      refine hK.out _ _ hS1 (fun hHeld=>?_);clear hK K;(try simp only[Act.put,List.setIfInBounds_toArray,List.set_cons_zero,List.set_cons_succ,List.getElem_toArray,List.getElem_cons_zero,List.getElem_cons_succ])
      refine wpAnyH_take (i:=18) (v:=.pointer (some ⟨gn,up.length*6,none⟩)) rfl (by kernel_rfl) (by kernel_rfl) (by kernel_rfl) (fun _ _ _ h=>h) (Or.inl ⟨by rfl,fun w hSw=>by (try dsimp only at hSw);go_simp⟩) (by assumption) ?_;(try simp only[Act.put,List.setIfInBounds_toArray,List.set_cons_zero,List.set_cons_succ,List.getElem_toArray,List.getElem_cons_zero,List.getElem_cons_succ])
      refine wpAnyH_take (i:=19) (v:=.pointer (some ⟨gn,up.length*6+5,none⟩)) rfl (by kernel_rfl) (by kernel_rfl) (by kernel_rfl) (fun _ _ _ h=>h) (Or.inl ⟨by rfl,fun w hSw=>by (try dsimp only at hSw);go_simp⟩) (by assumption) ?_;(try simp only[Act.put,List.setIfInBounds_toArray,List.set_cons_zero,List.set_cons_succ,List.getElem_toArray,List.getElem_cons_zero,List.getElem_cons_succ])
      refine wpAnyH_ready (rs:=[20]) (by kernel_rfl) (by simp) ?_;refine AllReadyH.cons rfl (fun K hK=>?_) AllReadyH.nil
      go_simp;refine hK.out _ _ (pop_keep (bb:=bb) (xb:=wr.heap.size) (w:=w1) (Below.heap_setCell w1 ⟨gn,up.length*6+5,none⟩ _ bb (Ne.symm HGB.out.1)) (Below.heap_setCell w1 ⟨gn,up.length*6+5,none⟩ _ wr.heap.size (Ne.symm HGB.out.2)) hS1) (fun hHeld=>?_);clear hK K;(try simp only[Act.put,List.setIfInBounds_toArray,List.set_cons_zero,List.set_cons_succ,List.getElem_toArray,List.getElem_cons_zero,List.getElem_cons_succ])
      refine wpAnyH_done (by kernel_rfl) ?_ _
      clear b0 b1' b2 b3 b4 b5 qa qb pa pb r0 r1 hS1
      go_wp2
      exact pop_fin HS.out HE.out.2.2.1 HE.out.2.2.2.1 HE.out.2.2.2.2 hlt HWW.out.1 HVB.out (mem_ownL.2 (by rw[HE.out.1];rfl)) HFN.out ((but_grown HW1.out.2.1).mono fun q h=>Or.inl h) HW1.out.1 HW1.out.2.2.1 rfl
    ·go_wp2
     have HWW:=Lib.hid (popW (a:=.slice (some ⟨gs,0,none⟩) up.length caps) (b':=.slice (some ⟨gn,0,none⟩) (up.length+1) cap) HS.out.lay hbb #[.int .i64 1,.int .i64 x.sp,.string x.n,.string ⟨#[]⟩,.slice A x.al.length ca,.slice D F.len e] 56 (.cells #[.bool true] 4))
     generalize hwa:((((wr.setCell ⟨bb,1,none⟩ (.slice (some ⟨gn,0,none⟩) (up.length+1) cap)).setCell ⟨bb,0,none⟩ (.slice (some ⟨gs,0,none⟩) up.length caps)).alloc (.cells #[.int .i64 1,.int .i64 x.sp,.string x.n,.string ⟨#[]⟩,.slice A x.al.length ca,.slice D F.len e] 56)).alloc (.cells #[.bool true] 4)).drew.drew=wa at HWW ⊢
     have hk1:∀q,q<wr.heap.size→q≠bb→wa.heap[q]?=wr.heap[q]?:=fun q h1 h2=>HWW.out.1.block q h1 h2
     obtain ⟨D0,e0,xs,hcw,hro,hP60,hvb,hfin⟩:=HP.out wa HWW.out.1.size hk1 HWW.out.2.1
     have hszw:wr.heap.size<wa.heap.size:=World.block_lt_of_cell? wa ⟨wr.heap.size,0,none⟩ (HWW.out.2.2.1 0)
     obtain ⟨b0,b1',b2,b3,b4,b5⟩:=lay6 HWW.out.2.2
     have qa:=hcw.1
     have pa:wa.cell? ⟨bb,1,none⟩=some (.slice (some ⟨gn,0,none⟩) (up.length+1) cap):=HWW.out.2.1.1 1
     have HCW:=Lib.hid hcw.2
     have HRO:=Lib.hid hro
     have HVB:=Lib.hid hvb
     have HFN:=Lib.hid hfin
     have hxl:xs.length=x.P.len*6:=hro.1
     have hbw:bb<wa.heap.size:=Nat.lt_trans hbb hszw
     have hgw:gn<wa.heap.size:=Nat.lt_trans e5 hszw
     have hBb:B≤bb:=HS.out.le
     have hBw:B≤wa.heap.size:=by omega
     clear hcw hro hvb hfin hwa hk1 p0 p1 f0 f1 c0 c1 c2 c3 c4 c5 HP HY hfit HU h10 hcmp hix e3 e4
     obtain ⟨i0,hi0,hz0,hz1,hz2⟩:=info_of infoNode
     have HZ:=Lib.hid (And.intro hz0 (And.intro hz1 hz2))
     clear hz0 hz1 hz2
     have hnb:=World.new_ne wa ⟨bb,1,none⟩ pa
     have hng:=World.new_ne wa ⟨gn,up.length*6+5,none⟩ qa
     have hnx:=World.new_ne wa ⟨wr.heap.size,0,none⟩ b0
     have hix3:((up.length:Nat):Int)<((up.length:Nat):Int)+1:=by omega
     have hwr:IntKind.i64.wrap ((up.length:Nat):Int)=(up.length:Int):=IntWalk.i64_in _ (by omega)
     have hwr2:IntKind.i64.wrap (((up.length:Nat):Int)+1-1)=(up.length:Int):=by rw[Int.add_sub_cancel];exact hwr
     have hixP:((x.P.len:Nat):Int)<((x.P.len:Nat):Int)+1:=by omega
     have pb:=(World.cell?_of_block (w:=wa) (a:=⟨bb,1,none⟩) (w':=wa.alloc (.cells #[.int .i64 0,.int .i64 0,.string ⟨#[]⟩,.string ⟨#[]⟩,.slice none 0 0,.slice none 0 0] 56)) (Below.heap_alloc wa _ bb hbw)).trans pa
     have qb:=(World.cell?_of_block (w:=wa) (a:=⟨gn,up.length*6+5,none⟩) (w':=wa.alloc (.cells #[.int .i64 0,.int .i64 0,.string ⟨#[]⟩,.string ⟨#[]⟩,.slice none 0 0,.slice none 0 0] 56)) (Below.heap_alloc wa _ gn hgw)).trans qa
     have HSZW:=Lib.hid hszw
     have HNX:Hid (∀q,(Value.slice D0 x.P.len e0).ownBlock=some q→q≠wr.heap.size):=Lib.hid fun q hq e=>by have:=HS.out.lt q (HVB.out q hq).2.2.2;omega
     have HGB:Hid (gn≠bb∧gn≠wr.heap.size):=Lib.hid ⟨e6,by omega⟩
     refine wp_region_held_drew (S:=fun w'=>w'.cell? ⟨bb,1,none⟩=some (.slice (some ⟨gn,0,none⟩) (up.length+1) cap)∧w'.cell? ⟨wr.heap.size,0,none⟩=some (.int .i64 1)∧w'.cell? ⟨wr.heap.size,1,none⟩=some (.int .i64 x.sp)∧w'.cell? ⟨wr.heap.size,2,none⟩=some (.string x.n)∧w'.cell? ⟨wr.heap.size,3,none⟩=some (.string ⟨#[]⟩)∧w'.cell? ⟨wr.heap.size,4,none⟩=some (.slice A x.al.length ca)∧w'.cell? ⟨wr.heap.size,5,none⟩=some (.slice D F.len e)) (by kernel_rfl) ⟨pa,b0,b1',b2,b3,b4,b5⟩ (fun hHeld=>?_)
     refine wpAnyH_take (i:=0) (v:=.pointer (some ⟨bb,0,none⟩)) rfl (by kernel_rfl) (by kernel_rfl) (by kernel_rfl) (fun _ _ _ h=>h) (Or.inl ⟨by rfl,fun w hSw=>by (try dsimp only at hSw);go_simp⟩) (by assumption) ?_;(try simp only[Act.put,List.setIfInBounds_toArray,List.set_cons_zero,List.set_cons_succ,List.getElem_toArray,List.getElem_cons_zero])
     refine wpAnyH_take (i:=1) (v:=.pointer (some ⟨bb,0,none⟩)) rfl (by kernel_rfl) (by kernel_rfl) (by kernel_rfl) (fun _ _ _ h=>h) (Or.inl ⟨by rfl,fun w hSw=>by (try dsimp only at hSw);go_simp⟩) (by assumption) ?_;(try simp only[Act.put,List.setIfInBounds_toArray,List.set_cons_zero,List.set_cons_succ,List.getElem_toArray,List.getElem_cons_zero,List.getElem_cons_succ])
     refine wpAnyH_take (i:=2) (v:=.pointer (some ⟨bb,1,none⟩)) rfl (by kernel_rfl) (by kernel_rfl) (by kernel_rfl) (fun _ _ _ h=>h) (Or.inl ⟨by rfl,fun w hSw=>by (try dsimp only at hSw);go_simp⟩) (by assumption) ?_;(try simp only[Act.put,List.setIfInBounds_toArray,List.set_cons_zero,List.set_cons_succ,List.getElem_toArray,List.getElem_cons_zero,List.getElem_cons_succ])
     refine wpAnyH_take (i:=3) (v:=.slice (some ⟨gn,0,none⟩) (up.length+1) cap) rfl (by kernel_rfl) (by kernel_rfl) (by kernel_rfl) (fun _ _ _ h=>h) (Or.inl ⟨by rfl,fun w hSw=>by (try dsimp only at hSw);go_simp⟩) (by assumption) ?_;(try simp only[Act.put,List.setIfInBounds_toArray,List.set_cons_zero,List.set_cons_succ,List.getElem_toArray,List.getElem_cons_zero,List.getElem_cons_succ])
     refine wpAnyH_take (i:=4) (v:=.int .i64 ((up.length:Nat)+1:Int)) rfl (by kernel_rfl) (by kernel_rfl) (by kernel_rfl) (fun _ _ _ h=>h) (Or.inl ⟨by rfl,fun w hSw=>by (try dsimp only at hSw);go_simp⟩) (by assumption) ?_;(try simp only[Act.put,List.setIfInBounds_toArray,List.set_cons_zero,List.set_cons_succ,List.getElem_toArray,List.getElem_cons_zero,List.getElem_cons_succ])
     refine wpAnyH_take (i:=5) (v:=.int .i64 ((up.length:Nat):Int)) rfl (by kernel_rfl) (by kernel_rfl) (by kernel_rfl) (fun _ _ _ h=>h) (Or.inl ⟨by rfl,fun w hSw=>by (try dsimp only at hSw);go_simp⟩) (by assumption) ?_;(try simp only[Act.put,List.setIfInBounds_toArray,List.set_cons_zero,List.set_cons_succ,List.getElem_toArray,List.getElem_cons_zero,List.getElem_cons_succ])
     refine wpAnyH_take (i:=6) (v:=.pointer (some ⟨bb,0,none⟩)) rfl (by kernel_rfl) (by kernel_rfl) (by kernel_rfl) (fun _ _ _ h=>h) (Or.inl ⟨by rfl,fun w hSw=>by (try dsimp only at hSw);go_simp⟩) (by assumption) ?_;(try simp only[Act.put,List.setIfInBounds_toArray,List.set_cons_zero,List.set_cons_succ,List.getElem_toArray,List.getElem_cons_zero,List.getElem_cons_succ])
     refine wpAnyH_take (i:=7) (v:=.pointer (some ⟨bb,0,none⟩)) rfl (by kernel_rfl) (by kernel_rfl) (by kernel_rfl) (fun _ _ _ h=>h) (Or.inl ⟨by rfl,fun w hSw=>by (try dsimp only at hSw);go_simp⟩) (by assumption) ?_;(try simp only[Act.put,List.setIfInBounds_toArray,List.set_cons_zero,List.set_cons_succ,List.getElem_toArray,List.getElem_cons_zero,List.getElem_cons_succ])
     refine wpAnyH_take (i:=8) (v:=.pointer (some ⟨bb,1,none⟩)) rfl (by kernel_rfl) (by kernel_rfl) (by kernel_rfl) (fun _ _ _ h=>h) (Or.inl ⟨by rfl,fun w hSw=>by (try dsimp only at hSw);go_simp⟩) (by assumption) ?_;(try simp only[Act.put,List.setIfInBounds_toArray,List.set_cons_zero,List.set_cons_succ,List.getElem_toArray,List.getElem_cons_zero,List.getElem_cons_succ])
     refine wpAnyH_take (i:=9) (v:=.slice (some ⟨gn,0,none⟩) (up.length+1) cap) rfl (by kernel_rfl) (by kernel_rfl) (by kernel_rfl) (fun _ _ _ h=>h) (Or.inl ⟨by rfl,fun w hSw=>by (try dsimp only at hSw);go_simp⟩) (by assumption) ?_;(try simp only[Act.put,List.setIfInBounds_toArray,List.set_cons_zero,List.set_cons_succ,List.getElem_toArray,List.getElem_cons_zero,List.getElem_cons_succ])
     refine wpAnyH_take (i:=10) (v:=.int .i64 ((up.length:Nat)+1:Int)) rfl (by kernel_rfl) (by kernel_rfl) (by kernel_rfl) (fun _ _ _ h=>h) (Or.inl ⟨by rfl,fun w hSw=>by (try dsimp only at hSw);go_simp⟩) (by assumption) ?_;(try simp only[Act.put,List.setIfInBounds_toArray,List.set_cons_zero,List.set_cons_succ,List.getElem_toArray,List.getElem_cons_zero,List.getElem_cons_succ])
     refine wpAnyH_take (i:=11) (v:=.int .i64 ((up.length:Nat):Int)) rfl (by kernel_rfl) (by kernel_rfl) (by kernel_rfl) (fun _ _ _ h=>h) (Or.inl ⟨by rfl,fun w hSw=>by (try dsimp only at hSw);go_simp⟩) (by assumption) ?_;(try simp only[Act.put,List.setIfInBounds_toArray,List.set_cons_zero,List.set_cons_succ,List.getElem_toArray,List.getElem_cons_zero,List.getElem_cons_succ])
     refine wpAnyH_take (i:=12) (v:=.pointer (some ⟨gn,up.length*6,none⟩)) rfl (by kernel_rfl) (by kernel_rfl) (by kernel_rfl) (fun _ _ _ h=>h) (Or.inl ⟨by rfl,fun w hSw=>by (try dsimp only at hSw);go_simp⟩) (by assumption) ?_;(try simp only[Act.put,List.setIfInBounds_toArray,List.set_cons_zero,List.set_cons_succ,List.getElem_toArray,List.getElem_cons_zero,List.getElem_cons_succ])
     refine wpAnyH_take (i:=13) (v:=.pointer (some ⟨gn,up.length*6+5,none⟩)) rfl (by kernel_rfl) (by kernel_rfl) (by kernel_rfl) (fun _ _ _ h=>h) (Or.inl ⟨by rfl,fun w hSw=>by (try dsimp only at hSw);go_simp⟩) (by assumption) ?_;(try simp only[Act.put,List.setIfInBounds_toArray,List.set_cons_zero,List.set_cons_succ,List.getElem_toArray,List.getElem_cons_zero,List.getElem_cons_succ])
     refine wpAnyH_take (i:=15) (v:=.agg #[.int .i64 1,.int .i64 x.sp,.string x.n,.string ⟨#[]⟩,.slice A x.al.length ca,.slice D F.len e]) rfl (by kernel_rfl) (by kernel_rfl) (by kernel_rfl) (fun _ _ _ h=>h) (Or.inl ⟨by rfl,fun w hSw=>by (try dsimp only at hSw);go_simp⟩) (by assumption) ?_;(try simp only[Act.put,List.setIfInBounds_toArray,List.set_cons_zero,List.set_cons_succ,List.getElem_toArray,List.getElem_cons_zero,List.getElem_cons_succ])
     refine wpAnyH_ready (rs:=[14,17]) (by kernel_rfl) (by simp) ?_;refine AllReadyH.cons rfl (fun K hK=>?_) (AllReadyH.cons rfl (fun K hK=>?_) AllReadyH.nil)
     case' _=>
      go_simp;refine hK.out _ _ ⟨pa,b0,b1',b2,b3,b4,b5⟩ (fun hHeld=>?_);clear hK K;(try simp only[Act.put,List.setIfInBounds_toArray,List.set_cons_zero,List.set_cons_succ,List.getElem_toArray,List.getElem_cons_zero,List.getElem_cons_succ])
      refine wpAnyH_take (i:=16) (v:=.int .i64 ((x.P.len:Nat):Int)) rfl (by kernel_rfl) (by kernel_rfl) (by kernel_rfl) (fun _ _ _ h=>h) (Or.inl ⟨by rfl,fun w hSw=>by (try dsimp only at hSw);go_simp⟩) (by assumption) ?_;(try simp only[Act.put,List.setIfInBounds_toArray,List.set_cons_zero,List.set_cons_succ,List.getElem_toArray,List.getElem_cons_zero,List.getElem_cons_succ])
      refine wpAnyH_ready (rs:=[17]) (by kernel_rfl) (by simp) ?_;refine AllReadyH.cons rfl (fun K hK=>?_) AllReadyH.nil
      go_simp;refine hK.out _ _ (pop_keep (bb:=bb) (xb:=wr.heap.size) (w:=wa) (Below.heap_alloc wa _ bb hbw) (Below.heap_alloc wa _ wr.heap.size HSZW.out) ⟨pa,b0,b1',b2,b3,b4,b5⟩) (fun hHeld=>?_);clear hK K;(try simp only[Act.put,List.setIfInBounds_toArray,List.set_cons_zero,List.set_cons_succ,List.getElem_toArray,List.getElem_cons_zero,List.getElem_cons_succ])
     rotate_left
     case' _=>
      go_simp;refine hK.out _ _ (pop_keep (bb:=bb) (xb:=wr.heap.size) (w:=wa) (Below.heap_alloc wa _ bb hbw) (Below.heap_alloc wa _ wr.heap.size HSZW.out) ⟨pa,b0,b1',b2,b3,b4,b5⟩) (fun hHeld=>?_);clear hK K;(try simp only[Act.put,List.setIfInBounds_toArray,List.set_cons_zero,List.set_cons_succ,List.getElem_toArray,List.getElem_cons_zero,List.getElem_cons_succ])
      refine wpAnyH_ready (rs:=[14]) (by kernel_rfl) (by simp) ?_;refine AllReadyH.cons rfl (fun K hK=>?_) AllReadyH.nil
      go_simp;refine hK.out _ _ (pop_keep (bb:=bb) (xb:=wr.heap.size) (w:=wa) (Below.heap_alloc wa _ bb hbw) (Below.heap_alloc wa _ wr.heap.size HSZW.out) ⟨pa,b0,b1',b2,b3,b4,b5⟩) (fun hHeld=>?_);clear hK K;(try simp only[Act.put,List.setIfInBounds_toArray,List.set_cons_zero,List.set_cons_succ,List.getElem_toArray,List.getElem_cons_zero,List.getElem_cons_succ])
      refine wpAnyH_take (i:=16) (v:=.int .i64 ((x.P.len:Nat):Int)) rfl (by kernel_rfl) (by kernel_rfl) (by kernel_rfl) (fun _ _ _ h=>h) (Or.inl ⟨by rfl,fun w hSw=>by (try dsimp only at hSw);go_simp⟩) (by assumption) ?_;(try simp only[Act.put,List.setIfInBounds_toArray,List.set_cons_zero,List.set_cons_succ,List.getElem_toArray,List.getElem_cons_zero,List.getElem_cons_succ])
     rotate_left
     all_goals
      refine wpAnyH_ready (rs:=[18]) (by kernel_rfl) (by simp) ?_;refine AllReadyH.cons rfl (fun K hK=>?_) AllReadyH.nil
      refine step_append_lies _ (by rfl) _ _ _ (by rfl) B 56 i0 _ 6 96 Tryz.underlying24 hi0 HZ.out.1 HZ.out.2.1 HZ.out.2.2 rfl (by omega) (.slice D0 x.P.len e0) x.P.len xs (by rfl) (HRO.out.alloc _) ⟨wa.heap.size,0,none⟩ 1 1 [.int .i64 0,.int .i64 0,.string ⟨#[]⟩,.string ⟨#[]⟩,.slice none 0 0,.slice none 0 0] (by rfl) (by rfl) (World.news_of_block (cs:=#[.int .i64 0,.int .i64 0,.string ⟨#[]⟩,.string ⟨#[]⟩,.slice none 0 0,.slice none 0 0]) (t:=56) (fr:=(0,0)) (heap_alloc_new wa _)) (by simp[Value.oneCell']) (by omega) (by unfold maxLen;omega) (by omega) (by simp;omega) (wa.heap.size+1) (by simp) ?_;intro gg cap1 w1 hown1 hgrow hat hlt;have hbk:w1.heap[bb]?=wa.heap[bb]?:=(hgrow.block bb (by simp;omega) (fun h=>(HVB.out bb h.symm).1 rfl)).trans (Below.heap_alloc wa _ bb hbw);have hgk:w1.heap[gn]?=wa.heap[gn]?:=(hgrow.block gn (by simp;omega) (fun h=>(HVB.out gn h.symm).2.1 rfl)).trans (Below.heap_alloc wa _ gn hgw);have hxk:w1.heap[wr.heap.size]?=wa.heap[wr.heap.size]?:=(hgrow.block wr.heap.size (by have:=HSZW.out;simp;omega) (fun h=>HNX.out _ h.symm rfl)).trans (Below.heap_alloc wa _ wr.heap.size HSZW.out);have r0:=(World.cell?_of_block (w:=wa) (a:=⟨gn,up.length*6+5,none⟩) hgk).trans qa;have r1:=(World.frozen?_of_block (w:=wa) (a:=⟨gn,up.length*6+5,none⟩) hgk).trans HCW.out;have hS1:=pop_keep (bb:=bb) (xb:=wr.heap.size) (w:=wa) (w':=w1) hbk hxk ⟨pa,b0,b1',b2,b3,b4,b5⟩;have G:gn≠gg∧gg≠gn:=(by rcases hat with e | e;(have:=(HVB.out gg e).2.1;exact ⟨fun h=>this h.symm,this⟩);omega);have G1:=G.1;have G2:=G.2;have hz:∀j u,j<6→([.int .i64 0,.int .i64 0,.string ⟨#[]⟩,.string ⟨#[]⟩,.slice none 0 0,.slice none 0 0]:List Value)[j]?=some u→w1.cell? ⟨gg,x.P.len*6+j,none⟩=some u:=(fun j u hj hu=>by rw[hown1.cellAt _ (by omega),List.getElem?_append_right (by omega),hxl,Nat.add_sub_cancel_left];exact hu);have z0:w1.cell? ⟨gg,x.P.len*6,none⟩=some (.int .i64 0):=hz 0 _ (by omega) rfl;have z1:=hz 1 _ (by omega) rfl;have z2:=hz 2 _ (by omega) rfl;have z3:=hz 3 _ (by omega) rfl;have z4:=hz 4 _ (by omega) rfl;have z5:=hz 5 _ (by omega) rfl;have zf:=hown1.frozenAt;clear hz;have HW1:=Lib.hid (And.intro hown1 (And.intro hgrow (And.intro hat (And.intro hbk hgk))));clear hown1 hgrow hat hlt hbk hgk hxk
      refine hK.out _ _ hS1 (fun hHeld=>?_);clear hK K;(try simp only[Act.put,List.setIfInBounds_toArray,List.set_cons_zero,List.set_cons_succ,List.getElem_toArray,List.getElem_cons_zero,List.getElem_cons_succ])
      refine wpAnyH_take (i:=19) (v:=.pointer (some ⟨gn,up.length*6,none⟩)) rfl (by kernel_rfl) (by kernel_rfl) (by kernel_rfl) (fun _ _ _ h=>h) (Or.inl ⟨by rfl,fun w hSw=>by (try dsimp only at hSw);go_simp⟩) (by assumption) ?_;(try simp only[Act.put,List.setIfInBounds_toArray,List.set_cons_zero,List.set_cons_succ,List.getElem_toArray,List.getElem_cons_zero,List.getElem_cons_succ])
      refine wpAnyH_take (i:=20) (v:=.pointer (some ⟨gn,up.length*6+5,none⟩)) rfl (by kernel_rfl) (by kernel_rfl) (by kernel_rfl) (fun _ _ _ h=>h) (Or.inl ⟨by rfl,fun w hSw=>by (try dsimp only at hSw);go_simp⟩) (by assumption) ?_;(try simp only[Act.put,List.setIfInBounds_toArray,List.set_cons_zero,List.set_cons_succ,List.getElem_toArray,List.getElem_cons_zero,List.getElem_cons_succ])
      refine wpAnyH_ready (rs:=[21]) (by kernel_rfl) (by simp) ?_;refine AllReadyH.cons rfl (fun K hK=>?_) AllReadyH.nil
      go_simp;refine hK.out _ _ (pop_keep (bb:=bb) (xb:=wr.heap.size) (w:=w1) (Below.heap_setCell w1 ⟨gn,up.length*6+5,none⟩ _ bb (Ne.symm HGB.out.1)) (Below.heap_setCell w1 ⟨gn,up.length*6+5,none⟩ _ wr.heap.size (Ne.symm HGB.out.2)) hS1) (fun hHeld=>?_);clear hK K;(try simp only[Act.put,List.setIfInBounds_toArray,List.set_cons_zero,List.set_cons_succ,List.getElem_toArray,List.getElem_cons_zero,List.getElem_cons_succ])
      refine wpAnyH_done (by kernel_rfl) ?_ _
      clear b0 b1' b2 b3 b4 b5 qa qb pa pb r0 r1
      obtain ⟨_,b0,b1',b2,b3,b4,b5⟩:=hS1
      go_wp2
      exact pop_fin HS.out HE.out.2.2.1 HE.out.2.2.2.1 HE.out.2.2.2.2 hlt HWW.out.1 HVB.out (mem_ownL.2 (by rw[HE.out.1];rfl)) HFN.out (but_six ((but_grown HW1.out.2.1).mono fun q h=>Or.inl h) (Or.imp Or.inl (fun h=>by omega) HW1.out.2.2.1)) (own_six HW1.out.1 hxl _ _ _ _ _ _) HW1.out.2.2.1 (six_comm _ _ _ _ _ _ _ _ _ _ _ _ G1)
end Go.Proofs.YthdkkpbhijlpaaaGreatDoor
namespace Go.Proofs.YthdkkpbhijlpaaaGreatDoor
open Go.ChangeShapes Go.WideShapes Go.ChangeAt Go.RowKit Go.Deep
theorem BS.top {w:World} {B bb:Nat} {F:Fo} {x:Fr} {up:List Fr} {c:Nat} {sv nv:Value} {nvs:List Value} {bl:List Nat} (h:BS w B bb ⟨F,x::up,c⟩ sv nv nvs bl):
 ∃gs caps,sv=.slice (some ⟨gs,0,none⟩) (up.length+1) caps∧gs<w.heap.size∧w.cell? ⟨gs,up.length*2,none⟩=some (.string x.n)∧w.cell? ⟨gs,up.length*2+1,none⟩=some (.int .i64 x.sp):=by
 obtain ⟨gs,caps,hsv⟩:∃gs caps,sv=.slice (some ⟨gs,0,none⟩) (up.length+1) caps:=by
  rcases h.srow.2 with ⟨_,h0⟩ | ⟨g,cap,cur,e,_⟩
  ·exact absurd h0 (by simp)
  ·exact ⟨g,cap,e⟩
 have hsr:=h.srow
 have hlt:=(World.ownsRow.lt hsr gs (by rw[hsv];rfl)).2
 rw[hsv,opensOf_cons,osVals_snoc]at hsr
 have hl:(osVals (opensOf up)).length=up.length*2:=by rw[osVals_len,opensOf_len]
 refine ⟨gs,caps,hsv,hlt,?_,?_⟩
 ·rw[hsr.cellAt _ (by omega),List.getElem?_append_right (by omega),hl,Nat.sub_self];rfl
 ·rw[hsr.cellAt _ (by omega),List.getElem?_append_right (by omega),hl,Nat.add_sub_cancel_left];rfl
set_option maxHeartbeats 1000000 in
set_option maxRecDepth 100000 in
theorem rawS_any (B bb:Nat) (z:Zi) (sv nv:Value) (nvs:List Value) (bl:List Nat) (w:World) (h:BS w B bb z sv nv nvs bl):
 Calls Tryz.prog 71 #[.pointer (some ⟨bb,0,none⟩)] w fun e w'=>e=.returned (.string z.raw)∧Below w.heap.size w w':=by
 have p0:w.cell? ⟨bb,0,none⟩=some sv:=h.lay.1 0
 have hm10:=h.fit.2.2.1
 obtain ⟨F,up,c⟩:=z
 cases up with
 | nil=>
  obtain ⟨s0,d0,hsv⟩:∃s0 d0,sv=.slice s0 0 d0:=by
   rcases h.srow.2 with ⟨e,_⟩ | ⟨g,cap,cur,e,_⟩
   ·exact ⟨none,0,e⟩
   ·exact ⟨_,_,e⟩
  rw[hsv]at p0
  clear h
  have E:Hid ((⟨F,[],c⟩:Zi).raw=⟨#[]⟩):=Lib.hid (by
   simp only[Zi.raw,rawIn,opensOf,List.map_nil,List.reverse_nil,topOf_nil]
   rw[if_neg (by simp only[inL,ByteArray.toList_eq];decide)])
  go_enter Tryz.func71,Tryz.ntmps71
  go_wp2
  go_ret
  exact ⟨by rw[E.out];rfl,Below.refl _ _⟩
 | cons x up=>
  obtain ⟨gs,caps,hsv,hlt,t0,t1⟩:=h.top
  rw[hsv]at p0
  simp only[List.length_cons]at hm10
  have hix:((up.length:Nat):Int)<((up.length:Nat):Int)+1:=by omega
  have hpos:((up.length:Nat):Int)+1>0:=by omega
  have hbb:=(h.lt bb (Or.inl rfl)).2
  clear h hsv
  by_cases hs:x.sp=0
  ·have hs':(x.sp==0)=true:=by simpa using hs
   cases hr:inL rawL x.n with
   | true=>
    have E:Hid ((⟨F,x::up,c⟩:Zi).raw=x.n):=Lib.hid (by
     simp only[Zi.raw,rawIn,topOf_cons]
     rw[if_pos (by rw[hs',hr];rfl)])
    have HR:=Lib.hid hr
    rw[hs]at t1
    clear hr hs hs'
    go_enter Tryz.func71,Tryz.ntmps71
    go_wp2_with (go_at_call 80;refine (l01Raw_any x.n _).mono ?_;rintro e w1 ⟨rfl,hB⟩;rw[HR.out];have q0:=(hB.cell (p:=⟨bb,0,none⟩) hbb).trans p0;have u0:=(hB.cell (p:=⟨gs,up.length*2,none⟩) hlt).trans t0;have HB:=Lib.hid hB;clear hB)
    go_ret
    exact ⟨by rw[E.out];rfl,HB.out⟩
   | false=>
    have E:Hid ((⟨F,x::up,c⟩:Zi).raw=⟨#[]⟩):=Lib.hid (by
     simp only[Zi.raw,rawIn,topOf_cons]
     rw[if_neg (by rw[hr];simp)])
    have HR:=Lib.hid hr
    rw[hs]at t1
    clear hr hs hs'
    go_enter Tryz.func71,Tryz.ntmps71
    go_wp2_with (go_at_call 80;refine (l01Raw_any x.n _).mono ?_;rintro e w1 ⟨rfl,hB⟩;rw[HR.out];have HB:=Lib.hid hB;clear hB)
    go_ret
    exact ⟨by rw[E.out];rfl,HB.out⟩
  ·have hs':(x.sp==0)=false:=by simpa using hs
   have E:Hid ((⟨F,x::up,c⟩:Zi).raw=⟨#[]⟩):=Lib.hid (by
    simp only[Zi.raw,rawIn,topOf_cons]
    rw[if_neg (by rw[hs'];simp)])
   clear hs
   go_enter Tryz.func71,Tryz.ntmps71
   go_wp2
   go_ret
   exact ⟨by rw[E.out];rfl,Below.refl _ _⟩
end Go.Proofs.YthdkkpbhijlpaaaGreatDoor
