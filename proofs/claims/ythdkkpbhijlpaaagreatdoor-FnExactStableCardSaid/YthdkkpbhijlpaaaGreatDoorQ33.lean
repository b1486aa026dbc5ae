import Derived.Test.YthdkkpbhijlpaaaGreatDoorQ32
import Derived.Test.YthdkkpbhijlpaaaGreatDoorQ23
import Derived.Test.YthdkkpbhijlpaaaGreatDoorQ31
set_option linter.unusedVariables false
namespace Go.Proofs.YthdkkpbhijlpaaaGreatDoor
open Go.ChangeShapes Go.WideShapes Go.ChangeAt Go.RowKit Go.Deep
set_option maxHeartbeats 4000000 in
set_option maxRecDepth 100000 in
theorem open_stays (B bb:Nat) (hP:PopC B bb) (z:Zi) (sv nv:Value) (nvs:List Value) (bl:List Nat) (tk:Int) (ta tl:Nat) (tn tt:ByteArray) (tal:List (ByteArray × ByteArray)) (ts:Bool) (TA:Option Addr) (tc:Nat) (w:World) (h:BS w B bb z sv nv nvs bl)
 (hd:¬10≤leftOf (opensOf z.up) tn) (hc:¬60≤z.c) (ba:List Nat) (hn:tn.size≤maxLen) (ha:tal.length≤tc∧tal.length≤maxLen∧AlRow w TA tal ba) (hba:ba.Nodup) (hbl:∀q ∈ ba,B≤q∧q<w.heap.size∧¬FpS bb sv nv bl q) (y:Zi) (hy:z.to (leftOf (opensOf z.up) tn)=y) (sp:Int) (hsp:spcOf (opensOf y.up) tn=sp) (hst:staysB sp tn ts=true):
 Calls Tryz.prog 75 #[.pointer (some ⟨bb,0,none⟩),.agg #[.int .i64 tk,.int .i64 (ta:Int),.int .i64 (tl:Int),.string tn,.string tt,.slice TA tal.length tc,.bool ts]] w
  (OutS B bb (FpS bb sv nv bl) ba (.ok ⟨.nil,⟨sp,tn,tal,y.F⟩::y.up,y.c+1⟩) w):=by
 have hbb:=(h.lt bb (Or.inl rfl)).2
 have hB:=h.le
 have hm10:=h.fit.2.2.1
 have hle:leftOf (opensOf z.up) tn≤z.up.length:=by have:=leftOf_le (opensOf z.up) tn;rw[opensOf_len]at this;exact this
 have p0:w.cell? ⟨bb,0,none⟩=some sv:=h.lay.1 0
 obtain ⟨A,c,b,hsv,hos⟩:=h.os
 rw[hsv,opensOf_len]at p0
 generalize hK:leftOf (opensOf z.up) tn=K at hd hle hy
 have A1:=Lib.hid ((Below.refl w.heap.size w).alloc (Nat.le_refl _) (.cells #[.int .i64 tk,.int .i64 (ta:Int),.int .i64 (tl:Int),.string tn,.string tt,.slice TA tal.length tc,.bool ts] 88))
 have L1:=Lib.hid (Lay.new w #[.int .i64 tk,.int .i64 (ta:Int),.int .i64 (tl:Int),.string tn,.string tt,.slice TA tal.length tc,.bool ts] 88)
 have HS:=Lib.hid h
 have HOS:=Lib.hid hos
 have HK:=Lib.hid hK
 have HPC:=Lib.hid hP
 have HI:Hid (∀W,Below w.heap.size w W→Calls Tryz.prog 129 #[.slice A z.up.length c,.string tn] W fun e w'=>e=.returned (.int .i64 ((z.up.length:Int)-(K:Nat)))∧Below w.heap.size w w'∧Below W.heap.size W w'):=Lib.hid fun W hW=>by
  have:=l05Implied_any (opensOf z.up) tn W A c b 0 (HOS.out.next hW)
  rw[opensOf_len,HK.out]at this
  exact this.mono fun e w' ⟨h1,h2⟩=>⟨h1,hW.trans (h2.mono hW.size),h2⟩
 have hw1:IntKind.i64.wrap (((z.up.length:Nat):Int)-(((z.up.length:Nat):Int)-((K:Nat):Int)))=(K:Int):=by rw[show ((z.up.length:Nat):Int)-(((z.up.length:Nat):Int)-((K:Nat):Int))=(K:Int) by omega];exact IntWalk.i64_in _ (by omega)
 have HTA:=Lib.hid (And.intro hn (And.intro ha (And.intro hba hbl)))
 clear h hos hsv hK hP hn ha hba hbl
 go_enter Tryz.func75,Tryz.ntmps75
 go_wp2_with fail
 have q0:=(A1.out.drew.cell (p:=⟨bb,0,none⟩) hbb).trans p0
 have q3:(w.alloc (.cells #[.int .i64 tk,.int .i64 (ta:Int),.int .i64 (tl:Int),.string tn,.string tt,.slice TA tal.length tc,.bool ts] 88)).drew.cell? ⟨w.heap.size,3,none⟩=some (.string tn):=L1.out.1 3
 go_region_held3 (fun w'=>w'.cell? ⟨bb,0,none⟩=some (.slice A z.up.length c)∧w'.cell? ⟨w.heap.size,3,none⟩=some (.string tn)) (first | exact And.intro q0 q3 | exact And.intro y0 y3 | go_keep) (first | (go_at_call 129;refine (HI.out _ A1.out.drew).mono ?_;rintro e w1 ⟨rfl,hB1,hB2⟩;have y3:=(hB2.cell (p:=⟨w.heap.size,3,none⟩) (by simp)).trans q3;have HL1:=Lib.hid (lay_same L1.out (hB2.block w.heap.size (by simp)));clear hB2;have y0:=(hB1.cell (p:=⟨bb,0,none⟩) hbb).trans p0;have HB1:=Lib.hid hB1;clear hB1))
 have hno:¬FpS bb sv nv bl w.heap.size:=fun hf=>absurd (HS.out.lt _ hf).2 (Nat.lt_irrefl _)
 have hxw:w.heap.size<w1.heap.size:=World.block_lt_of_cell? w1 ⟨w.heap.size,3,none⟩ y3
 have HNO:=Lib.hid (And.intro hno hxw)
 clear hno hxw q0 q3
 go_wp2_with (go_at_call 73;refine (HPC.out K z sv nv nvs bl _ (HS.out.next HB1.out) hle).mono ?_;rintro e w2 ⟨rfl,hO⟩;have HO:=Lib.hid hO;clear hO;have y3:=(HO.out.1.cell (p:=⟨w.heap.size,3,none⟩) HNO.out.2 HNO.out.1).trans y3)
 obtain ⟨hB2,sv2,nv2,nvs2,bl2,hS2,hq2⟩:=HO.out
 have hyl:=Zi.to_len z K hle
 have hyc:(z.to K).c=z.c:=Zi.pops_c _ _
 rw[hy]at HO hS2 hyl hyc
 obtain ⟨A2,c2,b2,hsv2,hos2⟩:=hS2.os
 obtain ⟨gn,cap,_,_,_,hnv2,_⟩:=hS2.kids
 have r0:w2.cell? ⟨bb,0,none⟩=some sv2:=hS2.lay.1 0
 have r1:w2.cell? ⟨bb,1,none⟩=some nv2:=hS2.lay.1 1
 have f3:w2.frozen? ⟨bb,3,none⟩=false:=hS2.lay.2 3
 have r3:w2.cell? ⟨bb,3,none⟩=some (.int .i64 0):=hS2.lay.1 3
 rw[hsv2,opensOf_len,hyl]at r0
 rw[hnv2,hyl]at r1
 have HMO:=Lib.hid (more_good bb y.c w2.drew (hS2.lay.1 2) (hS2.lay.2 2) (by omega))
 have HSP:Hid (∀W,(w2.drew=W∨w2=W)→Calls Tryz.prog 130 #[.slice A2 K c2,.string tn] W fun e w'=>e=.returned (.int .i64 sp)∧W=w'):=Lib.hid fun W hW=>by
  have h2:Below w2.heap.size w2 W:=by
   rcases hW with rfl | rfl
   ·exact (Below.refl _ _).drew
   ·exact Below.refl _ _
  have:=l05Space_any (opensOf y.up) tn W A2 c2 b2 0 (hos2.next h2)
  rw[opensOf_len,hyl,hsp]at this
  exact this
 have hbl2:∀q ∈ ba,¬FpS bb sv2 nv2 bl2 q:=fun q hq hf=>by
  have h1:=HTA.out.2.2.2 q hq
  rcases hq2 q hf with h | h
  ·exact h1.2.2 h
  ·exact absurd (Nat.lt_of_lt_of_le h1.2.1 (Nat.le_trans HB1.out.size h)) (Nat.lt_irrefl _)
 have hbw1:∀q ∈ ba,q≠bb:=fun q hq e=>(HTA.out.2.2.2 q hq).2.2 (Or.inl e)
 have hA2:AlRow w2 TA tal ba:=(HTA.out.2.1.2.2.same fun q hq=>HB1.out.block q (HTA.out.2.2.2 q hq).2.1).same fun q hq=>hB2.block q (Nat.lt_of_lt_of_le (HTA.out.2.2.2 q hq).2.1 HB1.out.size) (HTA.out.2.2.2 q hq).2.2
 have hcnt2:=hS2.fit.1
 have HM:=Lib.hid (hS2.same (w':=w2.drew) (Nat.le_refl _) fun _ _=>rfl).more
 have hL2:Lay w2 w.heap.size _:=lay_same HL1.out (hB2.block w.heap.size HNO.out.2 HNO.out.1)
 have hb2:bb<w2.heap.size:=(hS2.lt bb (Or.inl rfl)).2
 have hxb:w.heap.size≠bb:=fun e=>absurd hbb (by omega)
 have hx2:w.heap.size<w2.heap.size:=Nat.lt_of_lt_of_le HNO.out.2 hB2.size
 have hba4:But (FpS bb sv nv bl) w (w2.drew.setCell ⟨bb,2,none⟩ (.int .i64 ((y.c:Int)+1))):=((((But.of_below HB1.out).trans hB2 fun i hi=>Or.inl hi).drew).setCell (p:=⟨bb,2,none⟩) (Or.inl (Or.inl rfl)) _)
 have HQ2:=Lib.hid hq2
 have HB2:=Lib.hid (And.intro hB2 hS2)
 have HX4:Hid (∀W,W=(w2.drew.setCell ⟨bb,2,none⟩ (.int .i64 ((y.c:Int)+1)))→W.cell? ⟨w.heap.size,3,none⟩=some (.string tn)∧W.cell? ⟨w.heap.size,5,none⟩=some (.slice TA tal.length tc)∧W.cell? ⟨w.heap.size,6,none⟩=some (.bool ts)∧W.cell? ⟨bb,3,none⟩=some (.int .i64 0)∧w2.heap.size≤W.heap.size∧bb<W.heap.size∧w.heap.size<W.heap.size):=Lib.hid fun W hW=>by
  subst hW
  refine ⟨?_,?_,?_,?_,by simp,by simpa using hb2,by simpa using hx2⟩
  ·rw[oth0 (Ne.symm hxb)];exact hL2.1 3
  ·rw[oth0 (Ne.symm hxb)];exact hL2.1 5
  ·rw[oth0 (Ne.symm hxb)];exact hL2.1 6
  ·rw[World.cell?_setCell_other _ _ _ _ (by simp)];exact r3
 have HTL:=Lib.hid (And.intro hba4 (And.intro hA2 (And.intro hbl2 (And.intro hcnt2 (And.intro hbw1 (And.intro hsv2 (And.intro hnv2 hyl)))))))
 have HXB:=Lib.hid (And.intro hxb hx2)
 have HK10:=Lib.hid hd
 clear hB2 hS2 hq2 hsv2 hos2 hnv2 y0 HO hL2 hba4 hA2 hbl2 hcnt2 hbw1 hxb r3 f3
 have hd':¬((K:Nat):Int)+1>10:=by omega
 go_region_held3 (fun w'=>w'.cell? ⟨bb,0,none⟩=some (.slice A2 K c2)∧w'.cell? ⟨w.heap.size,3,none⟩=some (.string tn)) (first | exact And.intro r0 y3 | go_keep) (first | (go_at_call 130;refine (HSP.out _ (Or.inl rfl)).mono ?_;rintro e w3 ⟨rfl,rfl⟩))
 by_cases hs0:sp=0
 case' _=>
  have hv:inL voidL tn=false:=by unfold staysB at hst;rw[if_pos hs0]at hst;simpa using hst
  have hs0':(sp==0)=true:=by simpa using hs0
  have hs1':(sp != 0)=false:=by simpa using hs0
  have HV:=Lib.hid hv
  clear hst hv hs0
  go_wp2_with (first
   | (go_at_call 127;refine HMO.out.mono ?_;rintro e w4 ⟨rfl,hw4⟩;obtain ⟨x3,x5,x6,r3',hsz4,hbb4,hxx4⟩:=HX4.out w4 hw4;have HW4:=Lib.hid hw4;clear hw4)
   | (go_at_call 79;refine (l01Void_any tn _).mono ?_;rintro e w5 ⟨rfl,hB5⟩;rw[HV.out];have HN6:=Lib.hid (lay_same (Lay.new w4 #[.int .i64 1,.int .i64 sp,.string tn,.string ⟨#[]⟩,.slice TA tal.length tc,.slice none 0 0] 56) (hB5.block w4.heap.size (by simp)));obtain ⟨n0,n1,n2,n3,n4,n5⟩:=lay6 HN6.out;have HB5:=Lib.hid (((Below.refl w2.heap.size w4).alloc hsz4 _).trans (hB5.mono (by simp;omega)));clear hB5))
 rotate_left
 case' _=>
  have hs0':(sp==0)=false:=by simpa using hs0
  have hs1':(sp != 0)=true:=by simpa using hs0
  have hts:ts=false:=by unfold staysB at hst;rw[if_neg hs0]at hst;simpa using hst
  subst hts
  clear hst hs0
  go_wp2_with (go_at_call 127;refine HMO.out.mono ?_;rintro e w4 ⟨rfl,hw4⟩;obtain ⟨x3,x5,x6,r3',hsz4,hbb4,hxx4⟩:=HX4.out w4 hw4;have HW4:=Lib.hid hw4;clear hw4)
  have HN6:=Lib.hid (Lay.new w4 #[.int .i64 1,.int .i64 sp,.string tn,.string ⟨#[]⟩,.slice TA tal.length tc,.slice none 0 0] 56)
  have HB5:Hid (Below w2.heap.size w4 (w4.alloc (.cells #[.int .i64 1,.int .i64 sp,.string tn,.string ⟨#[]⟩,.slice TA tal.length tc,.slice none 0 0] 56))):=Lib.hid ((Below.refl w2.heap.size w4).alloc hsz4 _)
  generalize hw5:w4.alloc (.cells #[.int .i64 1,.int .i64 sp,.string tn,.string ⟨#[]⟩,.slice TA tal.length tc,.slice none 0 0] 56)=w5 at HN6 HB5 ⊢
  clear hw5
 rotate_left
 all_goals
  have hB5:=HB5.out
  have hn6:Lay w5 w4.heap.size #[.int .i64 1,.int .i64 sp,.string tn,.string ⟨#[]⟩,.slice TA tal.length tc,.slice none 0 0]:=HN6.out
  have hz4:w4.heap.size=w2.heap.size:=by rw[HW4.out];simp
  have hS4:BS w4 B bb ⟨y.F,y.up,y.c+1⟩ sv2 nv2 nvs2 bl2:=by rw[HW4.out];exact HM.out (by omega)
  have hS5:BS w5 B bb ⟨y.F,y.up,y.c+1⟩ sv2 nv2 nvs2 bl2:=hS4.next (by rw[hz4];exact hB5)
  have HS5:=Lib.hid hS5
  obtain ⟨hba4,hA2,hbl2,hcnt2,hbw1,hsv2,hnv2,hyl⟩:=HTL.out
  rw[opensOf_len,hyl]at hsv2
  rw[hyl]at hnv2
  have t3:w5.cell? ⟨w.heap.size,3,none⟩=some (.string tn):=(hB5.cell (p:=⟨w.heap.size,3,none⟩) HXB.out.2).trans x3
  have hxw:w.heap.size<w5.heap.size:=World.block_lt_of_cell? _ _ t3
  have q0:w5.cell? ⟨bb,0,none⟩=some (.slice A2 K c2):=by rw[←hsv2];exact hS5.lay.1 0
  have hbb5:=(hS5.lt bb (Or.inl rfl)).2
  have q0a:=(World.cell?_of_block (w:=w5) (a:=⟨bb,0,none⟩) (w':=w5.alloc (.cells #[.string tn,.int .i64 sp] 168)) (Below.heap_alloc w5 _ bb hbb5)).trans q0
  have HSR:Hid (w5.ownsRow B 168 2 (.slice A2 K c2) K (osVals (opensOf y.up))):=Lib.hid (by have:=hS5.srow;rw[hsv2]at this;simp only at this;rw[hyl]at this;exact this)
  have hgnm:gn ∈ ownL nv2:=mem_ownL.2 (by rw[hnv2];rfl)
  have HG:Hid (gn≠bb∧gn≠w4.heap.size):=Lib.hid ⟨(hS5.dn gn hgnm).2.1,by have h2:=(HB2.out.2.lt gn (Or.inr (Or.inr (Or.inl hgnm)))).2;omega⟩
  have hBb:=hS5.le
  have HXBB:Hid (w4.heap.size≠bb):=Lib.hid (by have:=(HB2.out.2.lt bb (Or.inl rfl)).2;omega)
  have htb:¬FpS bb sv2 nv2 bl2 w.heap.size:=fun hf=>by rcases HQ2.out _ hf with h1 | h1;exact HNO.out.1 h1;exact absurd HNO.out.2 (Nat.not_lt.2 h1)
  have hxb5:¬FpS bb sv2 nv2 bl2 w4.heap.size:=fun hf=>by have:=(HB2.out.2.lt _ hf).2;omega
  have HAF:Hid (∀(w6:World) (o:Obj) (u:Value),((w5.alloc o).drew).grownBy w6 (Value.slice A2 K c2).ownBlock→_):=Lib.hid fun w6 o u hg=>open_mid (w6:=w6) (o:=o) (K:=K) hS5 hnv2 hyl (by rw[hsv2];exact hg) t3 htb hn6 hxb5 u
  have hA5:AlRow w5 TA tal ba:=(hA2.same (w':=w4) fun q hq=>by rw[HW4.out];exact Below.heap_setCell w2.drew ⟨bb,2,none⟩ _ q (hbw1 q hq)).same fun q hq=>hB5.block q (Nat.lt_of_lt_of_le (HTA.out.2.2.2 q hq).2.1 (Nat.le_of_lt (Nat.lt_of_lt_of_le HXB.out.2 (Nat.le_refl _))))
  have HFIN:Hid (∀(w6 w8 Wf:World) (gs capS gg capN:Nat) (o o':Obj),w6.ownsRow B 168 2 (.slice (some ⟨gs,0,none⟩) (K+1) capS) (K+1) (osVals (opensOf y.up)++[.string tn,.int .i64 sp])→((w5.alloc o).drew).grownBy w6 (Value.slice A2 K c2).ownBlock→((Value.slice A2 K c2).ownBlock=some gs∨gs=w5.heap.size+1)→w8.ownsRow B 56 6 (.slice (some ⟨gg,0,none⟩) (K+1+1) capN) (K+1+1) (nvs2++zeros6)→(((w6.setCell ⟨bb,0,none⟩ (.slice (some ⟨gs,0,none⟩) (K+1) capS)).alloc o').drew).grownBy w8 (Value.slice (some ⟨gn,0,none⟩) (K+1) cap).ownBlock→((Value.slice (some ⟨gn,0,none⟩) (K+1) cap).ownBlock=some gg∨gg=w6.heap.size+1)→Wf=(six w8 gg ((K+1)*6) (.int .i64 1) (.int .i64 sp) (.string tn) (.string ⟨#[]⟩) (.slice TA tal.length tc) (.slice none 0 0)).setCell ⟨bb,1,none⟩ (.slice (some ⟨gg,0,none⟩) (K+1+1) capN)→OutS B bb (FpS bb sv nv bl) ba (.ok ⟨.nil,⟨sp,tn,tal,y.F⟩::y.up,z.c+1⟩) w (.returned (.tuple #[])) Wf):=Lib.hid (by
   intro w6 w8 Wf gs capS gg capN o o' a1 a2 a3 a4 a5 a6 a7
   rw[←hyc]
   obtain ⟨r1,sv',nv',nvs',bl',r2,r3⟩:=open_fin (W:=w5) (w6:=w6) (w8:=w8) (Wf:=Wf) (z:=⟨y.F,y.up,y.c+1⟩) (sv:=sv2) (nv:=nv2) (nvs:=nvs2) (bl:=bl2) (ba:=ba) (sp:=sp) (tn:=tn) (tal:=tal) (TA:=TA) (tc:=tc) (gs:=gs) (capS:=capS) (gg:=gg) (capN:=capN) (o:=o) (o':=o') hS5 (by show cntZ y+1≤y.c+1;omega) (by show y.up.length<10;rw[hyl];exact Nat.lt_of_not_le HK10.out) HTA.out.1 ⟨HTA.out.2.1.1,HTA.out.2.1.2.1,hA5⟩ HTA.out.2.2.1 (fun q hq=>⟨(HTA.out.2.2.2 q hq).1,by have:=(HTA.out.2.2.2 q hq).2.1;omega,hbl2 q hq⟩) (by simp only;rw[hyl];exact a1) (by rw[hsv2];exact a2) (by rw[hsv2];exact a3) (by simp only;rw[hyl];exact a4) (by simp only;rw[hnv2,hyl];exact a5) (by rw[hnv2];exact a6) (by simp only;rw[hyl];exact a7)
   have hq5:∀q,FpS bb sv2 nv2 bl2 q→FpS bb sv nv bl q∨w.heap.size≤q:=fun q hq=>(HQ2.out q hq).imp id fun h=>by have:=HNO.out.2;omega
   refine ⟨rfl,?_,sv',nv',nvs',bl',r2,fun q hq=>?_⟩
   ·rw[←HW4.out]at hba4
    exact (hba4.trans (But.no (by rw[hz4];exact hB5)) fun q hq=>hq.elim).trans r1 hq5
   ·rcases r3 q hq with h1 | h1 | h1
    ·exact (hq5 q h1).imp id Or.inr
    ·exact Or.inr (Or.inl h1)
    ·exact Or.inr (Or.inr (by omega)))
  obtain ⟨i0,hi0,hz0,hz1,hz2⟩:=info_of infoNode
  have HZ:=Lib.hid (And.intro hz0 (And.intro hz1 hz2))
  obtain ⟨j0,hj0,hy0,hy1,hy2⟩:=info_of infoOpen
  have HJ:=Lib.hid (And.intro hy0 (And.intro hy1 hy2))
  have hK9:K≤9:=by have:=HK10.out;omega
  have hxl5:(osVals (opensOf y.up)).length=K*2:=by rw[osVals_len,opensOf_len,hyl]
  have hwK:IntKind.i64.wrap ((K:Nat):Int)=(K:Int):=IntWalk.i64_in _ (by omega)
  have hixK:((K:Nat):Int)+1<((K:Nat):Int)+1+1:=by omega
  have hB5w:B≤w5.heap.size:=by omega
  have hneg:¬(((K:Nat):Int)+1<0):=by omega
  clear hz4 hz0 hz1 hz2 hy0 hy1 hy2 hS4 hS5 hba4 hA2 hbl2 hcnt2 hbw1 hsv2 hnv2 hgnm htb hxb5 hA5 hn6 hB5
  refine wp_region_held_drew (S:=fun w'=>w'.cell? ⟨w.heap.size,3,none⟩=some (.string tn)) (by kernel_rfl) t3 (fun hHeld=>?_)
  refine wpAnyH_take (i:=0) (v:=.pointer (some ⟨bb,0,none⟩)) rfl (by kernel_rfl) (by kernel_rfl) (by kernel_rfl) (fun _ _ _ h=>h) (Or.inl ⟨by rfl,fun w hSw=>by (try dsimp only at hSw);go_simp⟩) (by assumption) ?_;(try simp only[Act.put,List.setIfInBounds_toArray,List.set_cons_zero,List.set_cons_succ,List.getElem_toArray,List.getElem_cons_zero])
  refine wpAnyH_take (i:=1) (v:=.pointer (some ⟨bb,0,none⟩)) rfl (by kernel_rfl) (by kernel_rfl) (by kernel_rfl) (fun _ _ _ h=>h) (Or.inl ⟨by rfl,fun w hSw=>by (try dsimp only at hSw);go_simp⟩) (by assumption) ?_;(try simp only[Act.put,List.setIfInBounds_toArray,List.set_cons_zero,List.set_cons_succ,List.getElem_toArray,List.getElem_cons_zero,List.getElem_cons_succ])
  refine wpAnyH_take (i:=2) (v:=.pointer (some ⟨bb,0,none⟩)) rfl (by kernel_rfl) (by kernel_rfl) (by kernel_rfl) (fun _ _ _ h=>h) (Or.inl ⟨by rfl,fun w hSw=>by (try dsimp only at hSw);go_simp⟩) (by assumption) ?_;(try simp only[Act.put,List.setIfInBounds_toArray,List.set_cons_zero,List.set_cons_succ,List.getElem_toArray,List.getElem_cons_zero,List.getElem_cons_succ])
  refine wpAnyH_take (i:=3) (v:=.pointer (some ⟨bb,0,none⟩)) rfl (by kernel_rfl) (by kernel_rfl) (by kernel_rfl) (fun _ _ _ h=>h) (Or.inl ⟨by rfl,fun w hSw=>by (try dsimp only at hSw);go_simp⟩) (by assumption) ?_;(try simp only[Act.put,List.setIfInBounds_toArray,List.set_cons_zero,List.set_cons_succ,List.getElem_toArray,List.getElem_cons_zero,List.getElem_cons_succ])
  refine wpAnyH_take (i:=5) (v:=.pointer (some ⟨w.heap.size,3,none⟩)) rfl (by kernel_rfl) (by kernel_rfl) (by kernel_rfl) (fun _ _ _ h=>h) (Or.inl ⟨by rfl,fun w hSw=>by (try dsimp only at hSw);go_simp⟩) (by assumption) ?_;(try simp only[Act.put,List.setIfInBounds_toArray,List.set_cons_zero,List.set_cons_succ,List.getElem_toArray,List.getElem_cons_zero,List.getElem_cons_succ])
  refine wpAnyH_take (i:=6) (v:=.string tn) rfl (by kernel_rfl) (by kernel_rfl) (by kernel_rfl) (fun _ _ _ h=>h) (Or.inl ⟨by rfl,fun w hSw=>by (try dsimp only at hSw);go_simp⟩) (by assumption) ?_;(try simp only[Act.put,List.setIfInBounds_toArray,List.set_cons_zero,List.set_cons_succ,List.getElem_toArray,List.getElem_cons_zero,List.getElem_cons_succ])
  refine wpAnyH_take (i:=7) (v:=.int .i64 sp) rfl (by kernel_rfl) (by kernel_rfl) (by kernel_rfl) (fun _ _ _ h=>h) (Or.inl ⟨by rfl,fun w hSw=>by (try dsimp only at hSw);go_simp⟩) (by assumption) ?_;(try simp only[Act.put,List.setIfInBounds_toArray,List.set_cons_zero,List.set_cons_succ,List.getElem_toArray,List.getElem_cons_zero,List.getElem_cons_succ])
  refine wpAnyH_take (i:=8) (v:=.agg #[.string tn,.int .i64 sp]) rfl (by kernel_rfl) (by kernel_rfl) (by kernel_rfl) (fun _ _ _ h=>h) (Or.inl ⟨by rfl,fun w hSw=>by (try dsimp only at hSw);go_simp⟩) (by assumption) ?_;(try simp only[Act.put,List.setIfInBounds_toArray,List.set_cons_zero,List.set_cons_succ,List.getElem_toArray,List.getElem_cons_zero,List.getElem_cons_succ])
  refine wpAnyH_ready (rs:=[4,9]) (by kernel_rfl) (by simp) ?_;refine AllReadyH.cons rfl (fun KK hKK=>?_) (AllReadyH.cons rfl (fun KK hKK=>?_) AllReadyH.nil)
  case' _=>
   go_simp;refine hKK.out _ _ t3 (fun hHeld=>?_);clear hKK KK;(try simp only[Act.put,List.setIfInBounds_toArray,List.set_cons_zero,List.set_cons_succ,List.getElem_toArray,List.getElem_cons_zero,List.getElem_cons_succ])
   refine wpAnyH_ready (rs:=[9]) (by kernel_rfl) (by simp) ?_;refine AllReadyH.cons rfl (fun KK hKK=>?_) AllReadyH.nil
  rotate_left
  case' _=>
   go_simp;refine hKK.out _ _ ((World.cell?_of_block (w:=w5) (a:=⟨w.heap.size,3,none⟩) (w':=(w5.alloc (.cells #[.string tn,.int .i64 sp] 168))) (Below.heap_alloc w5 _ w.heap.size hxw)).trans t3) (fun hHeld=>?_);clear hKK KK;(try simp only[Act.put,List.setIfInBounds_toArray,List.set_cons_zero,List.set_cons_succ,List.getElem_toArray,List.getElem_cons_zero,List.getElem_cons_succ])
   refine wpAnyH_ready (rs:=[4]) (by kernel_rfl) (by simp) ?_;refine AllReadyH.cons rfl (fun KK hKK=>?_) AllReadyH.nil
  rotate_left
  all_goals
   go_simp;refine hKK.out _ _ ((World.cell?_of_block (w:=w5) (a:=⟨w.heap.size,3,none⟩) (w':=(w5.alloc (.cells #[.string tn,.int .i64 sp] 168))) (Below.heap_alloc w5 _ w.heap.size hxw)).trans t3) (fun hHeld=>?_);clear hKK KK;(try simp only[Act.put,List.setIfInBounds_toArray,List.set_cons_zero,List.set_cons_succ,List.getElem_toArray,List.getElem_cons_zero,List.getElem_cons_succ])
   refine wpAnyH_ready (rs:=[10]) (by kernel_rfl) (by simp) ?_;refine AllReadyH.cons rfl (fun KK hKK=>?_) AllReadyH.nil
   refine step_append_lies _ (by rfl) _ _ _ (by rfl) B 168 j0 _ 2 24 Tryz.underlying106 hj0 HJ.out.1 HJ.out.2.1 HJ.out.2.2 rfl (by omega) (.slice A2 K c2) K (osVals (opensOf y.up)) (by rfl) (HSR.out.alloc _) ⟨w5.heap.size,0,none⟩ 1 1 [.string tn,.int .i64 sp] (by rfl) (by rfl) (World.news_of_block (cs:=#[.string tn,.int .i64 sp]) (t:=168) (fr:=(0,0)) (heap_alloc_new w5 _)) (by simp[Value.oneCell']) (by omega) (by unfold maxLen;omega) (by omega) (by simp;omega) (w5.heap.size+1) (by simp) ?_
   intro gs capS w6 hownS hgrowS hatS hltS
   have H7:=Lib.hid (HAF.out w6 _ (.slice (some ⟨gs,0,none⟩) (K+1) capS) hgrowS)
   have t6:(fun w'=>w'.cell? ⟨w.heap.size,3,none⟩=some (.string tn)) w6:=H7.out.1.1
   have p6:=H7.out.1.2.1
   have f6:=H7.out.1.2.2
   have HW6:=Lib.hid (And.intro hownS (And.intro hgrowS hatS))
   clear hownS hgrowS hatS hltS
   refine hKK.out _ _ t6 (fun hHeld=>?_);clear hKK KK;(try simp only[Act.put,List.setIfInBounds_toArray,List.set_cons_zero,List.set_cons_succ,List.getElem_toArray,List.getElem_cons_zero,List.getElem_cons_succ])
   refine wpAnyH_take (i:=11) (v:=.pointer (some ⟨bb,0,none⟩)) rfl (by kernel_rfl) (by kernel_rfl) (by kernel_rfl) (fun _ _ _ h=>h) (Or.inl ⟨by rfl,fun w hSw=>by (try dsimp only at hSw);go_simp⟩) (by assumption) ?_;(try simp only[Act.put,List.setIfInBounds_toArray,List.set_cons_zero,List.set_cons_succ,List.getElem_toArray,List.getElem_cons_zero,List.getElem_cons_succ])
   refine wpAnyH_take (i:=12) (v:=.pointer (some ⟨bb,0,none⟩)) rfl (by kernel_rfl) (by kernel_rfl) (by kernel_rfl) (fun _ _ _ h=>h) (Or.inl ⟨by rfl,fun w hSw=>by (try dsimp only at hSw);go_simp⟩) (by assumption) ?_;(try simp only[Act.put,List.setIfInBounds_toArray,List.set_cons_zero,List.set_cons_succ,List.getElem_toArray,List.getElem_cons_zero,List.getElem_cons_succ])
   refine wpAnyH_ready (rs:=[13]) (by kernel_rfl) (by simp) ?_;refine AllReadyH.cons rfl (fun KK hKK=>?_) AllReadyH.nil
   go_simp;refine hKK.out _ _ ((oth0 (Ne.symm HXB.out.1)).trans t6) (fun hHeld=>?_);clear hKK KK;(try simp only[Act.put,List.setIfInBounds_toArray,List.set_cons_zero,List.set_cons_succ,List.getElem_toArray,List.getElem_cons_zero,List.getElem_cons_succ])
   refine wpAnyH_done (by kernel_rfl) ?_ _
   have H7:=Lib.hid H7.out.2
   clear t6 p6 f6
   go_wp2_with fail
   generalize hw7:w6.setCell ⟨bb,0,none⟩ (.slice (some ⟨gs,0,none⟩) (K+1) capS)=w7 at H7 ⊢
   have HW7:=Lib.hid hw7
   clear hw7
   obtain ⟨p1,f1,⟨m0,m1,m2,m3,m4,m5⟩,hro7,hbb7,hxb7,hB7⟩:=H7.out
   have HRO:=Lib.hid hro7
   clear hro7
   have p1a:=(World.cell?_of_block (w:=w7) (a:=⟨bb,1,none⟩) (w':=w7.alloc (.cells #[.int .i64 0,.int .i64 0,.string ⟨#[]⟩,.string ⟨#[]⟩,.slice none 0 0,.slice none 0 0] 56)) (Below.heap_alloc w7 _ bb hbb7)).trans p1
   refine wp_region_held_drew (S:=fun w'=>w'.cell? ⟨w4.heap.size,0,none⟩=some (.int .i64 1)∧w'.cell? ⟨w4.heap.size,1,none⟩=some (.int .i64 sp)∧w'.cell? ⟨w4.heap.size,2,none⟩=some (.string tn)∧w'.cell? ⟨w4.heap.size,3,none⟩=some (.string ⟨#[]⟩)∧w'.cell? ⟨w4.heap.size,4,none⟩=some (.slice TA tal.length tc)∧w'.cell? ⟨w4.heap.size,5,none⟩=some (.slice none 0 0)) (by kernel_rfl) ⟨m0,m1,m2,m3,m4,m5⟩ (fun hHeld=>?_)
   refine wpAnyH_take (i:=0) (v:=.pointer (some ⟨bb,0,none⟩)) rfl (by kernel_rfl) (by kernel_rfl) (by kernel_rfl) (fun _ _ _ h=>h) (Or.inl ⟨by rfl,fun w hSw=>by (try dsimp only at hSw);go_simp⟩) (by assumption) ?_;(try simp only[Act.put,List.setIfInBounds_toArray,List.set_cons_zero,List.set_cons_succ,List.getElem_toArray,List.getElem_cons_zero])
   refine wpAnyH_take (i:=1) (v:=.pointer (some ⟨bb,0,none⟩)) rfl (by kernel_rfl) (by kernel_rfl) (by kernel_rfl) (fun _ _ _ h=>h) (Or.inl ⟨by rfl,fun w hSw=>by (try dsimp only at hSw);go_simp⟩) (by assumption) ?_;(try simp only[Act.put,List.setIfInBounds_toArray,List.set_cons_zero,List.set_cons_succ,List.getElem_toArray,List.getElem_cons_zero,List.getElem_cons_succ])
   refine wpAnyH_take (i:=2) (v:=.pointer (some ⟨bb,1,none⟩)) rfl (by kernel_rfl) (by kernel_rfl) (by kernel_rfl) (fun _ _ _ h=>h) (Or.inl ⟨by rfl,fun w hSw=>by (try dsimp only at hSw);go_simp⟩) (by assumption) ?_;(try simp only[Act.put,List.setIfInBounds_toArray,List.set_cons_zero,List.set_cons_succ,List.getElem_toArray,List.getElem_cons_zero,List.getElem_cons_succ])
   refine wpAnyH_take (i:=4) (v:=.agg #[.int .i64 1,.int .i64 sp,.string tn,.string ⟨#[]⟩,.slice TA tal.length tc,.slice none 0 0]) rfl (by kernel_rfl) (by kernel_rfl) (by kernel_rfl) (fun _ _ _ h=>h) (Or.inl ⟨by rfl,fun w hSw=>by (try dsimp only at hSw);go_simp⟩) (by assumption) ?_;(try simp only[Act.put,List.setIfInBounds_toArray,List.set_cons_zero,List.set_cons_succ,List.getElem_toArray,List.getElem_cons_zero,List.getElem_cons_succ])
   refine wpAnyH_ready (rs:=[3,6]) (by kernel_rfl) (by simp) ?_;refine AllReadyH.cons rfl (fun KK hKK=>?_) (AllReadyH.cons rfl (fun KK hKK=>?_) AllReadyH.nil)
   case' _=>
    go_simp;refine hKK.out _ _ ⟨m0,m1,m2,m3,m4,m5⟩ (fun hHeld=>?_);clear hKK KK;(try simp only[Act.put,List.setIfInBounds_toArray,List.set_cons_zero,List.set_cons_succ,List.getElem_toArray,List.getElem_cons_zero,List.getElem_cons_succ])
    refine wpAnyH_take (i:=5) (v:=.int .i64 ((K:Nat)+1:Int)) rfl (by kernel_rfl) (by kernel_rfl) (by kernel_rfl) (fun _ _ _ h=>h) (Or.inl ⟨by rfl,fun w hSw=>by (try dsimp only at hSw);go_simp⟩) (by assumption) ?_;(try simp only[Act.put,List.setIfInBounds_toArray,List.set_cons_zero,List.set_cons_succ,List.getElem_toArray,List.getElem_cons_zero,List.getElem_cons_succ])
    refine wpAnyH_ready (rs:=[6]) (by kernel_rfl) (by simp) ?_;refine AllReadyH.cons rfl (fun KK hKK=>?_) AllReadyH.nil
    go_simp;refine hKK.out _ _ (box6 (w:=w7) (w':=w7.alloc (.cells #[.int .i64 0,.int .i64 0,.string ⟨#[]⟩,.string ⟨#[]⟩,.slice none 0 0,.slice none 0 0] 56)) (Below.heap_alloc w7 _ w4.heap.size hxb7) ⟨m0,m1,m2,m3,m4,m5⟩) (fun hHeld=>?_);clear hKK KK;(try simp only[Act.put,List.setIfInBounds_toArray,List.set_cons_zero,List.set_cons_succ,List.getElem_toArray,List.getElem_cons_zero,List.getElem_cons_succ])
   rotate_left
   case' _=>
    go_simp;refine hKK.out _ _ (box6 (w:=w7) (w':=w7.alloc (.cells #[.int .i64 0,.int .i64 0,.string ⟨#[]⟩,.string ⟨#[]⟩,.slice none 0 0,.slice none 0 0] 56)) (Below.heap_alloc w7 _ w4.heap.size hxb7) ⟨m0,m1,m2,m3,m4,m5⟩) (fun hHeld=>?_);clear hKK KK;(try simp only[Act.put,List.setIfInBounds_toArray,List.set_cons_zero,List.set_cons_succ,List.getElem_toArray,List.getElem_cons_zero,List.getElem_cons_succ])
    refine wpAnyH_ready (rs:=[3]) (by kernel_rfl) (by simp) ?_;refine AllReadyH.cons rfl (fun KK hKK=>?_) AllReadyH.nil
    go_simp;refine hKK.out _ _ (box6 (w:=w7) (w':=w7.alloc (.cells #[.int .i64 0,.int .i64 0,.string ⟨#[]⟩,.string ⟨#[]⟩,.slice none 0 0,.slice none 0 0] 56)) (Below.heap_alloc w7 _ w4.heap.size hxb7) ⟨m0,m1,m2,m3,m4,m5⟩) (fun hHeld=>?_);clear hKK KK;(try simp only[Act.put,List.setIfInBounds_toArray,List.set_cons_zero,List.set_cons_succ,List.getElem_toArray,List.getElem_cons_zero,List.getElem_cons_succ])
    refine wpAnyH_take (i:=5) (v:=.int .i64 ((K:Nat)+1:Int)) rfl (by kernel_rfl) (by kernel_rfl) (by kernel_rfl) (fun _ _ _ h=>h) (Or.inl ⟨by rfl,fun w hSw=>by (try dsimp only at hSw);go_simp⟩) (by assumption) ?_;(try simp only[Act.put,List.setIfInBounds_toArray,List.set_cons_zero,List.set_cons_succ,List.getElem_toArray,List.getElem_cons_zero,List.getElem_cons_succ])
   rotate_left
   all_goals
    refine wpAnyH_ready (rs:=[7]) (by kernel_rfl) (by simp) ?_;refine AllReadyH.cons rfl (fun KK hKK=>?_) AllReadyH.nil
    refine step_append_lies _ (by rfl) _ _ _ (by rfl) B 56 i0 _ 6 96 Tryz.underlying24 hi0 HZ.out.1 HZ.out.2.1 HZ.out.2.2 rfl (by omega) (.slice (some ⟨gn,0,none⟩) (K+1) cap) (K+1) nvs2 (by rfl) (HRO.out.alloc _) ⟨w7.heap.size,0,none⟩ 1 1 [.int .i64 0,.int .i64 0,.string ⟨#[]⟩,.string ⟨#[]⟩,.slice none 0 0,.slice none 0 0] (by rfl) (by rfl) (World.news_of_block (cs:=#[.int .i64 0,.int .i64 0,.string ⟨#[]⟩,.string ⟨#[]⟩,.slice none 0 0,.slice none 0 0]) (t:=56) (fr:=(0,0)) (heap_alloc_new w7 _)) (by simp[Value.oneCell']) (by omega) (by unfold maxLen;omega) (by omega) (by simp;omega) (w7.heap.size+1) (by simp) ?_
    intro gg capN w8 hownN hgrowN hatN hltN
    have hbk:w8.heap[bb]?=w7.heap[bb]?:=(hgrowN.block bb (by simp;omega) (fun e=>HG.out.1 (Option.some.inj e).symm)).trans (Below.heap_alloc w7 _ bb hbb7)
    have hxk:w8.heap[w4.heap.size]?=w7.heap[w4.heap.size]?:=(hgrowN.block w4.heap.size (by simp;omega) (fun e=>HG.out.2 (Option.some.inj e).symm)).trans (Below.heap_alloc w7 _ w4.heap.size hxb7)
    have hS8:=box6 (w:=w7) (w':=w8) hxk ⟨m0,m1,m2,m3,m4,m5⟩
    have p8:=(World.cell?_of_block (w:=w7) (a:=⟨bb,1,none⟩) hbk).trans p1
    have f8:=(World.frozen?_of_block (w:=w7) (a:=⟨bb,1,none⟩) hbk).trans f1
    have hgx:gg≠bb∧gg≠w4.heap.size:=by rcases hatN with e | e;(have e1:gn=gg:=Option.some.inj e;exact ⟨fun h=>HG.out.1 (e1.trans h),fun h=>HG.out.2 (e1.trans h)⟩);exact ⟨by omega,by omega⟩
    have hxl:nvs2.length=(K+1)*6:=HRO.out.1
    have hz:∀j u,j<6→([.int .i64 0,.int .i64 0,.string ⟨#[]⟩,.string ⟨#[]⟩,.slice none 0 0,.slice none 0 0]:List Value)[j]?=some u→w8.cell? ⟨gg,(K+1)*6+j,none⟩=some u:=(fun j u hj hu=>by rw[hownN.cellAt _ (by omega),List.getElem?_append_right (by omega),hxl,Nat.add_sub_cancel_left];exact hu)
    have z0:w8.cell? ⟨gg,(K+1)*6,none⟩=some (.int .i64 0):=hz 0 _ (by omega) rfl
    have z1:=hz 1 _ (by omega) rfl
    have z2:=hz 2 _ (by omega) rfl
    have z3:=hz 3 _ (by omega) rfl
    have z4:=hz 4 _ (by omega) rfl
    have z5:=hz 5 _ (by omega) rfl
    have zf:=hownN.frozenAt
    have G1:=Ne.symm hgx.1
    have G2:=hgx.1
    have HW8:=Lib.hid (And.intro hownN (And.intro hgrowN hatN))
    clear hownN hgrowN hatN hltN hz
    refine hKK.out _ _ hS8 (fun hHeld=>?_);clear hKK KK;(try simp only[Act.put,List.setIfInBounds_toArray,List.set_cons_zero,List.set_cons_succ,List.getElem_toArray,List.getElem_cons_zero,List.getElem_cons_succ])
    refine wpAnyH_take (i:=8) (v:=.pointer (some ⟨gg,(K+1)*6,none⟩)) rfl (by kernel_rfl) (by kernel_rfl) (by kernel_rfl) (fun _ _ _ h=>h) (Or.inl ⟨by rfl,fun w hSw=>by (try dsimp only at hSw);go_simp⟩) (by assumption) ?_;(try simp only[Act.put,List.setIfInBounds_toArray,List.set_cons_zero,List.set_cons_succ,List.getElem_toArray,List.getElem_cons_zero,List.getElem_cons_succ])
    refine wpAnyH_take (i:=10) (v:=.pointer (some ⟨bb,0,none⟩)) rfl (by kernel_rfl) (by kernel_rfl) (by kernel_rfl) (fun _ _ _ h=>h) (Or.inl ⟨by rfl,fun w hSw=>by (try dsimp only at hSw);go_simp⟩) (by assumption) ?_;(try simp only[Act.put,List.setIfInBounds_toArray,List.set_cons_zero,List.set_cons_succ,List.getElem_toArray,List.getElem_cons_zero,List.getElem_cons_succ])
    refine wpAnyH_take (i:=11) (v:=.pointer (some ⟨bb,1,none⟩)) rfl (by kernel_rfl) (by kernel_rfl) (by kernel_rfl) (fun _ _ _ h=>h) (Or.inl ⟨by rfl,fun w hSw=>by (try dsimp only at hSw);go_simp⟩) (by assumption) ?_;(try simp only[Act.put,List.setIfInBounds_toArray,List.set_cons_zero,List.set_cons_succ,List.getElem_toArray,List.getElem_cons_zero,List.getElem_cons_succ])
    refine wpAnyH_ready (rs:=[9,12]) (by kernel_rfl) (by simp) ?_;refine AllReadyH.cons rfl (fun KK hKK=>?_) (AllReadyH.cons rfl (fun KK hKK=>?_) AllReadyH.nil)
    ·go_simp;refine hKK.out _ _ (box6 (w:=w8) (w':=six w8 gg ((K+1)*6) (.int .i64 1) (.int .i64 sp) (.string tn) (.string ⟨#[]⟩) (.slice TA tal.length tc) (.slice none 0 0)) (six_heap (Ne.symm hgx.2)) hS8) (fun hHeld=>?_);clear hKK KK;(try simp only[Act.put,List.setIfInBounds_toArray,List.set_cons_zero,List.set_cons_succ,List.getElem_toArray,List.getElem_cons_zero,List.getElem_cons_succ])
     refine wpAnyH_ready (rs:=[12]) (by kernel_rfl) (by simp) ?_;refine AllReadyH.cons rfl (fun KK hKK=>?_) AllReadyH.nil
     go_simp;refine hKK.out _ _ (box6 (w:=six w8 gg ((K+1)*6) (.int .i64 1) (.int .i64 sp) (.string tn) (.string ⟨#[]⟩) (.slice TA tal.length tc) (.slice none 0 0)) (w':=(six w8 gg ((K+1)*6) (.int .i64 1) (.int .i64 sp) (.string tn) (.string ⟨#[]⟩) (.slice TA tal.length tc) (.slice none 0 0)).setCell ⟨bb,1,none⟩ (.slice (some ⟨gg,0,none⟩) (K+1+1) capN)) (Below.heap_setCell (six w8 gg ((K+1)*6) (.int .i64 1) (.int .i64 sp) (.string tn) (.string ⟨#[]⟩) (.slice TA tal.length tc) (.slice none 0 0)) ⟨bb,1,none⟩ _ w4.heap.size HXBB.out) (box6 (w:=w8) (w':=six w8 gg ((K+1)*6) (.int .i64 1) (.int .i64 sp) (.string tn) (.string ⟨#[]⟩) (.slice TA tal.length tc) (.slice none 0 0)) (six_heap (Ne.symm hgx.2)) hS8)) (fun hHeld=>?_);clear hKK KK;(try simp only[Act.put,List.setIfInBounds_toArray,List.set_cons_zero,List.set_cons_succ,List.getElem_toArray,List.getElem_cons_zero,List.getElem_cons_succ])
     refine wpAnyH_done (by kernel_rfl) ?_ _
     have h8:=HW8.out
     clear hS8 p8 f8 z0 z1 z2 z3 z4 z5 zf m0 m1 m2 m3 m4 m5 p1 f1 p1a
     first
      | (refine bodyPost_ret (results_none rfl _ _ _) rfl ?_;exact HFIN.out w6 w8 _ gs capS gg capN _ _ HW6.out.1 HW6.out.2.1 HW6.out.2.2 h8.1 (by rw[HW7.out];exact h8.2.1) (h8.2.2.imp id fun e=>by rw[←HW7.out]at e;simpa using e) rfl)
      | (go_end0;exact HFIN.out w6 w8 _ gs capS gg capN _ _ HW6.out.1 HW6.out.2.1 HW6.out.2.2 h8.1 (by rw[HW7.out];exact h8.2.1) (h8.2.2.imp id fun e=>by rw[←HW7.out]at e;simpa using e) rfl)
    ·go_simp;refine hKK.out _ _ (box6 (w:=w8) (w':=w8.setCell ⟨bb,1,none⟩ (.slice (some ⟨gg,0,none⟩) (K+1+1) capN)) (Below.heap_setCell w8 ⟨bb,1,none⟩ _ w4.heap.size HXBB.out) hS8) (fun hHeld=>?_);clear hKK KK;(try simp only[Act.put,List.setIfInBounds_toArray,List.set_cons_zero,List.set_cons_succ,List.getElem_toArray,List.getElem_cons_zero,List.getElem_cons_succ])
     refine wpAnyH_ready (rs:=[9]) (by kernel_rfl) (by simp) ?_;refine AllReadyH.cons rfl (fun KK hKK=>?_) AllReadyH.nil
     go_simp;refine hKK.out _ _ (box6 (w:=w8.setCell ⟨bb,1,none⟩ (.slice (some ⟨gg,0,none⟩) (K+1+1) capN)) (w':=six (w8.setCell ⟨bb,1,none⟩ (.slice (some ⟨gg,0,none⟩) (K+1+1) capN)) gg ((K+1)*6) (.int .i64 1) (.int .i64 sp) (.string tn) (.string ⟨#[]⟩) (.slice TA tal.length tc) (.slice none 0 0)) (six_heap (Ne.symm hgx.2)) (box6 (w:=w8) (w':=w8.setCell ⟨bb,1,none⟩ (.slice (some ⟨gg,0,none⟩) (K+1+1) capN)) (Below.heap_setCell w8 ⟨bb,1,none⟩ _ w4.heap.size HXBB.out) hS8)) (fun hHeld=>?_);clear hKK KK;(try simp only[Act.put,List.setIfInBounds_toArray,List.set_cons_zero,List.set_cons_succ,List.getElem_toArray,List.getElem_cons_zero,List.getElem_cons_succ])
     refine wpAnyH_done (by kernel_rfl) ?_ _
     have h8:=HW8.out
     clear hS8 p8 f8 z0 z1 z2 z3 z4 z5 zf m0 m1 m2 m3 m4 m5 p1 f1 p1a
     first
      | (refine bodyPost_ret (results_none rfl _ _ _) rfl ?_;exact HFIN.out w6 w8 _ gs capS gg capN _ _ HW6.out.1 HW6.out.2.1 HW6.out.2.2 h8.1 (by rw[HW7.out];exact h8.2.1) (h8.2.2.imp id fun e=>by rw[←HW7.out]at e;simpa using e) (six_comm _ _ _ _ _ _ _ _ _ _ _ _ G1))
      | (go_end0;exact HFIN.out w6 w8 _ gs capS gg capN _ _ HW6.out.1 HW6.out.2.1 HW6.out.2.2 h8.1 (by rw[HW7.out];exact h8.2.1) (h8.2.2.imp id fun e=>by rw[←HW7.out]at e;simpa using e) (six_comm _ _ _ _ _ _ _ _ _ _ _ _ G1))
end Go.Proofs.YthdkkpbhijlpaaaGreatDoor
namespace Go.Proofs.YthdkkpbhijlpaaaGreatDoor
open Go.ChangeShapes Go.WideShapes Go.ChangeAt Go.RowKit Go.Deep
theorem open_any (B bb:Nat) (z:Zi) (sv nv:Value) (nvs:List Value) (bl:List Nat) (T:Tk) (ta:Nat) (TA:Option Addr) (tc:Nat) (w:World) (h:BS w B bb z sv nv nvs bl)
 (ba:List Nat) (hn:T.n.size≤maxLen) (ha:T.al.length≤tc∧T.al.length≤maxLen∧AlRow w TA T.al ba) (hba:ba.Nodup) (hbl:∀q ∈ ba,B≤q∧q<w.heap.size∧¬FpS bb sv nv bl q):
 Calls Tryz.prog 75 #[.pointer (some ⟨bb,0,none⟩),.agg #[.int .i64 T.k,.int .i64 (ta:Int),.int .i64 (T.l:Int),.string T.n,.string T.t,.slice TA T.al.length tc,.bool T.s]] w
  (OutS B bb (FpS bb sv nv bl) ba (z.begin T) w):=by
 have hle:leftOf (opensOf z.up) T.n≤z.up.length:=by have:=leftOf_le (opensOf z.up) T.n;rwa[opensOf_len]at this
 have hP:PopC B bb:=fun k z sv nv nvs bl w h hk=>pop_any B bb k z sv nv nvs bl w h hk
 have hl:(z.to (leftOf (opensOf z.up) T.n)).up.length=leftOf (opensOf z.up) T.n:=Zi.to_len z _ hle
 have hc:(z.to (leftOf (opensOf z.up) T.n)).c=z.c:=Zi.pops_c _ _
 unfold Zi.begin
 simp only[hl,hc]
 by_cases hd:10≤leftOf (opensOf z.up) T.n
 ·rw[if_pos hd]
  exact open_deep B bb hP z sv nv nvs bl T.k ta T.l T.n T.t T.al T.s TA tc w h hd
 ·rw[if_neg hd]
  by_cases h6:60≤z.c
  ·rw[if_pos h6]
   exact open_many B bb hP z sv nv nvs bl T.k ta T.l T.n T.t T.al T.s TA tc w h hd h6
  ·rw[if_neg h6]
   cases hst:staysB (spcOf (opensOf (z.to (leftOf (opensOf z.up) T.n)).up) T.n) T.n T.s with
   | true=>
    rw[if_pos rfl]
    have:=open_stays B bb hP z sv nv nvs bl T.k ta T.l T.n T.t T.al T.s TA tc w h hd h6 ba hn ha hba hbl _ rfl _ rfl hst
    rwa[hc]at this
   | false=>
    rw[if_neg (by simp)]
    have:=open_ends B bb hP z sv nv nvs bl T.k ta T.l T.n T.t T.al T.s TA tc w h hd h6 ba hn ha hba hbl _ rfl _ rfl hst
    rwa[hc]at this
end Go.Proofs.YthdkkpbhijlpaaaGreatDoor
