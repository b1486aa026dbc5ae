import Derived.Test.YthdkkpbhijlpaaaGreatDoorQ17
import Derived.Test.YthdkkpbhijlpaaaGreatDoorQ37
import Derived.Test.YthdkkpbhijlpaaaGreatDoorQ34
import Derived.Test.YthdkkpbhijlpaaaGreatDoorQ35
import Derived.Test.YthdkkpbhijlpaaaGreatDoorQ09
import Derived.Test.YthdkkpbhijlpaaaGreatDoorQ10
set_option linter.unusedVariables false
namespace Go.Proofs.YthdkkpbhijlpaaaGreatDoor
open Go.ChangeShapes Go.WideShapes Go.ChangeAt Go.RowKit Go.Deep
theorem box2_nil {wr w2:World} {cs cs2:Array Value} {t t2:TypeId} (hg:((wr.alloc (.cells cs t)).alloc (.cells cs2 t2)).grownBy w2 none):Lay w2 wr.heap.size cs∧Lay w2 (wr.heap.size+1) cs2∧Below wr.heap.size wr w2∧wr.heap.size+1<w2.heap.size:=by
 have h1:=hg.size
 simp only[World.size_alloc]at h1
 have hB:Below (wr.heap.size+1+1) ((wr.alloc (.cells cs t)).alloc (.cells cs2 t2)) w2:=(Below.refl _ _).grown hg (by simp) (fun q hq=>by cases hq)
 obtain ⟨L1,L2,B⟩:=two_lay hB
 exact ⟨L1,L2,B,by omega⟩
theorem Cp.low {g b:Nat} {w:World} {A:Option Addr} {ca:Nat} {al:List (ByteArray × ByteArray)} {ba:List Nat} (h:Cp g w A ca al ba) (hb:b≤g) (j:Nat) (u:Value):Cp g (w.setCell ⟨b,j,none⟩ u) A ca al ba:=
 ⟨⟨h.1.1,h.1.2.1,h.1.2.2.same fun k hk=>Below.heap_setCell _ _ _ _ (by have:=(h.2.2 k hk).1;show k≠b;omega)⟩,h.2.1,fun k hk=>by rw[World.size_setCell];exact h.2.2 k hk⟩
def NodeOut (k sp:Int) (n t:ByteArray) (al:List (ByteArray × ByteArray)) (G:Fo) (w:World) (e:Ending) (w':World):Prop:=
 ∃(A' K':Option Addr) (ca ck:Nat) (ba bk:List Nat),e=.returned (.agg #[.int .i64 k,.int .i64 sp,.string n,.string t,.slice A' al.length ca,.slice K' G.len ck])∧Below w.heap.size w w' ∧
  (al.length≤ca∧al.length≤maxLen∧AlRow w' A' al ba)∧(G.len≤ck∧G.len≤maxLen∧KRow w' K' G bk)∧(ba++bk).Nodup∧∀q ∈ ba++bk,w.heap.size≤q∧q<w'.heap.size
theorem nodeOut_of {g M:Nat} {w w':World} {al:List (ByteArray × ByteArray)} {G:Fo} {A' K':Option Addr} {ca ck:Nat} {ba bk:List Nat} (hC:Cp g w' A' ca al ba) (hK:Kp M w' K' ck G bk) (hg:w.heap.size≤g) (hM:∀q ∈ ba,q<M) (hgM:g≤M):
 (al.length≤ca∧al.length≤maxLen∧AlRow w' A' al ba)∧(G.len≤ck∧G.len≤maxLen∧KRow w' K' G bk)∧(ba++bk).Nodup∧∀q ∈ ba++bk,w.heap.size≤q∧q<w'.heap.size:=by
 refine ⟨hC.1,hK.1,List.nodup_append.2 ⟨hC.2.1,hK.2.1,fun p hp q hq e=>?_⟩,fun q hq=>?_⟩
 ·subst e
  have:=hM p hp
  have:=(hK.2.2 p hq).1
  omega
 ·rcases List.mem_append.1 hq with hq | hq
  ·exact ⟨by have:=(hC.2.2 q hq).1;omega,(hC.2.2 q hq).2⟩
  ·exact ⟨by have:=(hK.2.2 q hq).1;omega,(hK.2.2 q hq).2⟩
set_option maxHeartbeats 2000000 in
set_option maxRecDepth 100000 in
theorem copyNode_any (k sp:Int) (n t:ByteArray) (al:List (ByteArray × ByteArray)) (kids:Fo) (ih:MakesOK 35 id kids) (w:World) (A K:Option Addr) (c kc b o kb ko lo hi:Nat) (hs:kids.small) (hkl:kids.len≤1048576) (hll:al.length≤1048576)
 (hA:RowAt lo hi A al.length b o) (hal:AsAt w b o al) (hK:RowAt lo hi K kids.len kb ko) (hk:FoAt w lo hi kb ko kids) (hh:hi≤w.heap.size):
 Calls Tryz.prog 57 #[.agg #[.int .i64 k,.int .i64 sp,.string n,.string t,.slice A al.length c,.slice K kids.len kc]] w (NodeOut k sp n t al kids w):=by
 obtain ⟨ia,hia,hza,hsa,hba⟩:=info_of infoAttr
 have HN:=Lib.hid (And.intro hA hal)
 have HK:=Lib.hid (And.intro hK hk)
 have HI:=Lib.hid ih
 clear hal ih hk hA hK
 go_enter Tryz.func57,Tryz.ntmps57
 go_wp2_with (at_builtin;refine wpList_append_al rfl (.const (.slice none 0 0)) (.tmp 4) 54 rfl (w.heap.size+2) 81 ia _ Tryz.underlying54 hia hza hsa hba rfl (.slice none 0 0) rfl (World.ownsRow_nil _ _ _ _) al A c b o lo hi rfl HN.out.1 (al_below HN.out.1 HN.out.2 (((Below.refl w.heap.size w).alloc (Nat.le_refl _) _).alloc (by simp) _) hh) hll (by simp) ?_;intro v2 w2 hown2 hgrow2;obtain ⟨L2,M2,B2,hs2⟩:=box2_nil hgrow2;obtain ⟨A',ca,ba,rfl,hC⟩:=Cp.of hown2 (asAt_sizes HN.out.2) (by unfold maxLen;omega) (show w.heap.size+1<w.heap.size+2 by omega);obtain ⟨p0,p1,p2,p3,p4,p5⟩:=lay6 L2;have f4:=L2.2 4;have K2:=Lib.hid L2;have N2:=Lib.hid M2;have KB2:=Lib.hid B2;have C2:=Lib.hid hC;have C2lt:=Lib.hid (show ∀q ∈ ba,q<w2.heap.size from fun q hq=>(hC.2.2 q hq).2);clear hown2 hgrow2 L2 M2 B2 hC)
 have B3:Hid (Below w.heap.size w (w2.setCell ⟨w.heap.size,4,none⟩ (.slice A' al.length ca))):=Lib.hid (KB2.out.setCell (p:=⟨w.heap.size,4,none⟩) (Nat.le_refl _) _)
 have C3:=Lib.hid (C2.out.low (b:=w.heap.size) (by omega) 4 (.slice A' al.length ca))
 have K3:=Lib.hid (K2.out.set 4 (.slice A' al.length ca))
 have N3:=Lib.hid (N2.out.setOther (g':=w.heap.size) (by omega) 4 (.slice A' al.length ca))
 clear C2 K2 N2 p0 p1 p2 p3 p4 p5 f4
 refine (HI.out _ K kc kb ko lo hi hs hkl HK.out.1 (Nat.le_trans hh B3.out.size) (FoAt.below HK.out.1 HK.out.2 B3.out hh)).mono ?_
 rintro e w4 ⟨v4,bl4,rfl,hB4,hG4⟩
 obtain ⟨K',ck,bk,rfl,hKp⟩:=Kp.of hG4 (by show kids.len≤_;unfold maxLen;omega)
 rw[World.size_setCell]at hKp
 have hs4:=hB4.size
 rw[World.size_setCell]at hs4
 have L4:=K3.out.below hB4 (by rw[World.size_setCell];omega)
 have N4:=N3.out.below hB4 (by rw[World.size_setCell];omega)
 have C4:=Lib.hid ((C3.out.next hB4).low (b:=w.heap.size) (by omega) 5 (.slice K' kids.len ck))
 have KK:=Lib.hid (hKp.set (g:=w.heap.size) (by omega) 5 (.slice K' kids.len ck))
 have BW:Hid (Below w.heap.size w (w4.setCell ⟨w.heap.size,5,none⟩ (.slice K' kids.len ck))):=Lib.hid ((B3.out.trans (hB4.mono B3.out.size)).setCell (p:=⟨w.heap.size,5,none⟩) (Nat.le_refl _) _)
 obtain ⟨p0,p1,p2,p3,p4,p5⟩:=lay6 L4
 have f5:=L4.2 5
 have n0:=N4.1
 have n1:=N4.2
 clear hB4 hG4 hKp L4 K3 C3 B3 N3 N4
 go_wp2
 (try simp only[Exit.inBlock,Exit.then])
 have M2:Lay w4 (w.heap.size+1) _:=⟨n0,n1⟩
 have M3:=((((((M2.setOther (g':=w.heap.size) (by omega) 5 (.slice K' kids.len ck)).set 0 (.int .i64 k)).set 1 (.int .i64 sp)).set 2 (.string n)).set 3 (.string t)).set 4 (.slice A' al.length ca)).set 5 (.slice K' kids.len ck)
 have C5:=((((((C4.out.low (b:=w.heap.size+1) (Nat.le_refl _) 0 (.int .i64 k)).low (b:=w.heap.size+1) (Nat.le_refl _) 1 (.int .i64 sp)).low (b:=w.heap.size+1) (Nat.le_refl _) 2 (.string n)).low (b:=w.heap.size+1) (Nat.le_refl _) 3 (.string t)).low (b:=w.heap.size+1) (Nat.le_refl _) 4 (.slice A' al.length ca)).low (b:=w.heap.size+1) (Nat.le_refl _) 5 (.slice K' kids.len ck))
 have K5:=((((((KK.out.set (g:=w.heap.size+1) hs2 0 (.int .i64 k)).set (g:=w.heap.size+1) hs2 1 (.int .i64 sp)).set (g:=w.heap.size+1) hs2 2 (.string n)).set (g:=w.heap.size+1) hs2 3 (.string t)).set (g:=w.heap.size+1) hs2 4 (.slice A' al.length ca)).set (g:=w.heap.size+1) hs2 5 (.slice K' kids.len ck))
 refine ret_node rfl M3 rfl rfl ⟨A',K',ca,ck,ba,bk,rfl,?_,nodeOut_of C5 K5 (by omega) C2lt.out (by omega)⟩
 exact (((((BW.out.setCell (p:=⟨w.heap.size+1,0,none⟩) (Nat.le_succ _) _).setCell (p:=⟨w.heap.size+1,1,none⟩) (Nat.le_succ _) _).setCell (p:=⟨w.heap.size+1,2,none⟩) (Nat.le_succ _) _).setCell (p:=⟨w.heap.size+1,3,none⟩) (Nat.le_succ _) _).setCell (p:=⟨w.heap.size+1,4,none⟩) (Nat.le_succ _) _).setCell (p:=⟨w.heap.size+1,5,none⟩) (Nat.le_succ _) _
set_option maxHeartbeats 2000000 in
set_option maxRecDepth 100000 in
theorem copyTree_lt:∀(N:Nat) (F:Fo),F.nodes<N→MakesOK 35 id F:=by
 intro N
 induction N with
 | zero=>intro F hF;omega
 | succ N IH=>
 intro F hF w A c b o lo hi hsm hl hA hh hFo
 have HA:=Lib.hid hA
 have HS:=Lib.hid hFo
 have HF:=Lib.hid hF
 have HI:=Lib.hid IH
 have HSM:=Lib.hid hsm
 clear hA hFo hF IH hsm
 go_enter Tryz.func35,Tryz.ntmps35
 go_wp2
 go_loopw [3,8] (fun m i wr=>∃(k:Nat) (pre suf:Fo),i=.int .i64 (k:Int)∧k+suf.len=F.len∧Hid (pre.len=k∧F=pre.app suf∧(∃bl,GRow wr w.heap.size m pre bl)∧FoAt w lo hi b (o+k*6) suf∧Below w.heap.size w wr∧suf.nodes<N+1)) (fun m i wr=>F.len-(intOf i).toNat)
 case atStart=>exact ⟨0,.nil,F,rfl,by omega,Lib.hid ⟨rfl,rfl,⟨[],GRow.nil _ _⟩,by simpa using HS.out,Below.refl _ _,HF.out⟩⟩
 case round=>
  obtain ⟨k,pre,suf,rfl,hk,HH⟩:=hrel
  cases suf with
  | nil=>
   have hkl:k=F.len:=by simpa[Fo.len]using hk
   clear hk
   subst hkl
   go_wp2
   go_ret
   obtain ⟨i1,i2,⟨bl,i3⟩,_,i5,_⟩:=HH.out
   exact ⟨_,bl,rfl,i5,by rw[Fo.app_nil]at i2;rw[show id F=F from rfl,i2];exact i3⟩
  | cons xk xs xn xt xa kids r=>
   have hkl:k<F.len:=by simp[Fo.len]at hk;omega
   obtain ⟨hpl,hp,⟨bl,hG⟩,⟨⟨s0,s1,s2,s3,z2,z3⟩,⟨A4,c4,b4,o4,s4,r4,a4⟩,⟨A5,c5,b5,o5,s5,r5,a5⟩,sr⟩,hB,hnd⟩:=HH.out
   obtain ⟨rfl,hlo,hhi⟩:=HA.out.2 (by omega)
   have hb:b<w.heap.size:=by omega
   have t0:=(hB.cell (p:=⟨b,_,none⟩) hb).trans s0
   have t1:=(hB.cell (p:=⟨b,_,none⟩) hb).trans s1
   have t2:=(hB.cell (p:=⟨b,_,none⟩) hb).trans s2
   have t3:=(hB.cell (p:=⟨b,_,none⟩) hb).trans s3
   have t4:=(hB.cell (p:=⟨b,_,none⟩) hb).trans s4
   have t5:=(hB.cell (p:=⟨b,_,none⟩) hb).trans s5
   have HB:=Lib.hid hB
   have HG:=Lib.hid hG
   have H4:=Lib.hid (And.intro r4.2 a4)
   have H5:=Lib.hid (And.intro r5.2 a5)
   have HR:=Lib.hid sr
   have HP:=Lib.hid (And.intro hpl hp)
   have HND:Hid (kids.nodes<N∧r.nodes<N+1):=Lib.hid (by simp[Fo.nodes]at hnd;omega)
   have HSK:Hid (xa.length≤1048576∧kids.len≤1048576∧kids.small∧r.small):=by have:=HSM.out;rw[hp]at this;exact Lib.hid (Fo.small_app pre this)
   have HZ:=Lib.hid (And.intro z2 z3)
   clear HH s0 s1 s2 s3 s4 s5 sr hB hG r4 r5 a4 a5 hpl hp hnd z2 z3
   have hbw:w.heap.size≤wr.heap.size:=HB.out.size
   have BX:Hid (Below w.heap.size w (wr.alloc (.cells #[.int .i64 xk,.int .i64 xs,.string xn,.string xt,.slice A4 xa.length c4,.slice A5 kids.len c5] 56))):=Lib.hid (HB.out.alloc hbw _)
   go_wp2_with fail
   refine (copyNode_any xk xs xn xt xa kids (HI.out kids HND.out.1) _ A4 A5 c4 c5 b4 o4 b5 o5 lo hi HSK.out.2.2.1 HSK.out.2.1 HSK.out.1 H4.out.1 (al_below H4.out.1 H4.out.2 BX.out hh) H5.out.1 (FoAt.below H5.out.1 H5.out.2 BX.out hh) (Nat.le_trans hh BX.out.size)).mono ?_
   rintro e w4 ⟨A',K',ca,ck,ba,bk,rfl,hB4,hC,hK,hn4,hb4⟩
   have hs4:=hB4.size
   rw[World.size_alloc]at hs4
   have BW:Hid (Below wr.heap.size wr w4):=Lib.hid (((Below.refl wr.heap.size wr).alloc (Nat.le_refl _) _).trans (hB4.mono (by simp)))
   have HCN:=Lib.hid (cells_new w4 [.int .i64 xk,.int .i64 xs,.string xn,.string xt,.slice A' xa.length ca,.slice K' kids.len ck] 56)
   have hpl:pre.len≤1048576:=by have:=HP.out.1;omega
   have C4:Hid (xa.length≤ca∧xa.length≤maxLen∧AlRow (w4.alloc (.cells #[.int .i64 xk,.int .i64 xs,.string xn,.string xt,.slice A' xa.length ca,.slice K' kids.len ck] 56)) A' xa ba):=Lib.hid ⟨hC.1,hC.2.1,hC.2.2.same fun q hq=>Below.heap_alloc _ _ _ (hb4 q (by simp[hq])).2⟩
   have KK:Hid (kids.len≤ck∧kids.len≤maxLen∧KRow (w4.alloc (.cells #[.int .i64 xk,.int .i64 xs,.string xn,.string xt,.slice A' xa.length ca,.slice K' kids.len ck] 56)) K' kids bk):=Lib.hid ⟨hK.1,hK.2.1,hK.2.2.same fun q hq=>Below.heap_alloc _ _ _ (hb4 q (by simp[hq])).2⟩
   have HND2:Hid ((ba++bk).Nodup∧∀q ∈ ba++bk,wr.heap.size≤q∧q<w4.heap.size):=Lib.hid ⟨hn4,fun q hq=>⟨by have:=(hb4 q hq).1;simp at this;omega,(hb4 q hq).2⟩⟩
   clear hB4 hC hK hn4 hb4 t0 t1 t2 t3 t4 t5
   go_wp2_with (at_builtin;refine wpList_push_node rfl (.tmp 12) (.tmp 15) rfl w.heap.size _ _ pre bl rfl HG.out (BW.out.alloc (by omega) _) hbw hpl rfl xk xs xn xt xa kids A' K' ca ck ba bk HCN.out HZ.out C4.out KK.out HND2.out.1 (fun q hq=>⟨(HND2.out.2 q hq).1,by have:=(HND2.out.2 q hq).2;simp;omega⟩) ?_;intro v6 w6 bl6 hG6 hB6;have G6:=Lib.hid hG6;have B6:=Lib.hid (HB.out.trans (((BW.out.mono hbw).alloc (by omega) _).trans hB6));clear hG6 hB6)
   go_roundw
   case rel=>exact ⟨k+1,pre.app (.one xk xs xn xt xa kids),r,by go_num,by simp[Fo.len]at hk;omega,Lib.hid ⟨by rw[Fo.len_app,HP.out.1];rfl,by rw[HP.out.2,Fo.app_assoc];rfl,⟨_,G6.out⟩,by rw[show o+(k+1)*6=o+k*6+6 by omega];exact HR.out,B6.out,HND.out.2⟩⟩
   case measure=>simp[intOf];omega
theorem copyTree_any (F:Fo):MakesOK 35 id F:=copyTree_lt (F.nodes+1) F (Nat.lt_succ_self _)
end Go.Proofs.YthdkkpbhijlpaaaGreatDoor
namespace Go.Proofs.YthdkkpbhijlpaaaGreatDoor
open Go.ChangeShapes Go.WideShapes Go.ChangeAt Go.RowKit Go.Deep
theorem sfine_cnt:∀(F:Fo),SFine F→F.cnt≤16*F.nodes
 | .nil,_=>Nat.zero_le _
 | .cons k sp n t al kids rest,⟨h1,_,h3,h4⟩=>by
  have e2:=sfine_cnt kids h3
  have e3:=sfine_cnt rest h4
  have e1:al.length≤6:=by
   rcases h1 with ⟨_,_,_,_,_,h5,_⟩ | ⟨_,_,_,_,_,h⟩ | ⟨_,_,_,_,h⟩
   ·exact h5
   ·have:al.length=0:=h
    omega
   ·have:al.length=0:=h
    omega
  simp only[Fo.cnt,Fo.nodes]
  omega
theorem good_cnt {F:Fo} (h:Good F):F.cnt≤960:=by
 have:=sfine_cnt F ((fine_top F).1 h.2.2)
 have:=h.1
 omega
theorem timesOf_good:∀(k:Nat) (F:Fo),Good F→Good (timesOf k F).1
 | 0,_,h=>h
 | k+1,F,_=>by
  unfold timesOf
  split
  ·exact timesOf_good k _ (bOf_good _)
  ·exact ⟨by simp[Fo.nodes],by simp[Fo.deep],trivial⟩
noncomputable def outR (F:Fo):Fo × Int:=if faultOf F=0 then againOf F else (.nil,faultOf F)
noncomputable def outRT (F:Fo) (k:Int):Fo × Int:=if faultOf F=0 then (if 0≤k∧k≤10 then timesOf k.toNat F else (.nil,4)) else (.nil,faultOf F)
theorem outR_cn (F:Fo):(outR F).1.cnt≤960:=by
 unfold outR
 split
 ·exact bOf_cn _
 ·exact Nat.zero_le _
theorem outRT_cn (F:Fo) (k:Int):(outRT F k).1.cnt≤960:=by
 unfold outRT
 split
 ·rename_i h
  split
  ·exact good_cnt (timesOf_good _ _ (good_of h))
  ·exact Nat.zero_le _
 ·exact Nat.zero_le _
theorem bOf_bad {s:ByteArray} (h:¬(bOf s).2=0):(bOf s).1=.nil:=by
 by_cases h4:4096<s.size
 ·rw[bOf,if_pos h4]
 ·rw[bOf,if_neg h4]at h ⊢
  unfold builtOf at h ⊢
  cases hr:runZ s s.size 0 ⟨.nil,[],0⟩ with
  | bad c=>rfl
  | ok z=>rw[hr]at h;exact absurd rfl h
theorem outR_times (F:Fo):outRT F 1=outR F:=by
 unfold outRT outR
 split
 ·rw[if_pos (by omega)]
  show timesOf 1 F=_
  unfold timesOf
  by_cases h:(againOf F).2=0
  ·rw[if_pos h]
   show ((againOf F).1,(0:Int))=againOf F
   rw[←h]
  ·rw[if_neg h]
   have:(againOf F).1=.nil:=bOf_bad h
   rw[←this]
 ·rfl
set_option maxHeartbeats 2000000 in
theorem specReparse_any (F:Fo) (w:World) (A:Option Addr) (c b o lo hi:Nat) (hd:F.nodes≤1048576) (hh:hi≤w.heap.size) (hA:RowAt lo hi A F.len b o) (hF:FoAt w lo hi b o F):
 Calls Tryz.prog 8 #[.slice A F.len c] w (BuiltOut (outR F) w):=by
 have HA:=Lib.hid hA
 have HF:=Lib.hid hF
 clear hA hF
 by_cases hl:F.len≤4096
 ·by_cases hk:faultOf F=0
  ·have HK:=Lib.hid hk
   have HC:=Lib.hid (bOf_cn (serB F))
   have e:outR F=againOf F:=by unfold outR;rw[if_pos hk]
   have HAG:=Lib.hid (fun W h1 h2=>l06Again_any F (good_of hk) W A c b o lo hi h1 HA.out h2)
   rw[e]
   clear hk e
   go_enter Tryz.func8,Tryz.ntmps8
   go_wp2_with (first
    | (go_at_call 24;refine (l03Ask_any F _ A c b o lo hi hd hh HA.out HF.out).mono ?_;rintro e w1 ⟨rfl,hB⟩;rw[HK.out];have B1:=Lib.hid hB;clear hB)
    | (go_at_call 25;refine (HAG.out _ (Nat.le_trans hh B1.out.size) (FoAt.below HA.out HF.out B1.out hh)).mono ?_;rintro e w2 ⟨v,bl,rfl,hG,hB⟩;have HO:=Lib.hid (And.intro hG (B1.out.trans (hB.mono B1.out.size)));clear hG hB))
   refine (copyB_any _ v bl _ w2 HC.out HO.out.1).mono ?_
   rintro e w3 ⟨v2,bl2,rfl,hB2,hG2⟩
   have HO2:=Lib.hid (And.intro hG2 hB2)
   clear hB2 hG2
   go_wp2
   go_ret2
   exact ⟨v2,bl2,rfl,HO2.out.1.low HO.out.2.size,HO.out.2.trans (HO2.out.2.mono HO.out.2.size)⟩
  ·have e:outR F=(.nil,faultOf F):=by unfold outR;rw[if_neg hk]
   rw[e]
   have hk':(faultOf F != 0)=true:=by simpa using hk
   clear hk e
   go_enter Tryz.func8,Tryz.ntmps8
   go_wp2_with (go_at_call 24;refine (l03Ask_any F _ A c b o lo hi hd hh HA.out HF.out).mono ?_;rintro e w1 ⟨rfl,hB⟩;have B1:=Lib.hid hB;clear hB)
   go_ret2
   exact ⟨_,[],rfl,GRow.lit B1.out.size,B1.out.alloc B1.out.size _⟩
 ·have hl':(F.len:Int)>4096:=by omega
  have e:outR F=(.nil,2):=by unfold outR;rw[if_neg (by rw[fault_long hl];decide),fault_long hl]
  rw[e]
  go_enter Tryz.func8,Tryz.ntmps8
  go_wp2
  go_ret2
  exact ⟨_,[],rfl,GRow.lit (Nat.le_refl _),(Below.refl _ _).alloc (Nat.le_refl _) _⟩
set_option maxHeartbeats 2000000 in
theorem implReparseTimes_any (F:Fo) (k:Int) (w:World) (hE:Env2 w) (A:Option Addr) (c b o lo hi:Nat) (hd:F.nodes≤1048576) (hh:hi≤w.heap.size) (hA:RowAt lo hi A F.len b o) (hF:FoAt w lo hi b o F):
 Calls Tryz.prog 15 #[.slice A F.len c,.int .i64 k] w (BuiltOut (outRT F k) w):=by
 have HA:=Lib.hid hA
 have HF:=Lib.hid hF
 have HE:=Lib.hid hE
 clear hA hF hE
 by_cases hk:faultOf F=0
 ·have HK:=Lib.hid hk
  have hg:=good_of hk
  have HG:=Lib.hid hg
  have HS:Hid (F.small∧F.len≤1048576):=Lib.hid ⟨Fo.small_cnt F (by have:=good_cnt hg;omega),by have:=Fo.len_le_nodes F;omega⟩
  by_cases hr:0≤k∧k≤10
  ·have e:outRT F k=timesOf k.toNat F:=by unfold outRT;rw[if_pos hk,if_pos hr]
   rw[e]
   obtain ⟨m,rfl⟩:∃m:Nat,k=(m:Int):=⟨k.toNat,by omega⟩
   rw[show ((m:Int)).toNat=m by omega]
   have r1:¬(m:Int)<0:=by omega
   have r2:¬(m:Int)>10:=by omega
   clear e hk hg
   go_enter Tryz.func15,Tryz.ntmps15
   go_wp2_with (first
    | (go_at_call 34;refine (treeFault_any F _ A c b o lo hi hd hh HA.out HF.out).mono ?_;rintro e w1 ⟨rfl,hB⟩;rw[HK.out];have B1:=Lib.hid hB;clear hB)
    | (go_at_call 35;refine (copyTree_any F _ A c b o lo hi HS.out.1 HS.out.2 HA.out (Nat.le_trans hh B1.out.size) (FoAt.below HA.out HF.out B1.out hh)).mono ?_;rintro e w2 ⟨v,bl,rfl,hB,hG⟩;obtain ⟨A1,c1,_,rfl,_⟩:=hG.form;have HO:=Lib.hid (And.intro (hG.low B1.out.size) (B1.out.trans (hB.mono B1.out.size)));clear hG hB))
   go_loopw [23,7,8] (fun i v _ wr=>∃(j:Nat) (G:Fo) (A':Option Addr) (c':Nat) (bl:List Nat),i=.int .i64 (j:Int)∧v=.slice A' G.len c'∧j≤m∧Hid (Good G∧GRow wr w.heap.size (.slice A' G.len c') G bl∧Below w.heap.size w wr∧timesOf (m-j) G=timesOf m F)) (fun i _ _ wr=>m-(intOf i).toNat)
   case atStart=>exact ⟨0,F,A1,c1,bl,rfl,rfl,Nat.zero_le _,Lib.hid ⟨HG.out,HO.out.1,HO.out.2,rfl⟩⟩
   case round=>
    clear HO
    obtain ⟨j,G,A',c',bl',rfl,rfl,hj,HH⟩:=hrel
    obtain ⟨gg,gr,gb,gt⟩:=HH.out
    clear HH
    by_cases hlt:j<m
    ·obtain ⟨hd2,hs2,hsm,hks⟩:=good_ser gg
     obtain ⟨A2,c2,bs,hv2,hK⟩:=KR.of gr (by have:=Fo.len_le_nodes G;unfold maxLen;omega)
     injection hv2 with e1 e2 e3
     subst e1 e3
     obtain ⟨b2,h1,h2⟩:=hK.read
     have HSE:Hid (Calls Tryz.prog 37 #[.slice A' G.len c'] wr fun e w'=>e=.returned (.string (serB G))∧Below wr.heap.size wr w'):=Lib.hid (serialize_any G wr A' c' b2 0 w.heap.size wr.heap.size hd2 hs2 hsm hks (Nat.le_refl _) h1 h2)
     have HBU:Hid (∀W,Env2 W→Calls Tryz.prog 36 #[.string (serB G)] W (BuiltOut (againOf G) W)):=Lib.hid fun W hW=>build_out (serB G) W hW
     have HT:Hid ((if (againOf G).2=0 then timesOf (m-(j+1)) (againOf G).1 else (.nil,(againOf G).2))=timesOf m F):=Lib.hid (by rw[←gt,show m-j=(m-(j+1))+1 by omega,timesOf])
     have HGG:Hid (Good (againOf G).1):=Lib.hid (bOf_good _)
     have HLEN:Hid ((againOf G).1.len≤maxLen):=Lib.hid (by have:=Fo.len_cnt (againOf G).1;have:=good_cnt HGG.out;unfold maxLen;omega)
     have GB:=Lib.hid gb
     clear gg gr gb gt hd2 hs2 hsm hks hK h1 h2
     generalize againOf G=R at HBU HT HGG HLEN
     generalize serB G=X at HSE HBU
     obtain ⟨R1,R2⟩:=R
     simp only at HT HGG HLEN
     by_cases hR:R2=0
     ·subst hR
      go_wp2_with (first
       | (go_at_call 37;refine HSE.out.mono ?_;rintro e w3 ⟨rfl,hB⟩;have B3:=Lib.hid (GB.out.trans (hB.mono GB.out.size));clear hB)
       | (go_at_call 36;refine (HBU.out _ (HE.out.below B3.out)).mono ?_;rintro e w4 ⟨v,bl4,rfl,hG,hB⟩;obtain ⟨A4,c4,_,rfl,_⟩:=hG.form;have HO:=Lib.hid (And.intro (hG.low B3.out.size) (B3.out.trans (hB.mono B3.out.size)));clear hG hB))
      go_roundw
      case rel=>exact ⟨j+1,R1,A4,c4,bl4,by go_num,rfl,by omega,Lib.hid ⟨HGG.out,HO.out.1,HO.out.2,by have:=HT.out;simpa using this⟩⟩
      case measure=>(simp[intOf] <;> omega)
     ·have g1:(R2 != 0)=true:=by simpa using hR
      go_wp2_with (first
       | (go_at_call 37;refine HSE.out.mono ?_;rintro e w3 ⟨rfl,hB⟩;have B3:=Lib.hid (GB.out.trans (hB.mono GB.out.size));clear hB)
       | (go_at_call 36;refine (HBU.out _ (HE.out.below B3.out)).mono ?_;rintro e w4 ⟨v,bl4,rfl,hG,hB⟩;obtain ⟨A4,c4,_,rfl,_⟩:=hG.form;have HO:=Lib.hid (B3.out.trans (hB.mono B3.out.size));clear hG hB))
      go_ret2
      have e:=HT.out
      rw[if_neg hR]at e
      rw[←e]
      exact ⟨_,[],rfl,GRow.nil _ _,HO.out⟩
    ·obtain rfl:j=m:=by omega
     have HGR:=Lib.hid (And.intro gr gb)
     have HT:Hid (timesOf j F=(G,0)):=Lib.hid (by rw[←gt,Nat.sub_self];rfl)
     clear gg gr gb gt
     go_wp2
     go_ret2
     rw[HT.out]
     exact ⟨_,bl',rfl,HGR.out.1,HGR.out.2⟩
  ·have e:outRT F k=(.nil,4):=by unfold outRT;rw[if_pos hk,if_neg hr]
   rw[e]
   clear e hk hg
   by_cases r1:k<0
   ·clear hr
    go_enter Tryz.func15,Tryz.ntmps15
    go_wp2_with (go_at_call 34;refine (treeFault_any F _ A c b o lo hi hd hh HA.out HF.out).mono ?_;rintro e w1 ⟨rfl,hB⟩;rw[HK.out];have B1:=Lib.hid hB;clear hB)
    go_ret2
    exact ⟨_,[],rfl,GRow.nil _ _,B1.out⟩
   ·have r2:k>10:=by omega
    clear hr
    go_enter Tryz.func15,Tryz.ntmps15
    go_wp2_with (go_at_call 34;refine (treeFault_any F _ A c b o lo hi hd hh HA.out HF.out).mono ?_;rintro e w1 ⟨rfl,hB⟩;rw[HK.out];have B1:=Lib.hid hB;clear hB)
    go_ret2
    exact ⟨_,[],rfl,GRow.nil _ _,B1.out⟩
 ·have e:outRT F k=(.nil,faultOf F):=by unfold outRT;rw[if_neg hk]
  rw[e]
  have hk':(faultOf F != 0)=true:=by simpa using hk
  clear hk e
  go_enter Tryz.func15,Tryz.ntmps15
  go_wp2_with (go_at_call 34;refine (treeFault_any F _ A c b o lo hi hd hh HA.out HF.out).mono ?_;rintro e w1 ⟨rfl,hB⟩;have B1:=Lib.hid hB;clear hB)
  go_ret2
  exact ⟨_,[],rfl,GRow.nil _ _,B1.out⟩
theorem implReparse_any (F:Fo) (w:World) (hE:Env2 w) (A:Option Addr) (c b o lo hi:Nat) (hd:F.nodes≤1048576) (hh:hi≤w.heap.size) (hA:RowAt lo hi A F.len b o) (hF:FoAt w lo hi b o F):
 Calls Tryz.prog 10 #[.slice A F.len c] w (BuiltOut (outR F) w):=by
 have HR:=Lib.hid (implReparseTimes_any F 1 w hE A c b o lo hi hd hh hA hF)
 rw[←outR_times]
 go_enter Tryz.func10,Tryz.ntmps10
 go_wp2_with (go_at_call 15;refine HR.out.mono ?_;rintro e w1 ⟨v,bl,rfl,hG,hB⟩;have HO:=Lib.hid (And.intro hG hB);clear hG hB)
 go_ret2
 exact ⟨v,bl,rfl,HO.out.1,HO.out.2⟩
end Go.Proofs.YthdkkpbhijlpaaaGreatDoor
namespace Go.Proofs.YthdkkpbhijlpaaaGreatDoor
open Go.ChangeShapes Go.WideShapes Go.ChangeAt Go.RowKit Go.Deep
theorem Fo.cnt_le:∀F:Fo,F.cnt≤4*(F.len+F.size)
 | .nil=>Nat.zero_le _
 | .cons _ _ n t al kids rest=>by
  have h1:=Fo.cnt_le kids
  have h2:=Fo.cnt_le rest
  simp only[Fo.cnt,Fo.len,Fo.size]
  omega
theorem copyO_any (F:Fo) (w:World) (A:Option Addr) (c b o hi:Nat) (hs:F.len+F.size≤1048576) (h:CameIn w A b o hi F):
 Calls Tryz.prog 9 #[.slice A F.len c] w fun e w'=>∃bl,e=.returned (.slice (some ⟨w.heap.size,0,none⟩) F.len F.len)∧Below w.heap.size w w'∧Own w' w.heap.size w.heap.size F bl:=
 toNodeS_lay F w A c b o hi (Fo.small_of F (by omega)) (by omega) h.1 h.2.1 h.2.2
theorem Own.made {w:World} {g:Nat} {F:Fo} {bl:List Nat} (h:Own w g g F bl):MadeAt w g w.heap.size F:=⟨Nat.le_refl _,h.2.1,h.at⟩
theorem markO_any (F:Fo) (w:World) (c g:Nat) (bl:List Nat) (hs:F.len+F.size≤1048576) (h:Own w g g F bl):
 Calls Tryz.prog 12 #[.slice (some ⟨g,0,none⟩) F.len c,.int .i64 1] w fun e w'=>e=.returned (.int .i64 ((1+F.cnt:Nat):Int))∧OnlyAt w w' (g::bl):=
 (markNodeS_any F 1 w (some ⟨g,0,none⟩) c (g::bl) (Nat.le_refl _) (by have:=Fo.cnt_le F;omega) (by unfold maxLen;omega) (Or.inr ⟨g,bl,rfl,rfl,h.2.2.1⟩) h.2.2.2.1 (fun k hk=>by rcases List.mem_cons.1 hk with rfl | hk;exact h.2.1;exact (h.2.2.2.2 k hk).2)).mono fun _ _ ⟨h1,_,h3⟩=>⟨h1,h3⟩
end Go.Proofs.YthdkkpbhijlpaaaGreatDoor
namespace Go.Proofs.YthdkkpbhijlpaaaGreatDoor
open Go.ChangeShapes Go.WideShapes Go.ChangeAt Go.RowKit Go.Deep
set_option maxHeartbeats 2000000 in
theorem lawReparse_walk (F:Fo) (w:World) (A:Option Addr) (c b o hi:Nat) (h:CameIn w A b o hi F) (hE:Env2 w):
 Calls Tryz.prog 3 #[.slice A F.len c] w fun e w'=>e=.returned (.bool true)∧Below w.heap.size w w':=by
 have hml:=h.1.1
 have hsz:=szNodeS_any F 1048576 w A c b o hi (by omega) h.1 h.2.1 h.2.2
 have H:=Lib.hid h
 have HL:=Lib.hid hml
 have HV:=Lib.hid hE
 clear h hml hE
 by_cases hs:F.len+F.size≤1048576
 ·have HS:=Lib.hid hs
  have HN:=Lib.hid (Nat.le_trans (Fo.nodes_le F) hs)
  have HE:=Lib.hid (left_le hs)
  have hnn:0≤((1048576:Nat):Int)-((F.len+F.size:Nat):Int):=by omega
  have HC:=Lib.hid (outR_cn F)
  have hol:(outR F).1.len≤maxLen:=by have:=Fo.len_cnt (outR F).1;have:=HC.out;unfold maxLen;omega
  have hcc:1+(outR F).1.cnt≤1073741824:=by have:=HC.out;omega
  clear hs
  go_enter Tryz.func3,Tryz.ntmps3
  go_wp2_with (go_at_call 7;refine hsz.mono ?_;rintro e w1 ⟨rfl,hB1⟩;rw[HE.out];have B1:=Lib.hid hB1;clear hB1 hsz)
  refine (copy_any F _ A c b o hi HS.out (H.out.next B1.out)).mono ?_
  rintro e w2 ⟨rfl,hB2,hM2⟩
  have B2:=Lib.hid (B1.out.trans (hB2.mono B1.out.size))
  have M2:=Lib.hid hM2
  clear hB2 hM2
  go_wp2_with fail
  refine (specReparse_any F _ _ _ _ _ _ _ HN.out M2.out.1 (M2.out.row HL.out) M2.out.2.2).mono ?_
  rintro e w3 ⟨v,blw,rfl,hW,hB3⟩
  obtain ⟨Aw,cw,bw,rfl,hw⟩:=KR.of hW hol
  have W3:=Lib.hid hw
  have B3:=Lib.hid (B2.out.trans (hB3.mono B2.out.size))
  clear hB3 hW hw
  go_wp2_with fail
  refine (copyO_any F _ A c b o hi HS.out (H.out.next B3.out)).mono ?_
  rintro e w4 ⟨bl,rfl,hB4,hO4⟩
  have B4:=Lib.hid (B3.out.trans (hB4.mono B3.out.size))
  have O4:=Lib.hid hO4
  have W4:=Lib.hid (W3.out.next hB4)
  clear hB4 hO4
  go_wp2_with fail
  refine (implReparse_any F _ (HV.out.below B4.out) _ _ _ _ _ _ HN.out (Nat.le_refl _) (O4.out.row HL.out) O4.out.at).mono ?_
  rintro e w5 ⟨v,blg,rfl,hG,hB5⟩
  obtain ⟨Ag,cg,bg,rfl,hg⟩:=KR.of hG hol
  have G5:=Lib.hid hg
  have B5:=Lib.hid (B4.out.trans (hB5.mono B4.out.size))
  have O5:=Lib.hid (O4.out.next hB5)
  have W5:=Lib.hid (W4.out.next hB5)
  clear hB5 hG hg
  go_wp2_with fail
  refine (eqKR G5.out W5.out).mono ?_
  rintro e w6 ⟨rfl,hB⟩
  have B6:=Lib.hid (B5.out.trans (hB.mono B5.out.size))
  have O6:=Lib.hid (O5.out.next hB)
  have W6:=Lib.hid (W5.out.next hB)
  have G6:=Lib.hid (G5.out.next hB)
  clear hB
  go_wp2_with fail
  refine (copy_any F _ A c b o hi HS.out (H.out.next B6.out)).mono ?_
  rintro e w7 ⟨rfl,hB,hM7⟩
  have B7:=Lib.hid (B6.out.trans (hB.mono B6.out.size))
  have O7:=Lib.hid (O6.out.next hB)
  have W7:=Lib.hid (W6.out.next hB)
  have G7:=Lib.hid (G6.out.next hB)
  have M7:=Lib.hid hM7
  clear hB hM7
  go_wp2_with fail
  refine (alike_any F _ _ _ _ _ _ _ HL.out O7.out.made M7.out).mono ?_
  rintro e w8 ⟨rfl,hB⟩
  have B8:=Lib.hid (B7.out.trans (hB.mono B7.out.size))
  have O8:=Lib.hid (O7.out.next hB)
  have W8:=Lib.hid (W7.out.next hB)
  have G8:=Lib.hid (G7.out.next hB)
  clear hB
  go_wp2_with fail
  refine (markO_any F _ _ _ bl HS.out O8.out).mono ?_
  rintro e w9 ⟨rfl,hB⟩
  have hbl:∀k ∈ w3.heap.size::bl,w3.heap.size≤k∧k<w4.heap.size:=fun k hk=>by
   rcases List.mem_cons.1 hk with rfl | hk
   ·exact ⟨Nat.le_refl _,O4.out.2.1⟩
   ·exact O4.out.2.2.2.2 k hk
  have B9:=Lib.hid (B8.out.trans (hB.below (B:=w.heap.size) (fun k hk=>by have:=hbl k hk;have:=B3.out.size;omega) B8.out.size))
  have W9:=Lib.hid (W8.out.only hB fun k hk=>by have:=hbl k hk;omega)
  have G9:=Lib.hid (G8.out.only hB fun k hk=>by have:=hbl k hk;omega)
  clear hB
  go_wp2_with fail
  refine (eqKR G9.out W9.out).mono ?_
  rintro e w10 ⟨rfl,hB⟩
  have B10:=Lib.hid (B9.out.trans (hB.mono B9.out.size))
  have W10:=Lib.hid (W9.out.next hB)
  have G10:=Lib.hid (G9.out.next hB)
  clear hB
  go_wp2_with fail
  refine (markKR G10.out hcc).mono ?_
  rintro e w11 ⟨rfl,hR,hB⟩
  have B11:=Lib.hid (B10.out.trans (hB.below (B:=w.heap.size) (fun k hk=>by have:=G5.out.at' k hk;have:=B4.out.size;omega) B10.out.size))
  have W11:=Lib.hid (W10.out.only hB fun k hk=>by have:=G5.out.at' k hk;have:=O4.out.2.1;have:=W4.out.le;omega)
  have G11:Hid (KR w11 Ag (markFo (outR F).1 1) bg w4.heap.size w5.heap.size):=Lib.hid hR
  clear hB hR
  go_wp2_with fail
  refine (heldKR G11.out hcc).mono ?_
  rintro e w12 ⟨rfl,hB⟩
  have B12:=Lib.hid (B11.out.trans (hB.mono B11.out.size))
  have W12:=Lib.hid (W11.out.next hB)
  have G12:=Lib.hid (G11.out.next hB)
  clear hB
  go_wp2_with fail
  refine (copy_any F _ A c b o hi HS.out (H.out.next B12.out)).mono ?_
  rintro e w13 ⟨rfl,hB,hM⟩
  have B13:=Lib.hid (B12.out.trans (hB.mono B12.out.size))
  have W13:=Lib.hid (W12.out.next hB)
  have G13:=Lib.hid (G12.out.next hB)
  have M13:=Lib.hid hM
  clear hB hM
  go_wp2_with fail
  refine (implReparse_any F _ (HV.out.below B13.out) _ _ _ _ _ _ HN.out M13.out.1 (M13.out.row HL.out) M13.out.2.2).mono ?_
  rintro e w14 ⟨v,blv,rfl,hV,hB⟩
  obtain ⟨Ah,ch,bh,rfl,hh⟩:=KR.of hV hol
  have B14:=Lib.hid (B13.out.trans (hB.mono B13.out.size))
  have W14:=Lib.hid (W13.out.next hB)
  have G14:=Lib.hid (G13.out.next hB)
  have H14:=Lib.hid hh
  clear hB hV hh
  go_wp2_with fail
  refine (eqKR H14.out W14.out).mono ?_
  rintro e w15 ⟨rfl,hB⟩
  have B15:=Lib.hid (B14.out.trans (hB.mono B14.out.size))
  have G15:=Lib.hid (G14.out.next hB)
  clear hB
  go_wp2_with fail
  refine (heldKR G15.out hcc).mono ?_
  rintro e w16 ⟨rfl,hB⟩
  have B16:=Lib.hid (B15.out.trans (hB.mono B15.out.size))
  clear hB
  go_wp2_with fail
  go_ret
  exact ⟨rfl,B16.out⟩
 ·have HE:=Lib.hid (left_gt hs)
  clear hs
  go_enter Tryz.func3,Tryz.ntmps3
  go_wp2_with (go_at_call 7;refine hsz.mono ?_;rintro e w1 ⟨rfl,hB1⟩;rw[HE.out];have B1:=Lib.hid hB1;clear hB1 hsz)
  go_ret
  exact ⟨rfl,B1.out⟩
end Go.Proofs.YthdkkpbhijlpaaaGreatDoor
namespace Go.Proofs.YthdkkpbhijlpaaaGreatDoor
open Go.ChangeShapes Go.WideShapes Go.ChangeAt Go.RowKit Go.Deep
def ReadOut (r:Fo × Int) (w:World) (e:Ending) (w':World):Prop:=
 ∃A c b o lo hi,e=.returned (.tuple #[.slice A r.1.len c,.int .i64 r.2])∧hi≤w'.heap.size∧RowAt lo hi A r.1.len b o∧FoAt w' lo hi b o r.1∧Below w.heap.size w w'
set_option maxHeartbeats 2000000 in
theorem l06Times_any (F:Fo) (m:Nat) (hm:m≤10) (hg:Good F) (w:World) (A:Option Addr) (c b o lo hi:Nat) (hh:hi≤w.heap.size) (hA:RowAt lo hi A F.len b o) (hF:FoAt w lo hi b o F):
 Calls Tryz.prog 33 #[.slice A F.len c,.int .i64 (m:Int)] w (ReadOut (timesOf m F) w):=by
 have H0:=Lib.hid (And.intro hg (And.intro hh (And.intro hA hF)))
 clear hg hh hA hF
 go_enter Tryz.func33,Tryz.ntmps33
 go_wp2
 go_loopw [0,6] (fun v i wr=>∃(j:Nat) (G:Fo) (A':Option Addr) (c' b' o' lo' hi':Nat),i=.int .i64 (j:Int)∧v=.slice A' G.len c'∧j≤m∧Hid (Good G∧hi'≤wr.heap.size∧RowAt lo' hi' A' G.len b' o'∧FoAt wr lo' hi' b' o' G∧Below w.heap.size w wr∧timesOf (m-j) G=timesOf m F)) (fun _ i wr=>m-(intOf i).toNat)
 case atStart=>exact ⟨0,F,A,c,b,o,lo,hi,rfl,rfl,Nat.zero_le _,Lib.hid ⟨H0.out.1,H0.out.2.1,H0.out.2.2.1,H0.out.2.2.2,Below.refl _ _,rfl⟩⟩
 case round=>
  clear H0
  obtain ⟨j,G,A',c',b',o',lo',hi',rfl,rfl,hj,HH⟩:=hrel
  obtain ⟨gg,g1,g2,g3,gb,gt⟩:=HH.out
  clear HH
  by_cases hlt:j<m
  ·have HAG:=Lib.hid (l06Again_any G gg wr A' c' b' o' lo' hi' g1 g2 g3)
   have HT:Hid ((if (againOf G).2=0 then timesOf (m-(j+1)) (againOf G).1 else (.nil,(againOf G).2))=timesOf m F):=Lib.hid (by rw[←gt,show m-j=(m-(j+1))+1 by omega,timesOf])
   have HGG:Hid (Good (againOf G).1):=Lib.hid (bOf_good _)
   have HLEN:Hid ((againOf G).1.len≤maxLen):=Lib.hid (by have:=Fo.len_cnt (againOf G).1;have:=good_cnt HGG.out;unfold maxLen;omega)
   have GB:=Lib.hid gb
   clear gg g1 g2 g3 gb gt
   generalize againOf G=R at HAG HT HGG HLEN
   obtain ⟨R1,R2⟩:=R
   simp only at HT HGG HLEN
   by_cases hR:R2=0
   ·subst hR
    go_wp2_with (go_at_call 25;refine HAG.out.mono ?_;rintro e w4 ⟨v,bl4,rfl,hG,hB⟩;obtain ⟨A4,c4,bs4,rfl,hK⟩:=KR.of hG HLEN.out;obtain ⟨b4,k1,k2⟩:=hK.read;have HO:=Lib.hid (And.intro k1 (And.intro k2 (GB.out.trans (hB.mono GB.out.size))));clear hG hB hK k1 k2)
    go_roundw
    case rel=>exact ⟨j+1,R1,A4,c4,b4,0,wr.heap.size,w4.heap.size,by go_num,rfl,by omega,Lib.hid ⟨HGG.out,Nat.le_refl _,HO.out.1,HO.out.2.1,HO.out.2.2,by have:=HT.out;simpa using this⟩⟩
    case measure=>(simp[intOf] <;> omega)
   ·have g1:(R2 != 0)=true:=by simpa using hR
    go_wp2_with (go_at_call 25;refine HAG.out.mono ?_;rintro e w4 ⟨v,bl4,rfl,hG,hB⟩;have HO:=Lib.hid (GB.out.trans (hB.mono GB.out.size));clear hG hB)
    go_ret2
    have e:=HT.out
    rw[if_neg hR]at e
    rw[←e]
    refine ⟨_,_,0,0,0,0,rfl,Nat.zero_le _,⟨Nat.zero_le _,fun hp=>absurd hp (Nat.lt_irrefl 0)⟩,trivial,HO.out.alloc HO.out.size _⟩
  ·obtain rfl:j=m:=by omega
   have HGR:=Lib.hid (And.intro g1 (And.intro g2 (And.intro g3 gb)))
   have HT:Hid (timesOf j F=(G,0)):=Lib.hid (by rw[←gt,Nat.sub_self];rfl)
   clear gg g1 g2 g3 gb gt
   go_wp2
   go_ret2
   rw[HT.out]
   exact ⟨A',c',b',o',lo',hi',rfl,HGR.out.1,HGR.out.2.1,HGR.out.2.2.1,HGR.out.2.2.2⟩
set_option maxHeartbeats 2000000 in
theorem specReparseTimes_any (F:Fo) (k:Int) (w:World) (A:Option Addr) (c b o lo hi:Nat) (hd:F.nodes≤1048576) (hh:hi≤w.heap.size) (hA:RowAt lo hi A F.len b o) (hF:FoAt w lo hi b o F):
 Calls Tryz.prog 14 #[.slice A F.len c,.int .i64 k] w (BuiltOut (outRT F k) w):=by
 have HA:=Lib.hid hA
 have HF:=Lib.hid hF
 clear hA hF
 have HI:=Lib.hid (fun W=>l01In_any k 0 10 W)
 by_cases hl:F.len≤4096
 ·by_cases hk:faultOf F=0
  ·have HK:=Lib.hid hk
   have HG:=Lib.hid (good_of hk)
   by_cases hr:0≤k∧k≤10
   ·have e:outRT F k=timesOf k.toNat F:=by unfold outRT;rw[if_pos hk,if_pos hr]
    rw[e]
    obtain ⟨m,rfl⟩:∃m:Nat,k=(m:Int):=⟨k.toNat,by omega⟩
    rw[show ((m:Int)).toNat=m by omega]
    have HD:Hid ((decide ((0:Int)≤(m:Int))&&decide ((m:Int)≤10))=true):=Lib.hid (by simp;omega)
    have HTG:=Lib.hid (timesOf_good m F HG.out)
    have HTM:Hid (∀W,hi≤W.heap.size→FoAt W lo hi b o F→Calls Tryz.prog 33 #[.slice A F.len c,.int .i64 (m:Int)] W (ReadOut (timesOf m F) W)):=Lib.hid fun W h1 h2=>l06Times_any F m (by omega) HG.out W A c b o lo hi h1 HA.out h2
    clear e hk hr
    generalize timesOf m F=R at HTG HTM ⊢
    have HSM:Hid (R.1.small∧R.1.len≤1048576):=Lib.hid ⟨Fo.small_cnt R.1 (by have:=good_cnt HTG.out;omega),by have:=Fo.len_le_nodes R.1;have:=HTG.out.1;omega⟩
    go_enter Tryz.func14,Tryz.ntmps14
    go_wp2_with (first
     | (go_at_call 24;refine (l03Ask_any F _ A c b o lo hi hd hh HA.out HF.out).mono ?_;rintro e w1 ⟨rfl,hB⟩;rw[HK.out];have B1:=Lib.hid hB;clear hB)
     | (go_at_call 32;refine (HI.out _).mono ?_;rintro e w' ⟨rfl,rfl⟩;rw[HD.out])
     | (go_at_call 33;refine (HTM.out _ (Nat.le_trans hh B1.out.size) (FoAt.below HA.out HF.out B1.out hh)).mono ?_;rintro e w2 ⟨A2,c2,b2,o2,lo2,hi2,rfl,t1,t2,t3,t4⟩;have HO:=Lib.hid (And.intro t1 (And.intro t2 (And.intro t3 (B1.out.trans (t4.mono B1.out.size)))));clear t1 t2 t3 t4))
    refine (l03Copy_any R.1 w2 A2 c2 b2 o2 lo2 hi2 HSM.out.1 HSM.out.2 HO.out.2.1 HO.out.1 HO.out.2.2.1).mono ?_
    rintro e w3 ⟨v2,bl2,rfl,hB2,hG2⟩
    have HO2:=Lib.hid (And.intro hG2 hB2)
    clear hB2 hG2
    go_wp2
    go_ret2
    exact ⟨v2,bl2,rfl,HO2.out.1.low HO.out.2.2.2.size,HO.out.2.2.2.trans (HO2.out.2.mono HO.out.2.2.2.size)⟩
   ·have e:outRT F k=(.nil,4):=by unfold outRT;rw[if_pos hk,if_neg hr]
    rw[e]
    have HD:Hid ((decide ((0:Int)≤k)&&decide (k≤10))=false):=Lib.hid (by simp;omega)
    clear e hk hr
    go_enter Tryz.func14,Tryz.ntmps14
    go_wp2_with (first
     | (go_at_call 24;refine (l03Ask_any F _ A c b o lo hi hd hh HA.out HF.out).mono ?_;rintro e w1 ⟨rfl,hB⟩;rw[HK.out];have B1:=Lib.hid hB;clear hB)
     | (go_at_call 32;refine (HI.out _).mono ?_;rintro e w' ⟨rfl,rfl⟩;rw[HD.out]))
    go_ret2
    exact ⟨_,[],rfl,GRow.lit B1.out.size,B1.out.alloc B1.out.size _⟩
  ·have e:outRT F k=(.nil,faultOf F):=by unfold outRT;rw[if_neg hk]
   rw[e]
   have hk':(faultOf F != 0)=true:=by simpa using hk
   clear hk e
   go_enter Tryz.func14,Tryz.ntmps14
   go_wp2_with (go_at_call 24;refine (l03Ask_any F _ A c b o lo hi hd hh HA.out HF.out).mono ?_;rintro e w1 ⟨rfl,hB⟩;have B1:=Lib.hid hB;clear hB)
   go_ret2
   exact ⟨_,[],rfl,GRow.lit B1.out.size,B1.out.alloc B1.out.size _⟩
 ·have hl':(F.len:Int)>4096:=by omega
  have e:outRT F k=(.nil,2):=by unfold outRT;rw[if_neg (by rw[fault_long hl];decide),fault_long hl]
  rw[e]
  go_enter Tryz.func14,Tryz.ntmps14
  go_wp2
  go_ret2
  exact ⟨_,[],rfl,GRow.lit (Nat.le_refl _),(Below.refl _ _).alloc (Nat.le_refl _) _⟩
end Go.Proofs.YthdkkpbhijlpaaaGreatDoor
