import Derived.Test.YthdkkpbhijlpaaaGreatDoorQ16
import Derived.Test.YthdkkpbhijlpaaaGreatDoorQ06
import Derived.Test.YthdkkpbhijlpaaaGreatDoorQ12
set_option linter.unusedVariables false
namespace Go.Proofs.YthdkkpbhijlpaaaGreatDoor
open Go.ChangeShapes Go.WideShapes Go.ChangeAt Go.RowKit Go.Deep
def RowOut (G:Fo) (w:World) (e:Ending) (w':World):Prop:=∃v bl,e=.returned v∧Below w.heap.size w w'∧GRow w' w.heap.size v G bl
def MakesOK (f:FuncId) (G:Fo→Fo) (F:Fo):Prop:=∀(w:World) (A:Option Addr) (c b o lo hi:Nat),F.small→F.len≤1048576→RowAt lo hi A F.len b o→hi≤w.heap.size→FoAt w lo hi b o F →
 Calls Tryz.prog f #[.slice A F.len c] w (RowOut (G F) w)
def Cp (g:Nat) (w:World) (A:Option Addr) (ca:Nat) (al:List (ByteArray × ByteArray)) (ba:List Nat):Prop:=(al.length≤ca∧al.length≤maxLen∧AlRow w A al ba)∧ba.Nodup∧∀k ∈ ba,g<k∧k<w.heap.size
theorem Cp.of {g base:Nat} {w:World} {v:Value} {al:List (ByteArray × ByteArray)} (h:w.ownsRow base 81 2 v al.length (alVals al)) (hs:∀x ∈ al,x.1.size≤maxLen∧x.2.size≤maxLen) (hl:al.length≤maxLen) (hg:g<base):∃A ca ba,v=.slice A al.length ca∧Cp g w A ca al ba:=by
 obtain ⟨A,ca,ba,h1,h2,h3,h4,h5,_⟩:=arow_form h hs
 exact ⟨A,ca,ba,h1,⟨h2,hl,h3⟩,h4,fun k hk=>⟨by have:=(h5 k hk).1;omega,(h5 k hk).2⟩⟩
theorem Cp.set {g:Nat} {w:World} {A:Option Addr} {ca:Nat} {al:List (ByteArray × ByteArray)} {ba:List Nat} (h:Cp g w A ca al ba) (j:Nat) (u:Value):Cp g (w.setCell ⟨g,j,none⟩ u) A ca al ba:=
 ⟨⟨h.1.1,h.1.2.1,h.1.2.2.same fun k hk=>Below.heap_setCell _ _ _ _ (by have:=(h.2.2 k hk).1;show k≠g;omega)⟩,h.2.1,fun k hk=>by rw[World.size_setCell];exact h.2.2 k hk⟩
theorem Cp.next {g:Nat} {w w':World} {A:Option Addr} {ca:Nat} {al:List (ByteArray × ByteArray)} {ba:List Nat} (h:Cp g w A ca al ba) (hB:Below w.heap.size w w'):Cp g w' A ca al ba:=
 ⟨⟨h.1.1,h.1.2.1,h.1.2.2.same fun k hk=>hB.block k (h.2.2 k hk).2⟩,h.2.1,fun k hk=>⟨(h.2.2 k hk).1,Nat.lt_of_lt_of_le (h.2.2 k hk).2 hB.size⟩⟩
def Kp (M:Nat) (w:World) (K:Option Addr) (ck:Nat) (F:Fo) (bk:List Nat):Prop:=(F.len≤ck∧F.len≤maxLen∧KRow w K F bk)∧bk.Nodup∧∀k ∈ bk,M≤k∧k<w.heap.size
theorem Kp.of {M:Nat} {w:World} {v:Value} {F:Fo} {bl:List Nat} (h:GRow w M v F bl) (hm:F.len≤maxLen):∃K ck bk,v=.slice K F.len ck∧Kp M w K ck F bk:=by
 obtain ⟨K,ck,bk,h1,h2,h3,h4,h5⟩:=h.form
 exact ⟨K,ck,bk,h1,⟨h2,hm,h3⟩,h4,h5⟩
theorem Kp.set {M g:Nat} {w:World} {K:Option Addr} {ck:Nat} {F:Fo} {bk:List Nat} (h:Kp M w K ck F bk) (hg:g<M) (j:Nat) (u:Value):Kp M (w.setCell ⟨g,j,none⟩ u) K ck F bk:=
 ⟨⟨h.1.1,h.1.2.1,h.1.2.2.same fun k hk=>Below.heap_setCell _ _ _ _ (by have:=(h.2.2 k hk).1;show k≠g;omega)⟩,h.2.1,fun k hk=>by rw[World.size_setCell];exact h.2.2 k hk⟩
theorem Kp.next {M:Nat} {w w':World} {K:Option Addr} {ck:Nat} {F:Fo} {bk:List Nat} (h:Kp M w K ck F bk) (hB:Below w.heap.size w w'):Kp M w' K ck F bk:=
 ⟨⟨h.1.1,h.1.2.1,h.1.2.2.same fun k hk=>hB.block k (h.2.2 k hk).2⟩,h.2.1,fun k hk=>⟨(h.2.2 k hk).1,Nat.lt_of_lt_of_le (h.2.2 k hk).2 hB.size⟩⟩
theorem box_lit {wr w2:World} {cs:Array Value} {t te:TypeId} (hg:((wr.alloc (.cells cs t)).alloc (.cells #[] te)).grownBy w2 (some (wr.heap.size+1))):Lay w2 wr.heap.size cs∧Below wr.heap.size wr w2∧wr.heap.size+1<w2.heap.size:=by
 have h1:=hg.size
 simp only[World.size_alloc]at h1
 have e:w2.heap[wr.heap.size]?=((wr.alloc (.cells cs t)).alloc (.cells #[] te)).heap[wr.heap.size]?:=hg.block _ (by simp;omega) (by simp)
 have hL:=(Lay.new wr cs t).alloc (by simp) (.cells #[] te)
 refine ⟨⟨fun j=>(World.cell?_of_block (a:=⟨_,j,none⟩) e).trans (hL.1 j),fun j=>(World.frozen?_of_block (a:=⟨_,j,none⟩) e).trans (hL.2 j)⟩,(((Below.refl wr.heap.size wr).alloc (Nat.le_refl _) _).alloc (by simp) _).grown hg (by simp;omega) (fun q hq=>by injection hq with hq;omega),by omega⟩
theorem own_lit (wr:World) (cs:Array Value) (t:TypeId):((wr.alloc (.cells cs t)).alloc (.cells #[] 81)).ownsRow (wr.heap.size+1) 81 2 (.slice (some ⟨wr.heap.size+1,0,none⟩) 0 0) 0 []:=by
 have:=World.ownsRow_lit (base:=wr.heap.size+1) (e:=81) (size:=2) (wr.alloc (.cells cs t)) #[] 0 (by simp) (Nat.zero_le _) rfl
 simpa using this
theorem lay6 {w:World} {g:Nat} {v0 v1 v2 v3 v4 v5:Value} (h:Lay w g #[v0,v1,v2,v3,v4,v5]):w.cell? ⟨g,0,none⟩=some v0∧w.cell? ⟨g,1,none⟩=some v1∧w.cell? ⟨g,2,none⟩=some v2∧w.cell? ⟨g,3,none⟩=some v3∧w.cell? ⟨g,4,none⟩=some v4∧w.cell? ⟨g,5,none⟩=some v5:=
 ⟨h.1 0,h.1 1,h.1 2,h.1 3,h.1 4,h.1 5⟩
set_option maxHeartbeats 2000000 in
set_option maxRecDepth 100000 in
theorem l03Copy_lt:∀(N:Nat) (F:Fo),F.nodes<N→MakesOK 26 id F:=by
 intro N
 induction N with
 | zero=>intro F hF;omega
 | succ N IH=>
 intro F hF w A c b o lo hi hsm hl hA hh hFo
 obtain ⟨ia,hia,hza,hsa,hba⟩:=info_of infoAttr
 have HA:=Lib.hid hA
 have HS:=Lib.hid hFo
 have HF:=Lib.hid hF
 have HI:=Lib.hid IH
 have HSM:=Lib.hid hsm
 clear hA hFo hF IH hsm
 go_enter Tryz.func26,Tryz.ntmps26
 go_wp2
 go_loopw [3,4] (fun m i wr=>∃(k:Nat) (pre suf:Fo),i=.int .i64 (k:Int)∧k+suf.len=F.len∧Hid (pre.len=k∧F=pre.app suf∧(∃bl,GRow wr w.heap.size m pre bl)∧FoAt w lo hi b (o+k*6) suf∧Below w.heap.size w wr∧suf.nodes<N+1)) (fun m i wr=>F.len-(intOf i).toNat)
 case atStart=>exact ⟨0,.nil,F,rfl,by omega,Lib.hid ⟨rfl,rfl,⟨[],GRow.lit (Nat.le_refl _)⟩,by simpa using HS.out,(Below.refl _ _).alloc (Nat.le_refl _) _,HF.out⟩⟩
 case round=>
  obtain ⟨k,pre,suf,rfl,hk,HH⟩:=hrel
  cases suf with
  | nil=>
   have hkl:k=F.len:=by simpa[Fo.len]using hk
   clear hk
   subst hkl
   go_wp2
   go_ret
   obtain ⟨i1,i2,⟨bl,i3⟩,_,i5,_⟩:=HH.out
   exact ⟨_,bl,rfl,i5,by rw[Fo.app_nil]at i2;rw[show id F=F from rfl,i2];exact i3⟩
  | cons xk xs xn xt xa kids r=>
   have hkl:k<F.len:=by simp[Fo.len]at hk;omega
   obtain ⟨hpl,hp,⟨bl,hG⟩,⟨⟨s0,s1,s2,s3,z2,z3⟩,⟨A4,c4,b4,o4,s4,r4,a4⟩,⟨A5,c5,b5,o5,s5,r5,a5⟩,sr⟩,hB,hnd⟩:=HH.out
   obtain ⟨rfl,hlo,hhi⟩:=HA.out.2 (by omega)
   have hb:b<w.heap.size:=by omega
   have t0:=(hB.cell (p:=⟨b,_,none⟩) hb).trans s0
   have t1:=(hB.cell (p:=⟨b,_,none⟩) hb).trans s1
   have t2:=(hB.cell (p:=⟨b,_,none⟩) hb).trans s2
   have t3:=(hB.cell (p:=⟨b,_,none⟩) hb).trans s3
   have t4:=(hB.cell (p:=⟨b,_,none⟩) hb).trans s4
   have t5:=(hB.cell (p:=⟨b,_,none⟩) hb).trans s5
   have HB:=Lib.hid hB
   have HG:=Lib.hid hG
   have H4:=Lib.hid (And.intro r4.2 a4)
   have H5:=Lib.hid (And.intro r5.2 a5)
   have HR:=Lib.hid sr
   have HP:=Lib.hid (And.intro hpl hp)
   have HND:Hid (kids.nodes<N∧r.nodes<N+1):=Lib.hid (by simp[Fo.nodes]at hnd;omega)
   have HSK:Hid (xa.length≤1048576∧kids.len≤1048576∧kids.small∧r.small):=by have:=HSM.out;rw[hp]at this;exact Lib.hid (Fo.small_app pre this)
   have HZ:=Lib.hid (And.intro z2 z3)
   clear HH s0 s1 s2 s3 s4 s5 sr hB hG r4 r5 a4 a5 hpl hp hnd z2 z3
   have hbw:w.heap.size≤wr.heap.size:=HB.out.size
   go_wp2_with (at_builtin;refine wpList_append_al rfl (.tmp 17) (.tmp 19) 54 rfl (wr.heap.size+1) 81 ia _ Tryz.underlying54 hia hza hsa hba rfl (.slice (some ⟨wr.heap.size+1,0,none⟩) 0 0) rfl (own_lit wr _ _) xa A4 c4 b4 o4 lo hi rfl H4.out.1 (al_below H4.out.1 H4.out.2 ((HB.out.alloc hbw _).alloc (by simp;omega) _) hh) HSK.out.1 (by simp) ?_;intro v2 w2 hown2 hgrow2;obtain ⟨L2,B2,hs2⟩:=box_lit hgrow2;obtain ⟨A',ca,ba,rfl,hC⟩:=Cp.of hown2 (asAt_sizes H4.out.2) (by have:=HSK.out.1;unfold maxLen;omega) (Nat.lt_succ_self _);obtain ⟨p0,p1,p2,p3,p4,p5⟩:=lay6 L2;have f4:=L2.2 4;have K2:=Lib.hid L2;have KB2:=Lib.hid B2;have C2:=Lib.hid hC;have C2lt:=Lib.hid (show ∀q ∈ ba,q<w2.heap.size from fun q hq=>(hC.2.2 q hq).2);clear hown2 hgrow2 L2 B2 hC)
   have B3:Hid (Below w.heap.size w (w2.setCell ⟨wr.heap.size,4,none⟩ (.slice A' xa.length ca))):=Lib.hid ((HB.out.trans (KB2.out.mono hbw)).setCell (p:=⟨wr.heap.size,4,none⟩) hbw _)
   have C3:=Lib.hid (C2.out.set 4 (.slice A' xa.length ca))
   have K3:=Lib.hid (K2.out.set 4 (.slice A' xa.length ca))
   clear C2 K2 p0 p1 p2 p3 p4 p5 f4
   refine (HI.out kids HND.out.1 _ A5 c5 b5 o5 lo hi HSK.out.2.2.1 HSK.out.2.1 H5.out.1 (Nat.le_trans hh B3.out.size) (FoAt.below H5.out.1 H5.out.2 B3.out hh)).mono ?_
   rintro e w4 ⟨v4,bl4,rfl,hB4,hG4⟩
   obtain ⟨K',ck,bk,rfl,hK⟩:=Kp.of hG4 (by have:=HSK.out.2.1;show kids.len≤_;unfold maxLen;omega)
   rw[World.size_setCell]at hK
   have hs4:=hB4.size
   rw[World.size_setCell]at hs4
   have L4:=K3.out.below hB4 (by rw[World.size_setCell];omega)
   have C4:=Lib.hid ((C3.out.next hB4).set 5 (.slice K' kids.len ck))
   have KK:=Lib.hid (hK.set (g:=wr.heap.size) (by omega) 5 (.slice K' kids.len ck))
   have BW:Hid (Below wr.heap.size wr (w4.setCell ⟨wr.heap.size,5,none⟩ (.slice K' kids.len ck))):=Lib.hid (((KB2.out.setCell (p:=⟨wr.heap.size,4,none⟩) (Nat.le_refl _) _).trans (hB4.mono (by rw[World.size_setCell];omega))).setCell (p:=⟨wr.heap.size,5,none⟩) (Nat.le_refl _) _)
   obtain ⟨p0,p1,p2,p3,p4,p5⟩:=lay6 L4
   have f5:=L4.2 5
   clear hB4 hG4 hK L4 K3 C3 B3
   have hcn:=cells_new (w4.setCell ⟨wr.heap.size,5,none⟩ (.slice K' kids.len ck)) [.int .i64 xk,.int .i64 xs,.string xn,.string xt,.slice A' xa.length ca,.slice K' kids.len ck] 56
   rw[World.size_setCell]at hcn
   have HCN:=Lib.hid hcn
   have hpl:pre.len≤1048576:=by have:=HP.out.1;omega
   have HND2:Hid ((ba++bk).Nodup∧∀q ∈ ba++bk,wr.heap.size≤q∧q<w4.heap.size):=by
    have h1:=C4.out.2
    have h2:=KK.out.2
    simp only[World.size_setCell]at h1 h2
    have h3:=C2lt.out
    refine Lib.hid ⟨List.nodup_append.2 ⟨h1.1,h2.1,fun p hp q hq e=>?_⟩,fun q hq=>?_⟩
    ·subst e
     have:=h3 p hp
     have:=(h2.2 p hq).1
     omega
    ·rcases List.mem_append.1 hq with hq | hq
     ·exact ⟨by have:=(h1.2 q hq).1;omega,(h1.2 q hq).2⟩
     ·exact ⟨by have:=(h2.2 q hq).1;omega,(h2.2 q hq).2⟩
   clear hcn
   go_wp2_with (at_builtin;refine wpList_push_node rfl (.tmp 26) (.tmp 28) rfl w.heap.size _ _ pre bl rfl HG.out (BW.out.alloc (by simp;omega) _) hbw hpl rfl xk xs xn xt xa kids A' K' ca ck ba bk HCN.out HZ.out (C4.out.next ((Below.refl _ _).alloc (Nat.le_refl _) _)).1 (KK.out.next ((Below.refl _ _).alloc (Nat.le_refl _) _)).1 HND2.out.1 (fun q hq=>⟨(HND2.out.2 q hq).1,by have:=(HND2.out.2 q hq).2;simp;omega⟩) ?_;intro v6 w6 bl6 hG6 hB6;have G6:=Lib.hid hG6;have B6:=Lib.hid (HB.out.trans (((BW.out.mono hbw).alloc (by simp;omega) _).trans hB6));clear hG6 hB6)
   go_roundw
   case rel=>exact ⟨k+1,pre.app (.one xk xs xn xt xa kids),r,by go_num,by simp[Fo.len]at hk;omega,Lib.hid ⟨by rw[Fo.len_app,HP.out.1];rfl,by rw[HP.out.2,Fo.app_assoc];rfl,⟨_,G6.out⟩,by rw[show o+(k+1)*6=o+k*6+6 by omega];exact HR.out,B6.out,HND.out.2⟩⟩
   case measure=>simp[intOf];omega
theorem l03Copy_any (F:Fo):MakesOK 26 id F:=l03Copy_lt (F.nodes+1) F (Nat.lt_succ_self _)
end Go.Proofs.YthdkkpbhijlpaaaGreatDoor
namespace Go.Proofs.YthdkkpbhijlpaaaGreatDoor
open Go.ChangeShapes Go.WideShapes Go.ChangeAt Go.RowKit Go.Deep
def AOwn (M:Nat) (w:World) (A:Option Addr) (c:Nat) (al:List (ByteArray × ByteArray)):Prop:=∃ba,al.length≤c∧al.length≤maxLen∧AlRow w A al ba∧ba.Nodup∧∀k ∈ ba,M≤k∧k<w.heap.size
theorem AOwn.next {M:Nat} {w w':World} {A:Option Addr} {c:Nat} {al:List (ByteArray × ByteArray)} (h:AOwn M w A c al) (hB:Below w.heap.size w w'):AOwn M w' A c al:=by
 obtain ⟨ba,h1,h2,h3,h4,h5⟩:=h
 exact ⟨ba,h1,h2,h3.same fun k hk=>hB.block k (h5 k hk).2,h4,fun k hk=>⟨(h5 k hk).1,Nat.lt_of_lt_of_le (h5 k hk).2 hB.size⟩⟩
theorem AOwn.low {M M':Nat} {w:World} {A:Option Addr} {c:Nat} {al:List (ByteArray × ByteArray)} (h:AOwn M w A c al) (hM:M'≤M):AOwn M' w A c al:=by
 obtain ⟨ba,h1,h2,h3,h4,h5⟩:=h
 exact ⟨ba,h1,h2,h3,h4,fun k hk=>⟨Nat.le_trans hM (h5 k hk).1,(h5 k hk).2⟩⟩
theorem AOwn.set {M g:Nat} {w:World} {A:Option Addr} {c:Nat} {al:List (ByteArray × ByteArray)} (h:AOwn M w A c al) (hg:g<M) (j:Nat) (u:Value):AOwn M (w.setCell ⟨g,j,none⟩ u) A c al:=by
 obtain ⟨ba,h1,h2,h3,h4,h5⟩:=h
 exact ⟨ba,h1,h2,h3.same fun k hk=>Below.heap_setCell _ _ _ _ (by have:=(h5 k hk).1;show k≠g;omega),h4,fun k hk=>by rw[World.size_setCell];exact h5 k hk⟩
theorem AOwn.at {M:Nat} {w:World} {A:Option Addr} {c:Nat} {al:List (ByteArray × ByteArray)} (h:AOwn M w A c al):∃b,RowC M w.heap.size A al.length c b 0∧AsAt w b 0 al:=by
 obtain ⟨ba,h1,h2,h3,h4,h5⟩:=h
 rcases h3 with ⟨e1,e2⟩ | ⟨a,e1,e2,e3⟩
 ·subst e1
  exact ⟨0,⟨h1,h2,fun h=>absurd h (Nat.lt_irrefl _)⟩,trivial⟩
 ·subst e2
  have:=h5 a (by simp)
  exact ⟨a,⟨h1,h2,fun _=>⟨e1,this.1,this.2⟩⟩,e3.at⟩
theorem AOwn.nil {M:Nat} {w:World} {A:Option Addr}:AOwn M w A 0 []:=⟨[],Nat.zero_le _,Nat.zero_le _,Or.inl ⟨rfl,rfl⟩,List.nodup_nil,by simp⟩
theorem AOwn.of {M:Nat} {w:World} {v:Value} {al:List (ByteArray × ByteArray)} (h:w.ownsRow M 81 2 v al.length (alVals al)) (hs:∀x ∈ al,x.1.size≤maxLen∧x.2.size≤maxLen) (hl:al.length≤maxLen):∃A c,v=.slice A al.length c∧AOwn M w A c al:=by
 obtain ⟨A,c,ba,h1,h2,h3,h4,h5,_⟩:=arow_form h hs
 exact ⟨A,c,h1,ba,h2,hl,h3,h4,h5⟩
theorem alVals_app (al bl:List (ByteArray × ByteArray)):alVals (al++bl)=alVals al++alVals bl:=by
 induction al with
 | nil=>rfl
 | cons x r ih=>simp[alVals,ih]
theorem own_lit0 (w:World) (te:TypeId):(w.alloc (.cells #[] te)).ownsRow w.heap.size te 2 (.slice (some ⟨w.heap.size,0,none⟩) 0 0) 0 []:=by
 have:=World.ownsRow_lit (base:=w.heap.size) (e:=te) (size:=2) w #[] 0 (by simp) (Nat.zero_le _) rfl
 simpa using this
theorem keep_behind {w w2 w3:World} {v2 v3:Value} {al:List (ByteArray × ByteArray)} {n v:ByteArray} {cs:Array Value} {te:TypeId} (ho:w2.ownsRow w.heap.size 81 2 v2 al.length (alVals al)) (hB:Below w.heap.size w w2)
 (hs:∀x ∈ al++[(n,v)],x.1.size≤maxLen∧x.2.size≤maxLen) (hl:al.length≤1048576) (h3:w3.ownsRow w.heap.size 81 2 v3 (al.length+1) (alVals al++[.string n,.string v])) (hg:(w2.alloc (.cells cs te)).grownBy w3 v2.ownBlock):
 Hid (Below w.heap.size w w3)∧∃A' c',v3=.slice A' (al.length+1) c'∧Hid (AOwn w.heap.size w3 A' c' (al++[(n,v)])):=by
 refine ⟨Lib.hid ((hB.alloc hB.size _).grown hg (by simp;have:=hB.size;omega) (fun q hq=>(World.ownsRow.lt ho q hq).1)),?_⟩
 have h:w3.ownsRow w.heap.size 81 2 v3 (al++[(n,v)]).length (alVals (al++[(n,v)])):=by rw[alVals_app,List.length_append];exact h3
 obtain ⟨A',c',h1,h2⟩:=AOwn.of h hs (by simp;unfold maxLen;omega)
 exact ⟨A',c',by simpa using h1,Lib.hid h2⟩
set_option maxHeartbeats 1000000 in
set_option maxRecDepth 100000 in
theorem l04Keep_any (al:List (ByteArray × ByteArray)) (n v:ByteArray) (w:World) (A:Option Addr) (c b o lo hi:Nat) (hA:RowAt lo hi A al.length b o) (hh:hi≤w.heap.size) (hal:AsAt w b o al) (hl:al.length≤1048576) (hn:n.size≤maxLen) (hv:v.size≤maxLen):
 Calls Tryz.prog 191 #[.slice A al.length c,.string n,.string v] w fun e w'=>Below w.heap.size w w' ∧
  if alB (al++[(n,v)])=true then ∃A' c',e=.returned (.slice A' (al.length+1) c')∧AOwn w.heap.size w' A' c' (al++[(n,v)]) else e=.returned (.slice A al.length c):=by
 obtain ⟨ia,hia,hza,hsa,hba⟩:=info_of infoAttr
 cases hab:alB (al++[(n,v)]) with
 | true=>
  go_enter Tryz.func191,Tryz.ntmps191
  have HB0:=Lib.hid ((Below.refl w.heap.size w).alloc (Nat.le_refl _) (.cells #[] 81))
  have HAL:=Lib.hid (al_below hA hal HB0.out hh)
  have HSZ:=Lib.hid (asAt_sizes hal)
  have HAA:=Lib.hid hA
  clear hal hA
  have HS2:=Lib.hid (show ∀x ∈ al++[(n,v)],x.1.size≤maxLen∧x.2.size≤maxLen from fun x hx=>by
   rcases List.mem_append.1 hx with hx | hx
   ·exact HSZ.out x hx
   ·obtain rfl:x=(n,v):=by simpa using hx
    exact ⟨hn,hv⟩)
  go_wp2_with (first
   | (at_builtin;refine wpList_append_al rfl (.tmp 8) (.tmp 9) 54 rfl w.heap.size 81 ia _ Tryz.underlying54 hia hza hsa hba rfl (.slice (some ⟨w.heap.size,0,none⟩) 0 0) rfl (own_lit0 w _) al A c b o lo hi rfl HAA.out HAL.out hl (by simp) ?_;intro v2 w2 hown2 hgrow2;have HO2:=Lib.hid hown2;have B2:=Lib.hid (HB0.out.grown hgrow2 (by simp) (fun q hq=>by simp[Value.ownBlock]at hq;omega));clear hown2 hgrow2)
   | (at_builtin;have h1:=HO2.out.alloc (.cells #[.string n,.string v] 81);have h2:=cells_new w2 [.string n,.string v] 81;have h3:∀u ∈ ([.string n,.string v]:List Value),u.oneCell'=true:=(by intro u hu;simp at hu;rcases hu with rfl | rfl <;> rfl);have h4:w.heap.size≤(w2.alloc (.cells #[.string n,.string v] 81)).heap.size:=(by simp;have:=B2.out.size;omega);refine wpList_append_own_at _ rfl (.tmp 10) (.tmp 14) 54 rfl w.heap.size 81 ia _ 2 32 Tryz.underlying54 hia hza hsa hba rfl (by omega) v2 al.length (alVals al) rfl h1 ⟨w2.heap.size,0,none⟩ 1 1 [.string n,.string v] rfl rfl h2 h3 (by unfold maxLen;omega) (by omega) h4 ?_;clear h1 h2 h3;intro v3 w3 hown3 hgrow3 _ _;obtain ⟨B3,A',c',rfl,HO3⟩:=keep_behind HO2.out B2.out HS2.out hl hown3 hgrow3;clear hown3 hgrow3 h4;obtain ⟨b3,r3,a3⟩:=HO3.out.at;have R3:=Lib.hid r3;have A3:=Lib.hid a3;clear r3 a3)
   | (go_at_call 213;have ha:=l03Attrs_any (al++[(n,v)]) w3 A' c' b3 0 _ _ R3.out.2 (Nat.le_refl _) A3.out;rw[List.length_append]at ha;refine ha.mono ?_;clear ha;rintro e w4 ⟨rfl,hB4⟩;rw[hab];have B4:=Lib.hid (B3.out.trans (hB4.mono B3.out.size));have HO4:=Lib.hid (HO3.out.next hB4);clear hB4))
  go_ret
  exact ⟨B4.out,by exact ⟨A',c',rfl,HO4.out⟩⟩
 | false=>
  go_enter Tryz.func191,Tryz.ntmps191
  have HB0:=Lib.hid ((Below.refl w.heap.size w).alloc (Nat.le_refl _) (.cells #[] 81))
  have HAL:=Lib.hid (al_below hA hal HB0.out hh)
  have HSZ:=Lib.hid (asAt_sizes hal)
  have HAA:=Lib.hid hA
  clear hal hA
  have HS2:=Lib.hid (show ∀x ∈ al++[(n,v)],x.1.size≤maxLen∧x.2.size≤maxLen from fun x hx=>by
   rcases List.mem_append.1 hx with hx | hx
   ·exact HSZ.out x hx
   ·obtain rfl:x=(n,v):=by simpa using hx
    exact ⟨hn,hv⟩)
  go_wp2_with (first
   | (at_builtin;refine wpList_append_al rfl (.tmp 8) (.tmp 9) 54 rfl w.heap.size 81 ia _ Tryz.underlying54 hia hza hsa hba rfl (.slice (some ⟨w.heap.size,0,none⟩) 0 0) rfl (own_lit0 w _) al A c b o lo hi rfl HAA.out HAL.out hl (by simp) ?_;intro v2 w2 hown2 hgrow2;have HO2:=Lib.hid hown2;have B2:=Lib.hid (HB0.out.grown hgrow2 (by simp) (fun q hq=>by simp[Value.ownBlock]at hq;omega));clear hown2 hgrow2)
   | (at_builtin;have h1:=HO2.out.alloc (.cells #[.string n,.string v] 81);have h2:=cells_new w2 [.string n,.string v] 81;have h3:∀u ∈ ([.string n,.string v]:List Value),u.oneCell'=true:=(by intro u hu;simp at hu;rcases hu with rfl | rfl <;> rfl);have h4:w.heap.size≤(w2.alloc (.cells #[.string n,.string v] 81)).heap.size:=(by simp;have:=B2.out.size;omega);refine wpList_append_own_at _ rfl (.tmp 10) (.tmp 14) 54 rfl w.heap.size 81 ia _ 2 32 Tryz.underlying54 hia hza hsa hba rfl (by omega) v2 al.length (alVals al) rfl h1 ⟨w2.heap.size,0,none⟩ 1 1 [.string n,.string v] rfl rfl h2 h3 (by unfold maxLen;omega) (by omega) h4 ?_;clear h1 h2 h3;intro v3 w3 hown3 hgrow3 _ _;obtain ⟨B3,A',c',rfl,HO3⟩:=keep_behind HO2.out B2.out HS2.out hl hown3 hgrow3;clear hown3 hgrow3 h4;obtain ⟨b3,r3,a3⟩:=HO3.out.at;have R3:=Lib.hid r3;have A3:=Lib.hid a3;clear r3 a3)
   | (go_at_call 213;have ha:=l03Attrs_any (al++[(n,v)]) w3 A' c' b3 0 _ _ R3.out.2 (Nat.le_refl _) A3.out;rw[List.length_append]at ha;refine ha.mono ?_;clear ha;rintro e w4 ⟨rfl,hB4⟩;rw[hab];have B4:=Lib.hid (B3.out.trans (hB4.mono B3.out.size));have HO4:=Lib.hid (HO3.out.next hB4);clear hB4))
  go_ret
  exact ⟨B4.out,rfl⟩
end Go.Proofs.YthdkkpbhijlpaaaGreatDoor
namespace Go.Proofs.YthdkkpbhijlpaaaGreatDoor
open Go.ChangeShapes Go.WideShapes Go.ChangeAt Go.RowKit Go.Deep
theorem unF_len:∀(k:Nat) (l:List UInt8),(unF k l).length≤k:=by
 intro k
 induction k with
 | zero=>intro l;cases l <;> simp[unF]
 | succ k ih=>
  intro l
  cases l with
  | nil=>simp[unF]
  | cons c r=>
   rw[unF]
   split
   ·split
    ·simp only[List.length_cons];exact Nat.succ_le_succ (ih _)
    ·simp only[List.length_cons];exact Nat.succ_le_succ (ih _)
   ·simp only[List.length_cons];exact Nat.succ_le_succ (ih _)
theorem unX_size (s:ByteArray) (a b:Nat):(unX s a b).size≤s.size:=by
 have h:=unF_len (s.extract a b).data.toList.length (s.extract a b).data.toList
 have h2:(s.extract a b).data.toList.length=(s.extract a b).size:=Array.length_toList
 rw[h2,ByteArray.size_extract]at h
 show (un (s.extract a b).data.toList).toArray.size≤_
 rw[List.size_toArray,un,h2,ByteArray.size_extract]
 omega
theorem lowX_size (s:ByteArray) (a b:Nat):(lowX s a b).size≤s.size:=by
 have h2:(s.extract a b).data.toList.length=(s.extract a b).size:=Array.length_toList
 show ((s.extract a b).data.toList.map lowU).toArray.size≤_
 rw[List.size_toArray,List.length_map,h2,ByteArray.size_extract]
 omega
theorem attr_le {s:ByteArray} {i:Nat} (h:i<s.size):i<(attrOf s i).2.2∧(attrOf s i).2.2≤s.size∧(attrOf s i).1.size≤s.size∧(attrOf s i).2.1.size≤s.size:=by
 have h1:=aEnd_le h
 have h2:=aEq_le h
 have h3:aEq s i<s.size→aEq s i<aVal s i∧aVal s i≤s.size:=fun h=>by have:=runAt_le blankB s (aEq s i+1) (by omega);unfold aVal;omega
 have h4:aVal s i≤s.size→aVal s i≤aStop s i∧aStop s i≤s.size:=fun h=>by have:=runAt_le inVal s (aVal s i) h;unfold aStop;omega
 have hz:(⟨#[]⟩:ByteArray).size≤s.size:=Nat.zero_le _
 unfold attrOf
 split
 ·rename_i he
  have hlt:aEq s i<s.size:=by
   by_cases hq:aEq s i<s.size
   ·exact hq
   ·rw[byteAt,dif_neg hq]at he;cases he
  obtain ⟨h5,h6⟩:=h3 hlt
  obtain ⟨h7,h8⟩:=h4 h6
  split
  ·rename_i hq
   have hlt2:aVal s i<s.size:=by
    by_cases hq2:aVal s i<s.size
    ·exact hq2
    ·rw[byteAt,dif_neg hq2]at hq;rcases hq with hq | hq <;> cases hq
   have hf:=find_le s (s.extract (aVal s i) (aVal s i+1)) (aVal s i+1) (by omega)
   rw[ByteArray.size_extract]at hf
   split
   ·rename_i hk
    have:=hf.2.2 hk
    exact ⟨by show i<_+1;omega,by show _+1≤_;omega,lowX_size _ _ _,unX_size _ _ _⟩
   ·exact ⟨h,Nat.le_refl _,lowX_size _ _ _,hz⟩
  ·exact ⟨by show i<aStop s i;omega,h8,lowX_size _ _ _,unX_size _ _ _⟩
 ·exact ⟨h1.1,h1.2,lowX_size _ _ _,hz⟩
noncomputable def keepA (al:List (ByteArray × ByteArray)) (n v:ByteArray):List (ByteArray × ByteArray):=if alB (al++[(n,v)])=true then al++[(n,v)] else al
noncomputable def scan (s:ByteArray):Nat→Nat→List (ByteArray × ByteArray)→Bool→Nat × List (ByteArray × ByteArray) × Bool
 | 0,i,al,f=>(i,al,f)
 | k+1,i,al,f=>if byteAt s i = -1∨byteAt s i=62 then (i,al,f)
  else if blankB (byteAt s i)=true∨byteAt s i=47 then scan s k (i+1) al (byteAt s i==47)
  else scan s k (attrOf s i).2.2 (keepA al (attrOf s i).1 (attrOf s i).2.1) false
theorem scan_out {s:ByteArray} {k i:Nat} {al:List (ByteArray × ByteArray)} {f:Bool} (h:s.size≤i):scan s k i al f=(i,al,f):=by
 cases k with
 | zero=>rfl
 | succ k=>rw[scan,if_pos (Or.inl (show byteAt s i = -1 from dif_neg (Nat.not_lt.2 h)))]
theorem scan_end {s:ByteArray} {k i:Nat} {al:List (ByteArray × ByteArray)} {f:Bool} (h:i<s.size) (hc:((s[i].toNat:Int) != 62)=false):scan s k i al f=(i,al,f):=by
 cases k with
 | zero=>rfl
 | succ k=>rw[scan,if_pos (Or.inr (by rw[byteAt_in h];simpa using hc))]
theorem scan_skip {s:ByteArray} {k i:Nat} {al:List (ByteArray × ByteArray)} {f:Bool} (h:i<s.size) (hc:((s[i].toNat:Int) != 62)=true) (hb:blankB (s[i].toNat:Int)=true∨(s[i].toNat:Int)=47):scan s (k+1) i al f=scan s k (i+1) al ((s[i].toNat:Int)==47):=by
 rw[scan,byteAt_in h,if_neg (by simp at hc;omega),if_pos hb]
theorem scan_attr {s:ByteArray} {k i:Nat} {al:List (ByteArray × ByteArray)} {f:Bool} (h:i<s.size) (hc:((s[i].toNat:Int) != 62)=true) (hb:blankB (s[i].toNat:Int)=false) (h47:((s[i].toNat:Int)==47)=false):scan s (k+1) i al f=scan s k (attrOf s i).2.2 (keepA al (attrOf s i).1 (attrOf s i).2.1) false:=by
 rw[scan,byteAt_in h,if_neg (by simp at hc;omega),if_neg (by rw[hb];simpa using h47)]
theorem keepA_six {al:List (ByteArray × ByteArray)} {n v:ByteArray} (h:al.length≤6):(keepA al n v).length≤6:=by
 unfold keepA
 split
 ·rename_i hb
  have:AlOK (al++[(n,v)]):=by simpa[alB]using hb
  exact this.1
 ·exact h
theorem l04Keep_own (al:List (ByteArray × ByteArray)) (n v:ByteArray) (w:World) (M:Nat) (A:Option Addr) (c:Nat) (hO:AOwn M w A c al) (hM:M≤w.heap.size) (hl:al.length≤6) (hn:n.size≤65536) (hv:v.size≤65536):
 Calls Tryz.prog 191 #[.slice A al.length c,.string n,.string v] w fun e w'=>∃A' c',e=.returned (.slice A' (keepA al n v).length c')∧Below w.heap.size w w'∧AOwn M w' A' c' (keepA al n v):=by
 obtain ⟨b,hr,ha⟩:=hO.at
 refine (l04Keep_any al n v w A c b 0 M w.heap.size hr.2 (Nat.le_refl _) ha (by omega) (by unfold maxLen;omega) (by unfold maxLen;omega)).mono ?_
 rintro e w' ⟨hB,h⟩
 unfold keepA
 cases hab:alB (al++[(n,v)]) with
 | true=>
  rw[hab,if_pos rfl]at h
  obtain ⟨A',c',he,hO'⟩:=h
  exact ⟨A',c',by rw[he,if_pos rfl,List.length_append];rfl,hB,by rw[if_pos rfl];exact hO'.low hM⟩
 | false=>
  rw[hab,if_neg (by decide)]at h
  exact ⟨A,c,by rw[h,if_neg (by decide)],hB,by rw[if_neg (by decide)];exact hO.next hB⟩
structure Tk where
 k:Int
 a:Nat
 l:Nat
 n:ByteArray
 t:ByteArray
 al:List (ByteArray × ByteArray)
 s:Bool
def Tk.val (T:Tk) (A:Option Addr) (c:Nat):Value:=.agg #[.int .i64 T.k,.int .i64 (T.a:Int),.int .i64 (T.l:Int),.string T.n,.string T.t,.slice A T.al.length c,.bool T.s]
def TkOut (M:Nat) (T:Tk) (e:Ending) (w':World):Prop:=∃A c,e=.returned (T.val A c)∧AOwn M w' A c T.al
def noTk (k:Int) (a l:Nat) (n t:ByteArray):Tk:=⟨k,a,l,n,t,[],false⟩
noncomputable def openOf (s:ByteArray) (a:Nat):Tk:=
 let R:=scan s s.size (a+1+runAt inName s (a+1)) [] false
 if s.size≤R.1 then noTk 5 a (s.size-a) ⟨#[]⟩ ⟨#[]⟩
 else if namedB small tagB (nameOf s (a+1))=true then ⟨2,a,R.1+1-a,nameOf s (a+1),⟨#[]⟩,R.2.1,R.2.2⟩
 else noTk 5 a (R.1+1-a) ⟨#[]⟩ ⟨#[]⟩
set_option maxHeartbeats 2000000 in
set_option maxRecDepth 100000 in
theorem l04Open_any (s:ByteArray) (a:Nat) (hs:s.size≤65536) (hi:a<s.size) (w:World):
 Calls Tryz.prog 124 #[.string s,.int .i64 (a:Int)] w fun e w'=>TkOut w.heap.size (openOf s a) e w'∧Below w.heap.size w w':=by
 have HN:=Lib.hid (l04Name_any s (a+1) hs hi)
 have hn:=runAt_le inName s (a+1) hi
 have LZ:=Lib.hid (tok_zero w)
 have HOP:=Lib.hid (show openOf s a=(if s.size≤(scan s s.size (a+1+runAt inName s (a+1)) [] false).1 then noTk 5 a (s.size-a) ⟨#[]⟩ ⟨#[]⟩
  else if namedB small tagB (nameOf s (a+1))=true then ⟨2,a,(scan s s.size (a+1+runAt inName s (a+1)) [] false).1+1-a,nameOf s (a+1),⟨#[]⟩,(scan s s.size (a+1+runAt inName s (a+1)) [] false).2.1,(scan s s.size (a+1+runAt inName s (a+1)) [] false).2.2⟩
  else noTk 5 a ((scan s s.size (a+1+runAt inName s (a+1)) [] false).1+1-a) ⟨#[]⟩ ⟨#[]⟩) from rfl)
 have HT:=Lib.hid (fun w=>l01Tag_any (nameOf s (a+1)) w (by have:=lowX_size s (a+1) (a+1+runAt inName s (a+1));have e:(nameOf s (a+1)).size=(lowX s (a+1) (a+1+runAt inName s (a+1))).size:=rfl;rw[e];unfold maxLen;omega))
 generalize openOf s a=OP at HOP ⊢
 generalize hR:scan s s.size (a+1+runAt inName s (a+1)) [] false=R at HOP
 have HR:=Lib.hid hR
 clear hR
 generalize nameOf s (a+1)=nm at HN HT HOP
 generalize hi0:a+1+runAt inName s (a+1)=i0 at hn HN HR
 have HI0:=Lib.hid hi0
 clear hi0
 go_enter Tryz.func124,Tryz.ntmps124
 go_upto_block 0 with (go_at_call 189;refine (HN.out _).mono ?_;rintro e w1 ⟨rfl,hB1⟩;have L1:=Lib.hid (LZ.out.below hB1 (by simp));have B1:=Lib.hid (((Below.refl w.heap.size w).alloc (Nat.le_refl _) _).trans (hB1.mono (by simp)));have hs1:w.heap.size<w1.heap.size:=(by have:=hB1.size;simp at this;omega);clear hB1 LZ)
 go_cut [6] (fun s6 wx=>∃(j:Nat) (al:List (ByteArray × ByteArray)) (f:Bool) (A:Option Addr) (c:Nat),s6=.int .i64 (j:Int)∧a+1≤j∧j≤s.size∧Hid (R=(j,al,f)∧al.length≤6∧Lay wx (w1.heap.size+1) #[.int .i64 2,.int .i64 (a:Int),.int .i64 0,.string nm,.string ⟨#[]⟩,.slice A al.length c,.bool f]∧AOwn (w1.heap.size+2) wx A c al∧Below (w.heap.size+1) w1 wx))
 case first=>
  go_wp2_with fail
  go_loopw [6] (fun x wr=>∃(k j:Nat) (al:List (ByteArray × ByteArray)) (f:Bool) (A:Option Addr) (c:Nat),x=.int .i64 (j:Int)∧a+1≤j∧j≤s.size∧Hid (scan s k j al f=R∧s.size-j≤k∧al.length≤6∧Lay wr (w1.heap.size+1) #[.int .i64 2,.int .i64 (a:Int),.int .i64 0,.string nm,.string ⟨#[]⟩,.slice A al.length c,.bool f]∧AOwn (w1.heap.size+2) wr A c al∧Below (w.heap.size+1) w1 wr)) (fun x wr=>s.size-(intOf x).toNat)
  case atStart=>
   exact ⟨s.size,i0,[],false,_,0,by rw[←HI0.out],by have:=HI0.out;omega,hn,Lib.hid ⟨HR.out,by omega,by simp,by simpa using Lay.new (w1.alloc _) _ _,AOwn.nil,((Below.refl _ _).alloc hs1 _).alloc (by simp;omega) _⟩⟩
  case round=>
   obtain ⟨k,j,al,f,A,c,rfl,hij,hj,HH⟩:=hrel
   by_cases hlt:j<s.size
   ·have HB:=Lib.hid (l04Blank_any (s[j].toNat:Int))
    obtain ⟨hsc,hk,h6,hL,hO,hBw⟩:=HH.out
    obtain ⟨k,rfl⟩:∃k',k=k'+1:=⟨k-1,by omega⟩
    have t5:=hL.1 5
    have t6:=hL.1 6
    have f5:=hL.2 5
    have f6:=hL.2 6
    have HL:=Lib.hid hL
    have HO:=Lib.hid hO
    have HBW:=Lib.hid hBw
    have HSC:=Lib.hid hsc
    have HK:=Lib.hid (show s.size-(j+1)≤k by omega)
    have H6:=Lib.hid h6
    clear HH hL hO hBw hsc hk h6
    cases h62:((s[j].toNat:Int) != 62) with
    | true=>
     cases hb:blankB (s[j].toNat:Int) with
     | true=>
      rw[hb]at HB
      have HN2:=Lib.hid (HSC.out.symm.trans (scan_skip hlt h62 (Or.inl hb)))
      go_wp2_with (go_at_call 187;refine (HB.out _).mono ?_;rintro e w' ⟨rfl,rfl⟩)
      go_roundw
      case rel=>exact ⟨k,j+1,al,_,A,c,by go_num,by omega,by omega,Lib.hid ⟨HN2.out.symm,HK.out,H6.out,by simpa using HL.out.set 6 (.bool ((s[j].toNat:Int)==47)),HO.out.set (Nat.lt_succ_self _) _ _,HBW.out.setCell (p:=⟨w1.heap.size+1,6,none⟩) (by show _≤w1.heap.size+1;omega) _⟩⟩
      case measure=>simp[intOf];omega
     | false=>
      rw[hb]at HB
      cases h47:((s[j].toNat:Int)==47) with
      | true=>
       have HN2:=Lib.hid (HSC.out.symm.trans (scan_skip hlt h62 (Or.inr (by simpa using h47))))
       rw[h47]at HN2
       go_wp2_with (go_at_call 187;refine (HB.out _).mono ?_;rintro e w' ⟨rfl,rfl⟩)
       go_roundw
       case rel=>exact ⟨k,j+1,al,true,A,c,by go_num,by omega,by omega,Lib.hid ⟨HN2.out.symm,HK.out,H6.out,by simpa using HL.out.set 6 (.bool true),HO.out.set (Nat.lt_succ_self _) _ _,HBW.out.setCell (p:=⟨w1.heap.size+1,6,none⟩) (by show _≤w1.heap.size+1;omega) _⟩⟩
       case measure=>simp[intOf];omega
      | false=>
       have HN2:=Lib.hid (HSC.out.symm.trans (scan_attr hlt h62 hb h47))
       have HAT:=Lib.hid (l04Attr_any s j hs hlt (inName_go hb (by simp at h47;simpa using h47) h62))
       obtain ⟨hj1,hj2,hz1,hz2⟩:=attr_le hlt
       generalize attrOf s j=AT at HN2 HAT hj1 hj2 hz1 hz2
       obtain ⟨an,av,aj⟩:=AT
       simp only at HN2 HAT hj1 hj2 hz1 hz2
       have L6:=Lib.hid (show Lay _ _ _ from HL.out.set 6 (.bool false))
       have O6:=Lib.hid (HO.out.set (Nat.lt_succ_self (w1.heap.size+1)) 6 (.bool false))
       have B6:=Lib.hid (HBW.out.setCell (p:=⟨w1.heap.size+1,6,none⟩) (by show _≤w1.heap.size+1;omega) (.bool false))
       have hs6:w1.heap.size+2≤(wr.setCell ⟨w1.heap.size+1,6,none⟩ (.bool false)).heap.size:=by rw[World.size_setCell];exact World.block_lt_of_cell? wr ⟨w1.heap.size+1,6,none⟩ t6
       go_wp2_with (first
        | (go_at_call 187;refine (HB.out _).mono ?_;rintro e w' ⟨rfl,rfl⟩)
        | (go_at_call 190;refine (HAT.out _).mono ?_;rintro e w2 ⟨rfl,hB2⟩;have L2:=Lib.hid (L6.out.below hB2 hs6);have O2:=Lib.hid (O6.out.next hB2);have B2:=Lib.hid (B6.out.trans (hB2.mono (by omega)));have hs2:=Lib.hid (Nat.le_trans hs6 hB2.size);clear hB2;have u5:=L2.out.1 5;have g5:=L2.out.2 5)
        | (go_at_call 191;refine (l04Keep_own al an av w2 (w1.heap.size+2) A c O2.out hs2.out H6.out (by omega) (by omega)).mono ?_;rintro e w3 ⟨A',c',rfl,hB3,hO3⟩;have L3:=Lib.hid (L2.out.below hB3 hs2.out);have O3:=Lib.hid hO3;have B3:=Lib.hid (B2.out.trans (hB3.mono (by have:=hs2.out;omega)));clear hB3 hO3;have v5:=L3.out.1 5;have k5:=L3.out.2 5;clear u5 g5))
       go_roundw
       case rel=>exact ⟨k,aj,keepA al an av,false,A',c',rfl,by omega,hj2,Lib.hid ⟨HN2.out.symm,by have:=HK.out;omega,keepA_six H6.out,by simpa using L3.out.set 5 (.slice A' (keepA al an av).length c'),O3.out.set (Nat.lt_succ_self _) _ _,B3.out.setCell (p:=⟨w1.heap.size+1,5,none⟩) (by show _≤w1.heap.size+1;omega) _⟩⟩
       case measure=>simp[intOf];omega
    | false=>
     have HX:=Lib.hid (HSC.out.symm.trans (scan_end hlt h62))
     go_wp2
     go_meet
     case rel=>exact ⟨j,al,f,A,c,rfl,hij,hj,Lib.hid ⟨HX.out,H6.out,HL.out,HO.out,HBW.out⟩⟩
   ·obtain rfl:j=s.size:=by omega
    obtain ⟨hsc,hk,h6,hL,hO,hBw⟩:=HH.out
    have HX:=Lib.hid (hsc.symm.trans (scan_out (Nat.le_refl _)))
    have HP:=Lib.hid (And.intro h6 (And.intro hL (And.intro hO hBw)))
    clear HH hL hO hBw hsc hk h6
    go_wp2
    go_meet
    case rel=>exact ⟨s.size,al,f,A,c,rfl,hij,hj,Lib.hid ⟨HX.out,HP.out⟩⟩
 case rest=>
  obtain ⟨j,al,f,A,c,rfl,hij,hj,HH⟩:=hcut
  obtain ⟨hRj,h6,hL,hO,hBw⟩:=HH.out
  have HOP2:=Lib.hid HOP.out
  rw[hRj]at HOP2
  have HLR:=Lib.hid (L1.out.below hBw (Nat.lt_succ_self _))
  have HBW:=Lib.hid (B1.out.trans (hBw.mono (Nat.le_succ _)))
  have HL:=Lib.hid hL
  have HO:=Lib.hid hO
  clear HH hRj hL hO hBw HOP HR
  have n0:=HLR.out.1
  have n1:=HLR.out.2
  by_cases hlt:j<s.size
  ·cases ht:namedB small tagB nm with
   | true=>
    have HOP3:Hid (OP=⟨2,a,j+1-a,nm,⟨#[]⟩,al,f⟩):=Lib.hid (by rw[HOP2.out,if_neg (by simpa using hlt),if_pos ht])
    have t2:=HL.out.1 2
    have f2:=HL.out.2 2
    have HL2:=Lib.hid (HL.out.set 2 (.int .i64 ((j:Int)+1-(a:Int))))
    rw[ht]at HT
    clear n0 n1 HOP2
    have L8:=Lib.hid (HLR.out.setOther (g':=w1.heap.size+1) (by omega) 2 (.int .i64 ((j:Int)+1-(a:Int))))
    obtain ⟨p0,p1,p2,p3,p4,p5,p6⟩:=lay7 (show Lay _ (w1.heap.size+1) #[.int .i64 2,.int .i64 (a:Int),.int .i64 ((j:Int)+1-(a:Int)),.string nm,.string ⟨#[]⟩,.slice A al.length c,.bool f] by simpa using HL2.out)
    have n0:=L8.out.1
    have n1:=L8.out.2
    go_wp2_with (go_at_call 120;refine (HT.out _).mono ?_;rintro e w3 ⟨rfl,rfl⟩)
    (try simp only[Exit.inBlock,Exit.then])
    have M2:Lay _ w.heap.size _:=⟨n0,n1⟩
    have HB8:=HBW.out.setCell (p:=⟨w1.heap.size+1,2,none⟩) (by show _≤w1.heap.size+1;omega) (.int .i64 ((j:Int)+1-(a:Int)))
    refine ret_tok rfl M2.put7 rfl rfl ⟨⟨A,c,?_,?_⟩,below_put7 _ _ _ _ _ _ _ HB8 (Nat.le_refl _)⟩
    ·rw[HOP3.out]
     exact congrArg (fun x=>Ending.returned (.agg #[.int .i64 2,.int .i64 a,.int .i64 x,.string nm,.string ⟨#[]⟩,.slice A al.length c,.bool f])) (show (j:Int)+1-(a:Int)=((j+1-a:Nat):Int) by omega)
    ·rw[HOP3.out]
     exact (((((((((HO.out.set (Nat.lt_succ_self _) _ _).set (by omega) _ _).set (by omega) _ _).set (by omega) _ _).set (by omega) _ _).set (by omega) _ _).set (by omega) _ _).set (by omega) _ _)).low (by omega)
   | false=>
    have HOP3:Hid (OP=noTk 5 a (j+1-a) ⟨#[]⟩ ⟨#[]⟩):=Lib.hid (by rw[HOP2.out,if_neg (by simpa using hlt),if_neg (by rw[ht];decide)])
    have t2:=HL.out.1 2
    have f2:=HL.out.2 2
    rw[ht]at HT
    clear n0 n1 HOP2
    have L8:=Lib.hid (HLR.out.setOther (g':=w1.heap.size+1) (by omega) 2 (.int .i64 ((j:Int)+1-(a:Int))))
    have HL2:=Lib.hid (HL.out.set 2 (.int .i64 ((j:Int)+1-(a:Int))))
    have p2:=HL2.out.1 2
    have n0:=L8.out.1
    have n1:=L8.out.2
    go_wp2_with (go_at_call 120;refine (HT.out _).mono ?_;rintro e w3 ⟨rfl,rfl⟩)
    (try simp only[Exit.inBlock,Exit.then])
    have M2:Lay _ w.heap.size _:=⟨n0,n1⟩
    have HB8:=HBW.out.setCell (p:=⟨w1.heap.size+1,2,none⟩) (by show _≤w1.heap.size+1;omega) (.int .i64 ((j:Int)+1-(a:Int)))
    refine ret_tok rfl M2.put7 rfl rfl ⟨⟨none,0,?_,?_⟩,below_put7 _ _ _ _ _ _ _ HB8 (Nat.le_refl _)⟩
    ·rw[HOP3.out]
     exact congrArg (fun x=>Ending.returned (.agg #[.int .i64 5,.int .i64 a,.int .i64 x,.string ⟨#[]⟩,.string ⟨#[]⟩,.slice none 0 0,.bool false])) (show (j:Int)+1-(a:Int)=((j+1-a:Nat):Int) by omega)
    ·rw[HOP3.out];exact AOwn.nil
  ·have HOP3:Hid (OP=noTk 5 a (s.size-a) ⟨#[]⟩ ⟨#[]⟩):=Lib.hid (by rw[HOP2.out,if_pos (show s.size≤j by omega)])
   clear HOP2
   go_wp2_with fail
   (try simp only[Exit.inBlock,Exit.then])
   have M2:Lay _ w.heap.size _:=⟨n0,n1⟩
   refine ret_tok rfl M2.put7 rfl rfl ⟨⟨none,0,?_,?_⟩,below_put7 _ _ _ _ _ _ _ HBW.out (Nat.le_refl _)⟩
   ·rw[HOP3.out,show ((noTk 5 a (s.size-a) ⟨#[]⟩ ⟨#[]⟩).val none 0)=tokA 5 a ((s.size-a:Nat):Int) ⟨#[]⟩ ⟨#[]⟩ from rfl,tokA]
    exact congrArg (fun x=>Ending.returned (.agg #[.int .i64 5,.int .i64 a,.int .i64 x,.string ⟨#[]⟩,.string ⟨#[]⟩,.slice none 0 0,.bool false])) (by omega)
   ·rw[HOP3.out];exact AOwn.nil
end Go.Proofs.YthdkkpbhijlpaaaGreatDoor
