import Derived.WalkSmall
import Derived.Test.YthdkkpbhijlpaaaGreatDoorQ29
set_option linter.unusedVariables false
namespace Go.Proofs.YthdkkpbhijlpaaaGreatDoor
open Go.ChangeShapes Go.WideShapes Go.ChangeAt Go.RowKit Go.Deep
set_option maxHeartbeats 4000000 in
set_option maxRecDepth 100000 in
theorem words_old (B bb:Nat) (z:Zi) (sv nv:Value) (nvs:List Value) (bl:List Nat) (t t':ByteArray) (w:World) (ht:t.size≤65536) (h:BS w B bb z sv nv nvs bl) (hl:z.F.last=some (2,t')):
 Calls Tryz.prog 74 #[.pointer (some ⟨bb,0,none⟩),.int .i64 2,.string t] w (OutS B bb (FpS bb sv nv bl) [] (z.words t) w):=by
 have p1:w.cell? ⟨bb,1,none⟩=some nv:=h.lay.1 1
 have p3:w.cell? ⟨bb,3,none⟩=some (.int .i64 0):=h.lay.1 3
 have hm10:=h.fit.2.2.1
 rcases Fo.snoc_or z.F with hF | ⟨P,k,sp,n,t2,al,kids,hF⟩
 ·rw[hF]at hl;cases hl
 have hl2:z.F.last=some (k,t2):=by rw[hF,Fo.last_snoc]
 rw[hl]at hl2
 injection hl2 with hl2
 obtain ⟨rfl,rfl⟩:=Prod.mk.inj hl2
 have hP:P.len+1≤60:=by have:=h.fit.1;have h2:=h.fit.2.1;unfold cntZ at this;rw[hF,Fo.len_app]at this;simp only[Fo.one,Fo.len]at this;omega
 obtain ⟨gn,cap,g,cv,e1,e2,e3,e4,e5,e6,e7,_⟩:=h.text hF
 rw[e1]at p1
 have hl0:(((P.len:Nat):Int)+1==0)=false:=by simp;omega
 have HP:Hid (∀W,W=w→Calls Tryz.prog 128 #[.pointer (some ⟨bb,0,none⟩),.agg #[.int .i64 2,.int .i64 0,.string ⟨#[]⟩,.string t,.slice none 0 0,.slice none 0 0]] W fun e w'=>e=.returned (.tuple #[])∧Hid (OutS B bb (FpS bb sv nv bl) [] (z.words t) w (.returned (.tuple #[])) w')):=Lib.hid fun W e=>by
  subst e
  exact (put_text B bb z sv nv nvs bl t t' W ht h hl).mono fun e w' hO=>hO.ret
 clear h hl hF e1 hl2
 go_enter Tryz.func74,Tryz.ntmps74
 go_wp2_with (go_at_call 128;refine (HP.out _ rfl).mono ?_;rintro e w2 ⟨rfl,HO⟩)
 go_end0
 exact HO.out
theorem words_any (B bb:Nat) (z:Zi) (sv nv:Value) (nvs:List Value) (bl:List Nat) (t:ByteArray) (w:World) (ht:t.size≤65536) (h:BS w B bb z sv nv nvs bl):
 Calls Tryz.prog 74 #[.pointer (some ⟨bb,0,none⟩),.int .i64 2,.string t] w (OutS B bb (FpS bb sv nv bl) [] (z.words t) w):=by
 have hm:t.size≤maxLen:=by unfold maxLen;omega
 cases hl:z.F.last with
 | none=>rw[words_nil hl];exact words_new B bb z sv nv nvs bl 2 t w hm h (Or.inr ⟨rfl,fun x hx=>by rw[hl]at hx;cases hx⟩)
 | some x=>
  obtain ⟨k,t'⟩:=x
  by_cases hk:k=2
  ·subst hk
   exact words_old B bb z sv nv nvs bl t t' w ht h hl
  ·rw[words_other hl hk]
   exact words_new B bb z sv nv nvs bl 2 t w hm h (Or.inr ⟨rfl,fun x hx=>by rw[hl]at hx;injection hx with hx;rw[←hx];exact hk⟩)
end Go.Proofs.YthdkkpbhijlpaaaGreatDoor
namespace Go.Proofs.YthdkkpbhijlpaaaGreatDoor
open Go.ChangeShapes Go.WideShapes Go.ChangeAt Go.RowKit Go.Deep
structure BN (w:World) (B bb:Nat) (z:Zi) (sv nv:Value) (nvs:List Value) (bl:List Nat):Prop where
 nod:NodS w B z.up z.F nvs bl
 nd:bl.Nodup
 nrow:w.ownsRow B 56 6 nv (z.up.length+1) nvs
 srow:w.ownsRow B 168 2 sv z.up.length (osVals (opensOf z.up))
 dn:∀k ∈ ownL nv,k ∉ bl∧k≠bb∧k ∉ ownL sv
 ds:∀k ∈ ownL sv,k ∉ bl∧k≠bb
 db:bb ∉ bl
 lay:Lay w bb #[sv,nv,.int .i64 (z.c:Int),.int .i64 0]
 le:B≤bb
theorem BN.bs {w:World} {B bb:Nat} {z:Zi} {sv nv:Value} {nvs:List Value} {bl:List Nat} (h:BN w B bb z sv nv nvs bl) (hf:z.fit):BS w B bb z sv nv nvs bl:=⟨h.nod,h.nd,h.nrow,h.srow,h.dn,h.ds,h.db,h.lay,h.le,hf⟩
theorem BN.lt {w:World} {B bb:Nat} {z:Zi} {sv nv:Value} {nvs:List Value} {bl:List Nat} (h:BN w B bb z sv nv nvs bl):∀k,FpS bb sv nv bl k→B≤k∧k<w.heap.size:=by
 intro k hk
 rcases hk with rfl | hk | hk | hk
 ·exact ⟨h.le,World.block_lt_of_cell? w ⟨k,0,none⟩ (h.lay.1 0)⟩
 ·exact World.ownsRow.lt h.srow k (mem_ownL.1 hk)
 ·exact World.ownsRow.lt h.nrow k (mem_ownL.1 hk)
 ·exact h.nod.lt k hk
theorem BN.kids {w:World} {B bb:Nat} {z:Zi} {sv nv:Value} {nvs:List Value} {bl:List Nat} (h:BN w B bb z sv nv nvs bl):
 ∃gn cap v bF rest,nv=.slice (some ⟨gn,0,none⟩) (z.up.length+1) cap∧CellW w gn (z.up.length*6+5) v∧GRow w B v z.F bF∧bl=ownL v++bF++rest∧gn ∉ bl∧gn≠bb∧gn<w.heap.size ∧
  ∀(W:World) (v':Value) (F':Fo) (bF':List Nat) (y:Zi),y=⟨F',z.up,z.c⟩→w.heap.size≤W.heap.size→(∀k,k ∈ rest∨k=bb∨k ∈ ownL sv→W.heap[k]?=w.heap[k]?)→W.heap[gn]?=(w.setCell ⟨gn,z.up.length*6+5,none⟩ v').heap[gn]?→GRow W B v' F' bF'→(ownL v'++bF'++rest).Nodup→(∀k ∈ ownL v'++bF',k≠gn∧k≠bb∧k ∉ ownL sv) →
   ∃nvs',BN W B bb y sv nv nvs' (ownL v'++bF'++rest):=by
 obtain ⟨pre,a0,a1,a2,a3,a4,v,bF,rest,e1,e2,e3,e4,e5⟩:=h.nod.inner
 obtain ⟨gn,cap,hnv⟩:∃gn cap,nv=.slice (some ⟨gn,0,none⟩) (z.up.length+1) cap:=by
  rcases h.nrow.2 with ⟨_,h0⟩ | ⟨g,cap,cur,e,_⟩
  ·omega
  ·exact ⟨g,cap,e⟩
 have hgm:gn ∈ ownL nv:=mem_ownL.2 (by rw[hnv];rfl)
 have hgl:=World.ownsRow.lt h.nrow gn (mem_ownL.1 hgm)
 have hr:=h.nrow
 rw[hnv]at hr
 refine ⟨gn,cap,v,bF,rest,hnv,⟨?_,hr.frozenAt _⟩,e3,e4,(h.dn gn hgm).1,(h.dn gn hgm).2.1,hgl.2,fun W v' F' bF' y hy hs hk hg hG hnd hd=>?_⟩
 ·rw[hr.cellAt _ (by omega),e1,List.getElem?_append_right (by omega),e2,Nat.add_sub_cancel_left];rfl
 ·subst hy
  refine ⟨pre++[a0,a1,a2,a3,a4,v'],⟨e5 W v' F' bF' hs (fun k hk'=>hk k (Or.inl hk')) hG,hnd,?_,ownsRow_same h.srow fun k hk'=>hk k (Or.inr (Or.inr (mem_ownL.2 hk'))),fun k hk'=>?_,fun k hk'=>?_,fun hm=>?_,lay_same h.lay (hk bb (Or.inr (Or.inl rfl))),h.le⟩⟩
  ·rw[hnv]
   have hst:=(hr.stored (z.up.length*6+5) v').1
   have hset:nvs.set (z.up.length*6+5) v'=pre++[a0,a1,a2,a3,a4,v']:=by
    rw[e1,List.set_append_right _ _ (by omega),e2,Nat.add_sub_cancel_left];rfl
   rw[hset]at hst
   refine ownsRow_same hst fun k hk'=>?_
   injection hk' with hk'
   subst hk'
   exact hg
  ·have hkg:k=gn:=by
    have:=mem_ownL.1 hk'
    rw[hnv]at this
    injection this with this
    exact this.symm
   subst hkg
   refine ⟨fun hm=>?_,(h.dn k hgm).2.1,(h.dn k hgm).2.2⟩
   rcases List.mem_append.1 hm with hm | hm
   ·exact (hd k hm).1 rfl
   ·exact (h.dn k hgm).1 (by rw[e4];exact List.mem_append.2 (Or.inr hm))
  ·refine ⟨fun hm=>?_,(h.ds k hk').2⟩
   rcases List.mem_append.1 hm with hm | hm
   ·exact (hd k hm).2.2 hk'
   ·exact (h.ds k hk').1 (by rw[e4];exact List.mem_append.2 (Or.inr hm))
  ·rcases List.mem_append.1 hm with hm | hm
   ·exact (hd bb hm).2.1 rfl
   ·exact h.db (by rw[e4];exact List.mem_append.2 (Or.inr hm))
theorem BN.grow {w:World} {B bb:Nat} {z:Zi} {sv nv:Value} {nvs:List Value} {bl:List Nat} (h:BN w B bb z sv nv nvs bl):
 ∃gn cap v D e xs bF,nv=.slice (some ⟨gn,0,none⟩) (z.up.length+1) cap∧CellW w gn (z.up.length*6+5) v∧v=.slice D z.F.len e∧w.ownsRow B 56 6 v z.F.len xs∧FoVals w xs z.F bF ∧
  (∀q,v.ownBlock=some q→q≠bb∧q≠gn∧q ∉ ownL sv∧q<w.heap.size∧B≤q∧q ∈ bl)∧(gn≠bb∧gn<w.heap.size∧B≤gn∧gn ∈ ownL nv)∧(GRow w B v z.F bF∧∀q ∈ ownL v++bF,q ∈ bl) ∧
  ∀(w1:World) (gg cap1:Nat) (k sp:Int) (n t:ByteArray) (al:List (ByteArray × ByteArray)) (kids:Fo) (A K:Option Addr) (ca ck:Nat) (ba bk:List Nat) (y:Zi),w.heap.size≤w1.heap.size→(∀q,q<w.heap.size→v.ownBlock≠some q→w1.heap[q]?=w.heap[q]?) →
   w1.ownsRow B 56 6 (.slice (some ⟨gg,0,none⟩) (z.F.len+1) cap1) (z.F.len+1) (xs++[.int .i64 k,.int .i64 sp,.string n,.string t,.slice A al.length ca,.slice K kids.len ck])→(v.ownBlock=some gg∨w.heap.size≤gg) →
   (n.size≤maxLen∧t.size≤maxLen)→(al.length≤ca∧al.length≤maxLen∧AlRow w A al ba)→(kids.len≤ck∧kids.len≤maxLen∧KRow w K kids bk)→(ba++bk).Nodup→(∀q ∈ ba++bk,B≤q∧q<w.heap.size∧¬FpS bb sv nv bl q) →
   y=⟨z.F.app (.one k sp n t al kids),z.up,z.c⟩ →
   ∃nvs' bl',BN (w1.setCell ⟨gn,z.up.length*6+5,none⟩ (.slice (some ⟨gg,0,none⟩) (z.F.len+1) cap1)) B bb y sv nv nvs' bl'∧∀q ∈ bl',q ∈ bl∨q ∈ ba++bk∨w.heap.size≤q:=by
 obtain ⟨gn,cap,v,bF,rest,e1,e2,e3,e4,e5,e6,e7,e8⟩:=h.kids
 have hgm:gn ∈ ownL nv:=mem_ownL.2 (by rw[e1];rfl)
 have hgB:=(World.ownsRow.lt h.nrow gn (mem_ownL.1 hgm)).1
 obtain ⟨D,e,bs,hv,_⟩:=e3.kids
 have hnd:=h.nd
 rw[e4]at hnd
 obtain ⟨n1,n2,n3⟩:=List.nodup_append.1 hnd
 obtain ⟨n4,n5,n6⟩:=List.nodup_append.1 n1
 have hvl:∀q,v.ownBlock=some q→q≠bb∧q≠gn∧q ∉ ownL sv∧q<w.heap.size∧B≤q∧q ∈ bl:=fun q hq=>by
  have hm:q ∈ bl:=by rw[e4];exact List.mem_append.2 (Or.inl (List.mem_append.2 (Or.inl (mem_ownL.2 hq))))
  have hl:=h.nod.lt q hm
  exact ⟨fun e=>h.db (by rw[←e];exact hm),fun e=>e5 (by rw[←e];exact hm),fun hs=>(h.ds q hs).1 hm,hl.2,hl.1,hm⟩
 obtain ⟨xs,ho,hfv,hbn,hbb,hbg⟩:=id e3
 refine ⟨gn,cap,v,D,e,xs,bF,e1,e2,hv,ho,hfv,hvl,⟨e6,e7,hgB,hgm⟩,⟨e3,fun q hq=>by rw[e4];exact List.mem_append.2 (Or.inl hq)⟩,?_⟩
 intro w1 gg cap1 k sp n t al kids A K ca ck ba bk y hs hk hown hat hz h4 h5 hnb hbl hy
 have hbF:∀q ∈ bF,q ∈ bl:=fun q hq=>by rw[e4];exact List.mem_append.2 (Or.inl (List.mem_append.2 (Or.inr hq)))
 have hrest:∀q ∈ rest,q ∈ bl:=fun q hq=>by rw[e4];exact List.mem_append.2 (Or.inr hq)
 have hG1:GRow w1 B (.slice (some ⟨gg,0,none⟩) (z.F.len+1) cap1) (z.F.app (.one k sp n t al kids)) (bF++(ba++bk)):=by
  refine grow_push (v:=v) hfv (fun q hq=>?_) ?_ (fun q hq hm=>?_) hz h4 h5 hown hk hs ?_
  ·rcases List.mem_append.1 hq with hq | hq
   ·exact hbb q hq
   ·exact ⟨(hbl q hq).1,(hbl q hq).2.1⟩
  ·exact List.nodup_append.2 ⟨hbn,hnb,fun a ha b hb e=>by subst e;exact (hbl a hb).2.2 (Or.inr (Or.inr (Or.inr (hbF a ha))))⟩
  ·rcases List.mem_append.1 hm with hm | hm
   ·exact hbg q hq hm
   ·exact (hbl q hm).2.2 (Or.inr (Or.inr (Or.inr (hvl q hq).2.2.2.2.2)))
  ·rcases hat with e | e
   ·exact Or.inl e.symm
   ·exact Or.inr ⟨gg,rfl,e⟩
 have hggs:gg≠gn∧gg≠bb∧gg ∉ ownL sv∧gg ∉ rest∧gg ∉ bF++(ba++bk):=by
  have hbbl:=(h.lt bb (Or.inl rfl)).2
  rcases hat with e | e
  ·have:=hvl gg e
   refine ⟨this.2.1,this.1,this.2.2.1,fun hq=>n3 gg (List.mem_append.2 (Or.inl (mem_ownL.2 e))) gg hq rfl,fun hq=>?_⟩
   rcases List.mem_append.1 hq with hq | hq
   ·exact n6 gg (mem_ownL.2 e) gg hq rfl
   ·exact (hbl gg hq).2.2 (Or.inr (Or.inr (Or.inr this.2.2.2.2.2)))
  ·refine ⟨by omega,by omega,fun hq=>?_,fun hq=>?_,fun hq=>?_⟩
   ·have:=(h.lt gg (Or.inr (Or.inl hq))).2;omega
   ·have:=(h.nod.lt gg (hrest gg hq)).2;omega
   ·rcases List.mem_append.1 hq with hq | hq
    ·have:=(h.nod.lt gg (hbF gg hq)).2;omega
    ·have:=(hbl gg hq).2.1;omega
 have far:∀q,q≠gn→(w1.setCell ⟨gn,z.up.length*6+5,none⟩ (.slice (some ⟨gg,0,none⟩) (z.F.len+1) cap1)).heap[q]?=w1.heap[q]?:=fun q hq=>Below.heap_setCell w1 ⟨gn,z.up.length*6+5,none⟩ _ q (by rintro rfl;exact hq rfl)
 have hmem:∀q ∈ ownL (.slice (some ⟨gg,0,none⟩) (z.F.len+1) cap1)++(bF++(ba++bk)),q≠gn∧q≠bb∧q ∉ ownL sv:=fun q hq=>by
  rcases List.mem_append.1 hq with hq | hq
  ·have:=mem_ownL.1 hq
   injection this with this
   subst this
   exact ⟨hggs.1,hggs.2.1,hggs.2.2.1⟩
  ·rcases List.mem_append.1 hq with hq | hq
   ·exact ⟨fun e=>e5 (by rw[←e];exact hbF q hq),fun e=>h.db (by rw[←e];exact hbF q hq),fun hs=>(h.ds q hs).1 (hbF q hq)⟩
   ·have:=(hbl q hq).2.2
    exact ⟨fun e=>this (Or.inr (Or.inr (Or.inl (by rw[e];exact hgm)))),fun e=>this (Or.inl e),fun hs=>this (Or.inr (Or.inl hs))⟩
 have c1:∀q,q ∈ rest∨q=bb∨q ∈ ownL sv→(w1.setCell ⟨gn,z.up.length*6+5,none⟩ (.slice (some ⟨gg,0,none⟩) (z.F.len+1) cap1)).heap[q]?=w.heap[q]?:=by
  intro q hq
  have hqn:q≠gn∧v.ownBlock≠some q∧q<w.heap.size:=by
   rcases hq with hq | hq | hq
   ·refine ⟨fun e=>e5 (by rw[←e];exact hrest q hq),fun e=>n3 q (List.mem_append.2 (Or.inl (mem_ownL.2 e))) q hq rfl,(h.nod.lt q (hrest q hq)).2⟩
   ·subst hq
    exact ⟨fun e=>e6 e.symm,fun e=>(hvl q e).1 rfl,(h.lt q (Or.inl rfl)).2⟩
   ·exact ⟨fun e=>(h.dn gn hgm).2.2 (by rw[←e];exact hq),fun e=>(hvl q e).2.2.1 hq,(h.lt q (Or.inr (Or.inl hq))).2⟩
  rw[far q hqn.1,hk q hqn.2.2 hqn.2.1]
 have c2:(ownL (.slice (some ⟨gg,0,none⟩) (z.F.len+1) cap1)++(bF++(ba++bk))++rest).Nodup:=by
  refine List.nodup_append.2 ⟨List.nodup_append.2 ⟨by simp[ownL,Value.ownBlock],?_,fun a ha b hb e=>?_⟩,n2,fun a ha b hb e=>?_⟩
  ·exact List.nodup_append.2 ⟨hbn,hnb,fun a ha b hb e=>by subst e;exact (hbl a hb).2.2 (Or.inr (Or.inr (Or.inr (hbF a ha))))⟩
  ·subst e
   have:=mem_ownL.1 ha
   injection this with this
   subst this
   exact hggs.2.2.2.2 hb
  ·subst e
   rcases List.mem_append.1 ha with ha | ha
   ·have:=mem_ownL.1 ha
    injection this with this
    subst this
    exact hggs.2.2.2.1 hb
   ·rcases List.mem_append.1 ha with ha | ha
    ·exact n3 a (List.mem_append.2 (Or.inr ha)) a hb rfl
    ·exact (hbl a ha).2.2 (Or.inr (Or.inr (Or.inr (hrest a hb))))
 obtain ⟨nvs',r⟩:=e8 _ (.slice (some ⟨gg,0,none⟩) (z.F.len+1) cap1) _ (bF++(ba++bk)) y hy (by simpa using hs) c1 (setCell_block (hk gn e7 fun e=>(hvl gn e).2.1 rfl)) (hG1.sameB (by simp) fun q hq=>far q (hmem q hq).1) c2 hmem
 refine ⟨nvs',_,r,fun q hq=>?_⟩
 rcases List.mem_append.1 hq with hq | hq
 ·rcases List.mem_append.1 hq with hq | hq
  ·have:=mem_ownL.1 hq
   injection this with this
   subst this
   rcases hat with e | e
   ·exact Or.inl (hvl gg e).2.2.2.2.2
   ·exact Or.inr (Or.inr e)
  ·rcases List.mem_append.1 hq with hq | hq
   ·exact Or.inl (hbF q hq)
   ·exact Or.inr (Or.inl hq)
 ·exact Or.inl (hrest q hq)
end Go.Proofs.YthdkkpbhijlpaaaGreatDoor
namespace Go.Proofs.YthdkkpbhijlpaaaGreatDoor
open Go.ChangeShapes Go.WideShapes Go.ChangeAt Go.RowKit Go.Deep
theorem BS.cut {w:World} {B bb:Nat} {F:Fo} {x:Fr} {up:List Fr} {c:Nat} {sv nv:Value} {nvs:List Value} {bl:List Nat} (h:BS w B bb ⟨F,x::up,c⟩ sv nv nvs bl):
 ∃gn cap gs caps nvs' A ca D e ba bs bl',nv=.slice (some ⟨gn,0,none⟩) (up.length+1+1) cap∧sv=.slice (some ⟨gs,0,none⟩) (up.length+1) caps∧nvs=nvs'++elV x.sp x.n x.al A ca (.slice D F.len e)∧nvs'.length=(up.length+1)*6 ∧
  x.n.size≤maxLen∧(x.al.length≤ca∧x.al.length≤maxLen∧AlRow w A x.al ba)∧(F.len≤e∧KRow w D F bs)∧(ba++bs).Nodup∧up.length+1+1≤cap∧up.length+1≤caps ∧
  ∀(W:World),w.heap.size≤W.heap.size→(∀q,q<w.heap.size→q≠bb→W.heap[q]?=w.heap[q]?)→Lay W bb #[.slice (some ⟨gs,0,none⟩) up.length caps,.slice (some ⟨gn,0,none⟩) (up.length+1) cap,.int .i64 (c:Int),.int .i64 0] →
   BN W B bb ⟨x.P,up,c⟩ (.slice (some ⟨gs,0,none⟩) up.length caps) (.slice (some ⟨gn,0,none⟩) (up.length+1) cap) nvs' bl'∧AlRow W A x.al ba∧KRow W D F bs ∧
   (∀q ∈ ba++bs,B≤q∧q<W.heap.size∧¬FpS bb (.slice (some ⟨gs,0,none⟩) up.length caps) (.slice (some ⟨gn,0,none⟩) (up.length+1) cap) bl' q)∧(∀q ∈ ba++bs,q ∈ bl) ∧
   ∀q,FpS bb (.slice (some ⟨gs,0,none⟩) up.length caps) (.slice (some ⟨gn,0,none⟩) (up.length+1) cap) bl' q→FpS bb sv nv bl q:=by
 have hbb:=(h.lt bb (Or.inl rfl)).2
 have hlt:=h.lt
 have hB:=h.le
 obtain ⟨v,bF,A,ca,ba,nvs',bl',e1,hG,h3,h4,h5,h6⟩:=h.nod
 obtain ⟨D,e,bs,hv,hle,hK,hbn,hbs⟩:=hG.kids
 have hnd:=h.nd
 rw[h6]at hnd
 obtain ⟨n1,n2,n3⟩:=List.nodup_append.1 hnd
 obtain ⟨n4,n5,n6⟩:=List.nodup_append.1 n2
 have hl':=h5.len
 obtain ⟨gn,cap,hnv⟩:∃gn cap,nv=.slice (some ⟨gn,0,none⟩) (up.length+1+1) cap:=by
  rcases h.nrow.2 with ⟨_,h0⟩ | ⟨g,cap,cur,e,_⟩
  ·exact absurd h0 (by simp)
  ·exact ⟨g,cap,e⟩
 obtain ⟨gs,caps,hsv⟩:∃gs caps,sv=.slice (some ⟨gs,0,none⟩) (up.length+1) caps:=by
  rcases h.srow.2 with ⟨_,h0⟩ | ⟨g,cap,cur,e,_⟩
  ·exact absurd h0 (by simp)
  ·exact ⟨g,cap,e⟩
 have hnr:=h.nrow
 have hsr:=h.srow
 rw[hnv,e1]at hnr
 rw[hsv,opensOf_cons,osVals_snoc]at hsr
 have hnr':=ownsRow_pop hl' hnr
 have hsr':=ownsRow_pop (by rw[osVals_len,opensOf_len]) hsr
 have hcap:up.length+1+1≤cap:=by
  rcases hnr.2 with ⟨h0,_⟩ | ⟨g,cap',cur,e,_,_,hc,_⟩
  ·cases h0
  ·injection e with _ _ e;omega
 have hcaps:up.length+1≤caps:=by
  rcases hsr.2 with ⟨h0,_⟩ | ⟨g,cap',cur,e,_,_,hc,_⟩
  ·cases h0
  ·injection e with _ _ e;omega
 have hbsl:∀q ∈ bs,q ∈ ownL v++bF:=hbs
 have hin:∀q ∈ ba++bs,q ∈ bl:=fun q hq=>by
  rw[h6]
  rcases List.mem_append.1 hq with hq | hq
  ·exact List.mem_append.2 (Or.inr (List.mem_append.2 (Or.inl hq)))
  ·exact List.mem_append.2 (Or.inl (hbs q hq))
 have hout:∀q ∈ ba++bs,q ∉ bl':=fun q hq hm=>by
  rcases List.mem_append.1 hq with hq | hq
  ·exact n6 q hq q hm rfl
  ·exact n3 q (hbs q hq) q (List.mem_append.2 (Or.inr hm)) rfl
 have hbl':∀q ∈ bl',q ∈ bl:=fun q hq=>by rw[h6];exact List.mem_append.2 (Or.inr (List.mem_append.2 (Or.inr hq)))
 have hos:∀m,ownL (.slice (some ⟨gs,0,none⟩) m caps)=ownL sv:=fun m=>by rw[hsv];rfl
 have hon:∀m,ownL (.slice (some ⟨gn,0,none⟩) m cap)=ownL nv:=fun m=>by rw[hnv];rfl
 refine ⟨gn,cap,gs,caps,nvs',A,ca,D,e,ba,bs,bl',hnv,hsv,by rw[e1,hv],hl',h3.1,h3.2,⟨hle,hK⟩,List.nodup_append.2 ⟨n4,hbn,fun a ha b hb hab=>n3 b (hbs b hb) a (List.mem_append.2 (Or.inl ha)) hab.symm⟩,hcap,hcaps,fun W hs hk hL=>?_⟩
 have kp:∀q,FpS bb sv nv bl q→q≠bb→W.heap[q]?=w.heap[q]?:=fun q hq hne=>hk q (hlt q hq).2 hne
 have kb:∀q ∈ bl,W.heap[q]?=w.heap[q]?:=fun q hq=>kp q (Or.inr (Or.inr (Or.inr hq))) (by rintro rfl;exact h.db hq)
 have kn:∀q ∈ ownL nv,W.heap[q]?=w.heap[q]?:=fun q hq=>kp q (Or.inr (Or.inr (Or.inl hq))) (h.dn q hq).2.1
 have ks:∀q ∈ ownL sv,W.heap[q]?=w.heap[q]?:=fun q hq=>kp q (Or.inr (Or.inl hq)) (h.ds q hq).2
 refine ⟨⟨h5.same hs fun q hq=>kb q (hbl' q hq),n5,ownsRow_same hnr' fun q hq=>kn q (by rw[←hon (up.length+1)];exact mem_ownL.2 hq),ownsRow_same hsr' fun q hq=>ks q (by rw[←hos up.length];exact mem_ownL.2 hq),fun q hq=>?_,fun q hq=>?_,fun hm=>h.db (hbl' bb hm),hL,hB⟩,h3.2.2.2.same fun q hq=>kb q (hin q (List.mem_append.2 (Or.inl hq))),hK.same fun q hq=>kb q (hin q (List.mem_append.2 (Or.inr hq))),fun q hq=>⟨(hlt q (Or.inr (Or.inr (Or.inr (hin q hq))))).1,Nat.lt_of_lt_of_le (hlt q (Or.inr (Or.inr (Or.inr (hin q hq))))).2 hs,fun hf=>?_⟩,hin,fun q hq=>?_⟩
 ·rw[hon]at hq
  rw[hos]
  exact ⟨fun hm=>(h.dn q hq).1 (hbl' q hm),(h.dn q hq).2⟩
 ·rw[hos]at hq
  exact ⟨fun hm=>(h.ds q hq).1 (hbl' q hm),(h.ds q hq).2⟩
 ·rcases hf with hf | hf | hf | hf
  ·subst hf;exact h.db (hin _ hq)
  ·rw[hos]at hf;exact (h.ds q hf).1 (hin q hq)
  ·rw[hon]at hf;exact (h.dn q hf).1 (hin q hq)
  ·exact hout q hq hf
 ·rcases hq with hq | hq | hq | hq
  ·exact Or.inl hq
  ·rw[hos]at hq;exact Or.inr (Or.inl hq)
  ·rw[hon]at hq;exact Or.inr (Or.inr (Or.inl hq))
  ·exact Or.inr (Or.inr (Or.inr (hbl' q hq)))
end Go.Proofs.YthdkkpbhijlpaaaGreatDoor
namespace Go.Proofs.YthdkkpbhijlpaaaGreatDoor
open Go.ChangeShapes Go.WideShapes Go.ChangeAt Go.RowKit Go.Deep
theorem BS.popped {w:World} {B bb:Nat} {F:Fo} {x:Fr} {up:List Fr} {c:Nat} {sv nv:Value} {nvs:List Value} {bl:List Nat} (h:BS w B bb ⟨F,x::up,c⟩ sv nv nvs bl):
 ∃gn cap gs caps A ca D e,nv=.slice (some ⟨gn,0,none⟩) (up.length+1+1) cap∧sv=.slice (some ⟨gs,0,none⟩) (up.length+1) caps∧up.length+1+1≤cap∧up.length+1≤caps∧gn<w.heap.size∧gn≠bb ∧
  (∀j u,(elV x.sp x.n x.al A ca (.slice D F.len e))[j]?=some u→w.cell? ⟨gn,(up.length+1)*6+j,none⟩=some u) ∧
  ∀(W:World),w.heap.size≤W.heap.size→(∀q,q<w.heap.size→q≠bb→W.heap[q]?=w.heap[q]?)→Lay W bb #[.slice (some ⟨gs,0,none⟩) up.length caps,.slice (some ⟨gn,0,none⟩) (up.length+1) cap,.int .i64 (c:Int),.int .i64 0] →
   ∃D0 e0 xs,CellW W gn (up.length*6+5) (.slice D0 x.P.len e0)∧W.ownsRow B 56 6 (.slice D0 x.P.len e0) x.P.len xs∧x.P.len≤60 ∧
    (∀q,(Value.slice D0 x.P.len e0).ownBlock=some q→q≠bb∧q≠gn∧q<W.heap.size∧FpS bb sv nv bl q) ∧
    ∀(w1:World) (gg cap1:Nat),W.heap.size≤w1.heap.size→(∀q,q<W.heap.size→(Value.slice D0 x.P.len e0).ownBlock≠some q→w1.heap[q]?=W.heap[q]?) →
     w1.ownsRow B 56 6 (.slice (some ⟨gg,0,none⟩) (x.P.len+1) cap1) (x.P.len+1) (xs++elV x.sp x.n x.al A ca (.slice D F.len e))→((Value.slice D0 x.P.len e0).ownBlock=some gg∨W.heap.size≤gg) →
     ∃sv' nv' nvs2 bl2,BS (w1.setCell ⟨gn,up.length*6+5,none⟩ (.slice (some ⟨gg,0,none⟩) (x.P.len+1) cap1)) B bb (Zi.pop ⟨F,x::up,c⟩) sv' nv' nvs2 bl2∧∀q,FpS bb sv' nv' bl2 q→FpS bb sv nv bl q∨W.heap.size≤q:=by
 have hfit:=h.fit
 have hbb:=(h.lt bb (Or.inl rfl)).2
 obtain ⟨gn,cap,gs,caps,nvs',A,ca,D,e,ba,bs,bl',hnv,hsv,hnvs,hl',hz,ha,hK,hnd,hcap,hcaps,hC⟩:=h.cut
 have hgm:gn ∈ ownL nv:=mem_ownL.2 (by rw[hnv];rfl)
 have hgl:=(h.lt gn (Or.inr (Or.inr (Or.inl hgm)))).2
 have hgb:=(h.dn gn hgm).2.1
 have hFl:F.len≤60:=by have h1:=hfit.1;have h2:=hfit.2.1;unfold cntZ at h1;simp only at h1 h2;omega
 refine ⟨gn,cap,gs,caps,A,ca,D,e,hnv,hsv,hcap,hcaps,hgl,hgb,fun j u hu=>?_,fun W hs hk hL=>?_⟩
 ·have hr:=h.nrow
  rw[hnv]at hr
  have hj:j<6:=by
   have:=(List.getElem?_eq_some_iff.1 hu).1
   simpa[elV]using this
  rw[hr.cellAt _ (by omega),hnvs,List.getElem?_append_right (by omega),hl',Nat.add_sub_cancel_left]
  exact hu
 ·obtain ⟨hN,hA,hKr,hq1,hq2,hq3⟩:=hC W hs hk hL
  obtain ⟨gn2,cap2,v,D0,e0,xs,bF,e1,e2,e3,e4,e5,e6,e7,_,e9⟩:=hN.grow
  have hgg:gn2=gn:=by injection e1 with a;injection a with a;injection a with a;exact a.symm
  subst hgg
  have hPl:x.P.len≤60:=by
   have h1:=(Zi.fit_pop hfit).1
   have h2:=hfit.2.1
   unfold cntZ Zi.pop at h1
   simp only[Fo.len_app]at h1 h2
   omega
  subst e3
  refine ⟨D0,e0,xs,e2,e4,hPl,fun q hq=>⟨(e6 q hq).1,(e6 q hq).2.1,(e6 q hq).2.2.2.1,hq3 q (Or.inr (Or.inr (Or.inr (e6 q hq).2.2.2.2.2)))⟩,fun w1 gg cap1 s1 k1 o1 a1=>?_⟩
  obtain ⟨nvs2,bl2,r1,r2⟩:=e9 w1 gg cap1 1 x.sp x.n ⟨#[]⟩ x.al F A D ca e ba bs ⟨x.P.app (.one 1 x.sp x.n ⟨#[]⟩ x.al F),up,c⟩ s1 k1 o1 a1 ⟨hz,by decide⟩ ⟨ha.1,ha.2.1,hA⟩ ⟨hK.1,by unfold maxLen;omega,hKr⟩ hnd hq1 rfl
  refine ⟨_,_,nvs2,bl2,r1.bs (Zi.fit_pop hfit),fun q hq=>?_⟩
  rcases hq with hq | hq | hq | hq
  ·exact Or.inl (Or.inl hq)
  ·exact Or.inl (hq3 q (Or.inr (Or.inl hq)))
  ·exact Or.inl (hq3 q (Or.inr (Or.inr (Or.inl hq))))
  ·rcases r2 q hq with hq | hq | hq
   ·exact Or.inl (hq3 q (Or.inr (Or.inr (Or.inr hq))))
   ·exact Or.inl (Or.inr (Or.inr (Or.inr (hq2 q hq))))
   ·exact Or.inr hq
end Go.Proofs.YthdkkpbhijlpaaaGreatDoor
namespace Go.Proofs.YthdkkpbhijlpaaaGreatDoor
open Go.ChangeShapes Go.WideShapes Go.ChangeAt Go.RowKit Go.Deep
def BSOut (B bb:Nat) (fp:Nat→Prop) (w:World) (y:Zi) (w':World):Prop:=But fp w w'∧∃sv nv nvs bl,BS w' B bb y sv nv nvs bl∧∀q,FpS bb sv nv bl q→fp q∨w.heap.size≤q
def lenAt (bb:Nat) (w:World):Nat:=match w.cell? ⟨bb,0,none⟩ with | some (.slice _ n _)=>n | _=>0
theorem BS.lenAt {w:World} {B bb:Nat} {z:Zi} {sv nv:Value} {nvs:List Value} {bl:List Nat} (h:BS w B bb z sv nv nvs bl):lenAt bb w=z.up.length:=by
 have h0:w.cell? ⟨bb,0,none⟩=some sv:=h.lay.1 0
 rcases h.srow.2 with ⟨e,h1⟩ | ⟨g,cap,cur,e,_⟩
 ·rw[Go.Proofs.YthdkkpbhijlpaaaGreatDoor.lenAt,h0,e,h1]
 ·rw[Go.Proofs.YthdkkpbhijlpaaaGreatDoor.lenAt,h0,e]
theorem BSOut.lenAt {B bb:Nat} {fp:Nat→Prop} {w w':World} {y:Zi} (h:BSOut B bb fp w y w'):Go.Proofs.YthdkkpbhijlpaaaGreatDoor.lenAt bb w'=y.up.length:=by
 obtain ⟨_,sv,nv,nvs,bl,hS,_⟩:=h
 exact hS.lenAt
theorem Zi.to_pop {F:Fo} {x:Fr} {up:List Fr} {c k:Nat} (hk:k≤up.length):(Zi.pop ⟨F,x::up,c⟩).to k=Zi.to ⟨F,x::up,c⟩ k:=by
 unfold Zi.to
 rw[Zi.pop_up]
 simp only[List.tail_cons,List.length_cons]
 rw[show up.length+1-k=(up.length-k)+1 by omega,Zi.pops]
theorem popW {wr:World} {bb c:Nat} {sv nv a b':Value} (hL:Lay wr bb #[sv,nv,.int .i64 (c:Int),.int .i64 0]) (hbb:bb<wr.heap.size) (cs:Array Value) (t:TypeId) (o:Obj):
 But (fun q=>q=bb) wr (((((wr.setCell ⟨bb,1,none⟩ b').setCell ⟨bb,0,none⟩ a).alloc (.cells cs t)).alloc o).drew).drew∧Lay (((((wr.setCell ⟨bb,1,none⟩ b').setCell ⟨bb,0,none⟩ a).alloc (.cells cs t)).alloc o).drew).drew bb #[a,b',.int .i64 (c:Int),.int .i64 0] ∧
  Lay (((((wr.setCell ⟨bb,1,none⟩ b').setCell ⟨bb,0,none⟩ a).alloc (.cells cs t)).alloc o).drew).drew wr.heap.size cs:=by
 have h1:But (fun q=>q=bb) wr ((wr.setCell ⟨bb,1,none⟩ b').setCell ⟨bb,0,none⟩ a):=((But.refl (fun q=>q=bb) wr).setCell (p:=⟨bb,1,none⟩) (Or.inl rfl) b').setCell (p:=⟨bb,0,none⟩) (Or.inl rfl) a
 have l1:=(hL.set 1 b').set 0 a
 have hsz:((wr.setCell ⟨bb,1,none⟩ b').setCell ⟨bb,0,none⟩ a).heap.size=wr.heap.size:=by simp
 have hn:=Lay.new ((wr.setCell ⟨bb,1,none⟩ b').setCell ⟨bb,0,none⟩ a) cs t
 rw[hsz]at hn
 refine ⟨(((h1.alloc _).alloc _).drew).drew,?_,?_⟩
 ·exact lay_same ((l1.alloc (by rw[hsz];exact hbb) _).alloc (by simp;omega) _) rfl
 ·exact lay_same (hn.alloc (by simp) o) rfl
theorem but_grown {wa w1:World} {o:Obj} {r:Option Nat} (h:((wa.alloc o).drew).grownBy w1 r):But (fun q=>r=some q) wa w1:=by
 have hs:wa.heap.size≤((wa.alloc o).drew).heap.size:=by simp
 refine ⟨h.os,h.tape,h.output,Nat.le_trans hs h.size,fun q hq hC=>?_⟩
 exact (h.block q (Nat.lt_of_lt_of_le hq hs) fun e=>hC e.symm).trans (Below.heap_alloc wa o q hq)
theorem pop_fin {B bb k c gn gg cap1 e0:Nat} {fp:Nat→Prop} {w wr wa w1 wz:World} {z:Zi} {F:Fo} {x:Fr} {up:List Fr} {sv2 nv2:Value} {nvs2:List Value} {bl2:List Nat} {D0:Option Addr} {ys:List Value}
 (hS:BS wr B bb ⟨F,x::up,c⟩ sv2 nv2 nvs2 bl2) (hB:But fp w wr) (hq:∀q,FpS bb sv2 nv2 bl2 q→fp q∨w.heap.size≤q) (hto:Zi.to ⟨F,x::up,c⟩ k=z.to k) (hk:k<up.length+1) (hW:But (fun q=>q=bb) wr wa)
 (hvb:∀q,(Value.slice D0 x.P.len e0).ownBlock=some q→q≠bb∧q≠gn∧q<wa.heap.size∧FpS bb sv2 nv2 bl2 q) (hgn:gn ∈ ownL nv2)
 (hfin:∀(w1:World) (gg cap1:Nat),wa.heap.size≤w1.heap.size→(∀q,q<wa.heap.size→(Value.slice D0 x.P.len e0).ownBlock≠some q→w1.heap[q]?=wa.heap[q]?) →
  w1.ownsRow B 56 6 (.slice (some ⟨gg,0,none⟩) (x.P.len+1) cap1) (x.P.len+1) ys→((Value.slice D0 x.P.len e0).ownBlock=some gg∨wa.heap.size≤gg) →
  ∃sv' nv' nvs2' bl2',BS (w1.setCell ⟨gn,up.length*6+5,none⟩ (.slice (some ⟨gg,0,none⟩) (x.P.len+1) cap1)) B bb (Zi.pop ⟨F,x::up,c⟩) sv' nv' nvs2' bl2'∧∀q,FpS bb sv' nv' bl2' q→FpS bb sv2 nv2 bl2 q∨wa.heap.size≤q)
 (h1:But (fun q=>(Value.slice D0 x.P.len e0).ownBlock=some q∨wa.heap.size≤q) wa w1) (hown:w1.ownsRow B 56 6 (.slice (some ⟨gg,0,none⟩) (x.P.len+1) cap1) (x.P.len+1) ys) (hat:(Value.slice D0 x.P.len e0).ownBlock=some gg∨gg=wa.heap.size+1)
 (he:wz=w1.setCell ⟨gn,up.length*6+5,none⟩ (.slice (some ⟨gg,0,none⟩) (x.P.len+1) cap1)):
 (∃y,Hid (BSOut B bb fp w y wz∧k≤y.up.length∧y.to k=z.to k))∧lenAt bb wz<lenAt bb wr:=by
 subst he
 obtain ⟨sv',nv',nvs2',bl2',r1,r2⟩:=hfin w1 gg cap1 h1.size (fun q h2 h3=>h1.block q h2 fun h=>h.elim h3 fun h4=>absurd h2 (Nat.not_lt.2 h4)) hown (hat.imp id fun h=>by omega)
 have hO:BSOut B bb fp w (Zi.pop ⟨F,x::up,c⟩) (w1.setCell ⟨gn,up.length*6+5,none⟩ (.slice (some ⟨gg,0,none⟩) (x.P.len+1) cap1)):=by
  have a1:But fp w wa:=hB.trans hW fun q e=>by subst e;exact hq _ (Or.inl rfl)
  have a2:But fp w w1:=a1.trans h1 fun q e=>e.elim (fun e=>hq q (hvb q e).2.2.2) fun e=>Or.inr (Nat.le_trans a1.size e)
  refine ⟨a2.setCell (p:=⟨gn,up.length*6+5,none⟩) (hq gn (Or.inr (Or.inr (Or.inl hgn)))) _,sv',nv',nvs2',bl2',r1,fun q hq'=>?_⟩
  rcases r2 q hq' with h | h
  ·exact hq q h
  ·exact Or.inr (Nat.le_trans a1.size h)
 refine ⟨⟨_,Lib.hid ⟨hO,?_,?_⟩⟩,?_⟩
 ·rw[Zi.pop_up];simp only[List.tail_cons];omega
 ·rw[Zi.to_pop (by omega)];exact hto
 ·rw[hO.lenAt,hS.lenAt,Zi.pop_up];simp
end Go.Proofs.YthdkkpbhijlpaaaGreatDoor
