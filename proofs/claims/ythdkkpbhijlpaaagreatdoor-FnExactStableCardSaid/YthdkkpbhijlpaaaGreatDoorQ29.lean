import Derived.Deep.AppendLies
import Derived.Deep.RegionLaw
import Derived.Laws.IdiomStrings
import Derived.Test.YthdkkpbhijlpaaaGreatDoorQ28
set_option linter.unusedVariables false
namespace Go.Proofs.YthdkkpbhijlpaaaGreatDoor
open Go.ChangeShapes Go.WideShapes Go.ChangeAt Go.RowKit Go.Deep
def OutS (B bb:Nat) (fp:Nat→Prop) (ex:List Nat) (r:Rs) (w:World) (e:Ending) (w':World):Prop:=
 match r with
 | .bad c=>e=.returned (.tuple #[])∧w'.cell? ⟨bb,3,none⟩=some (.int .i64 c)∧Below B w w'
 | .ok y=>e=.returned (.tuple #[])∧But fp w w'∧∃sv nv nvs bl,BS w' B bb y sv nv nvs bl∧∀q,FpS bb sv nv bl q→fp q∨q ∈ ex∨w.heap.size≤q
def pushR (z:Zi) (k sp:Int) (n t:ByteArray) (al:List (ByteArray × ByteArray)):Rs:=if 120<t.size then .bad 8 else .ok ⟨z.F.app (.one k sp n t al .nil),z.up,z.c⟩
theorem pushR_fit {z y:Zi} {k sp:Int} {n t:ByteArray} {al:List (ByteArray × ByteArray)} (hf:z.fit) (hr:cntZ z+1≤z.c) (h:pushR z k sp n t al=.ok y):y.fit:=by
 unfold pushR at h
 split at h
 ·cases h
 ·injection h with h
  subst h
  refine ⟨?_,hf.2.1,hf.2.2.1,fun x hx=>?_⟩
  ·simp only[cntZ,Fo.len_app]at hr ⊢
   show z.F.len+1+_≤_
   omega
  ·simp only[Fo.last_snoc]at hx
   injection hx with hx
   rw[←hx]
   simp only;omega
set_option maxHeartbeats 4000000 in
set_option maxRecDepth 100000 in
theorem put_new (B bb:Nat) (z:Zi) (sv nv:Value) (nvs:List Value) (bl:List Nat) (k sp:Int) (n t:ByteArray) (al:List (ByteArray × ByteArray)) (A:Option Addr) (ca:Nat) (ba:List Nat) (w:World)
 (hz:n.size≤maxLen∧t.size≤maxLen) (ha:al.length≤ca∧al.length≤maxLen∧AlRow w A al ba) (hba:ba.Nodup) (hbl:∀q ∈ ba,B≤q∧q<w.heap.size∧¬FpS bb sv nv bl q) (h:BS w B bb z sv nv nvs bl)
 (hm:k≠2∨∀x,z.F.last=some x→x.1≠2) (hr:cntZ z+1≤z.c):
 Calls Tryz.prog 128 #[.pointer (some ⟨bb,0,none⟩),.agg #[.int .i64 k,.int .i64 sp,.string n,.string t,.slice A al.length ca,.slice none 0 0]] w (OutS B bb (FpS bb sv nv bl) ba (pushR z k sp n t al) w):=by
 obtain ⟨gn,cap,v,D,e,xs,bF,e1,e2,e3,e4,e5,e6,e7,⟨e8,_⟩,e9⟩:=h.grow
 have hbb:=(h.lt bb (Or.inl rfl)).2
 have p1:w.cell? ⟨bb,1,none⟩=some nv:=h.lay.1 1
 have f3:w.frozen? ⟨bb,3,none⟩=false:=h.lay.2 3
 have p3:w.cell? ⟨bb,3,none⟩=some (.int .i64 0):=h.lay.1 3
 have q5:=e2.1
 have q5f:=e2.2
 have hF:z.F.len≤60:=by have h1:=h.fit.1;have h2:=h.fit.2.1;unfold cntZ at h1;omega
 have hm10:=h.fit.2.2.1
 have hgn:=e7.2.1
 have hne:=e7.1
 rw[e1]at p1
 rw[e3]at q5
 have HH:=Lib.hid h
 have HG:=Lib.hid (And.intro e4 (And.intro e5 (And.intro e6 e9)))
 have HE:=Lib.hid (And.intro e1 (And.intro e3 e7))
 have HX:=Lib.hid (And.intro hz (And.intro ha (And.intro hba hbl)))
 have HR:=Lib.hid hr
 have htz:=hz.2
 unfold maxLen at htz
 have hlast:(k≠2)∨(k=2∧z.F.len=0)∨(k=2∧0<z.F.len∧∃gv k',D=some ⟨gv,0,none⟩∧gv<w.heap.size∧w.cell? ⟨gv,(z.F.len-1)*6,none⟩=some (.int .i64 k')∧k'≠2):=by
  rcases hm with hm | hm
  ·exact Or.inl hm
  ·by_cases hk:k=2
   ·rcases Fo.snoc_or z.F with hF | ⟨P,k',sp',n',t',al',kids',hF⟩
    ·exact Or.inr (Or.inl ⟨hk,by rw[hF];rfl⟩)
    ·have hl:z.F.last=some (k',t'):=by rw[hF,Fo.last_snoc]
     rw[hF]at e8
     obtain ⟨g,cap',f1,_,_,f4,f5,_,_⟩:=e8.last
     have hlen:z.F.len=P.len+1:=by rw[hF,Fo.len_app];rfl
     refine Or.inr (Or.inr ⟨hk,by omega,g,k',?_,f4,by rw[hlen,Nat.add_sub_cancel];exact f5.1,hm _ hl⟩)
     rw[e3]at f1
     injection f1
   ·exact Or.inl hk
 have B1:=Lib.hid ((Below.refl w.heap.size w).alloc (Nat.le_refl _) (.cells #[.int .i64 k,.int .i64 sp,.string n,.string t,.slice A al.length ca,.slice none 0 0] 56))
 clear h e1 e2 e3 e4 e5 e6 e7 e8 e9 hz ha hba hbl hm hr
 unfold pushR
 rcases hlast with hk | ⟨hk,hl0⟩ | ⟨hk,hl0,gv,k',hD,hgv,hc,hk2⟩
 ·have hk':(k==2)=false:=by simpa using hk
  clear hk
  by_cases ht:120<t.size
  ·rw[if_pos ht]
   go_enter Tryz.func128,Tryz.ntmps128
   go_wp2
   go_end0
   refine ⟨rfl,?_,?_⟩
   ·exact (((Below.refl _ _).alloc (Nat.le_refl _) _).cell (p:=⟨bb,3,none⟩) (by simpa using hbb)).trans (World.cell?_setCell_same _ _ _ p3)
   ·exact ((Below.refl B w).setCell (p:=⟨bb,3,none⟩) HH.out.le _).alloc (by have:=HH.out.le;simp;omega) _
  ·rw[if_neg ht]
   go_enter Tryz.func128,Tryz.ntmps128
   go_wp2
   have qa:(w.alloc (.cells #[.int .i64 k,.int .i64 sp,.string n,.string t,.slice A al.length ca,.slice none 0 0] 56)).cell? ⟨gn,z.up.length*6+5,none⟩=some (.slice D z.F.len e):=(B1.out.cell (p:=⟨gn,z.up.length*6+5,none⟩) hgn).trans q5
   have qf:(w.alloc (.cells #[.int .i64 k,.int .i64 sp,.string n,.string t,.slice A al.length ca,.slice none 0 0] 56)).frozen? ⟨gn,z.up.length*6+5,none⟩=false:=(B1.out.frozen (p:=⟨gn,z.up.length*6+5,none⟩) hgn).trans q5f
   have pa:(w.alloc (.cells #[.int .i64 k,.int .i64 sp,.string n,.string t,.slice A al.length ca,.slice none 0 0] 56)).cell? ⟨bb,1,none⟩=some (.slice (some ⟨gn,0,none⟩) (z.up.length+1) cap):=(B1.out.cell (p:=⟨bb,1,none⟩) hbb).trans p1
   have L1:=Lib.hid (Lay.new w #[.int .i64 k,.int .i64 sp,.string n,.string t,.slice A al.length ca,.slice none 0 0] 56)
   have hsz1:w.heap.size<(w.alloc (.cells #[.int .i64 k,.int .i64 sp,.string n,.string t,.slice A al.length ca,.slice none 0 0] 56)).heap.size:=by simp
   have HO:Hid ((w.alloc (.cells #[.int .i64 k,.int .i64 sp,.string n,.string t,.slice A al.length ca,.slice none 0 0] 56)).ownsRow B 56 6 (.slice D z.F.len e) z.F.len xs):=Lib.hid (by have:=HG.out.1;rw[HE.out.2.1]at this;exact this.alloc _)
   have HVB:Hid (∀q,(Value.slice D z.F.len e).ownBlock=some q→q≠bb∧q≠gn∧q<w.heap.size∧B≤q):=Lib.hid fun q hq=>by have:=HG.out.2.2.1 q (by rw[HE.out.2.1];exact hq);exact ⟨this.1,this.2.1,this.2.2.2.1,this.2.2.2.2.1⟩
   generalize (w.alloc (.cells #[.int .i64 k,.int .i64 sp,.string n,.string t,.slice A al.length ca,.slice none 0 0] 56))=wa at B1 L1 hsz1 qa qf pa HO ⊢
   obtain ⟨b0,b1',b2,b3,b4,b5⟩:=lay6 L1.out
   have hnb:=World.new_ne wa ⟨bb,1,none⟩ pa
   have hng:=World.new_ne wa ⟨gn,z.up.length*6+5,none⟩ qa
   have pb:=(World.cell?_of_block (w:=wa) (a:=⟨bb,1,none⟩) (w':=wa.alloc (.cells #[.int .i64 k,.int .i64 sp,.string n,.string t,.slice A al.length ca,.slice none 0 0] 56)) (Below.heap_alloc wa _ bb (by omega))).trans pa
   have qb:=(World.cell?_of_block (w:=wa) (a:=⟨gn,z.up.length*6+5,none⟩) (w':=wa.alloc (.cells #[.int .i64 k,.int .i64 sp,.string n,.string t,.slice A al.length ca,.slice none 0 0] 56)) (Below.heap_alloc wa _ gn (by omega))).trans qa
   have hix:((z.up.length:Nat):Int)<((z.up.length:Nat):Int)+1:=by omega
   have hBw:B≤wa.heap.size:=by have:=HH.out.le;omega
   have hBb:=HH.out.le
   obtain ⟨i0,hi0,hz0,hz1,hz2⟩:=info_of infoNode
   have HZ:=Lib.hid (And.intro hz0 (And.intro hz1 hz2))
   clear hz0 hz1 hz2 p1 q5 q5f f3 p3
   go_region_law ((refine step_append_lies _ (by rfl) _ _ _ (by rfl) B 56 i0 _ 6 96 Tryz.underlying24 hi0 HZ.out.1 HZ.out.2.1 HZ.out.2.2 rfl (by omega) (.slice D z.F.len e) z.F.len xs (by rfl) (HO.out.alloc _) ⟨wa.heap.size,0,none⟩ 1 1 [.int .i64 k,.int .i64 sp,.string n,.string t,.slice A al.length ca,.slice none 0 0] (by rfl) (by rfl) (World.news_of_block (cs:=#[.int .i64 k,.int .i64 sp,.string n,.string t,.slice A al.length ca,.slice none 0 0]) (t:=56) (fr:=(0,0)) (heap_alloc_new wa _)) (by simp[Value.oneCell']) (by omega) (by unfold maxLen;omega) (by omega) (by simp;omega) (wa.heap.size+1) (by simp) ?_;intro gg cap1 w1 hown1 hgrow hat hlt;have hbk:w1.heap[bb]?=wa.heap[bb]?:=(hgrow.block bb (by simp;omega) (fun h=>(HVB.out bb h.symm).1 rfl)).trans (Below.heap_alloc wa _ bb (by omega));have hgk:w1.heap[gn]?=wa.heap[gn]?:=(hgrow.block gn (by simp;omega) (fun h=>(HVB.out gn h.symm).2.1 rfl)).trans (Below.heap_alloc wa _ gn (by omega));have r0:=(World.cell?_of_block (w:=wa) (a:=⟨gn,z.up.length*6+5,none⟩) hgk).trans qa;have r1:=(World.frozen?_of_block (w:=wa) (a:=⟨gn,z.up.length*6+5,none⟩) hgk).trans qf;have r2:=(World.cell?_of_block (w:=wa) (a:=⟨bb,1,none⟩) hbk).trans pa;have HW1:=Lib.hid (And.intro hown1 (And.intro hgrow hat));clear hown1 hgrow hat hlt hbk hgk))
   all_goals
    clear b0 b1' b2 b3 b4 b5 qa qf pa pb qb r0 r1 r2
    go_wp2
    go_end0
    have hk1:∀q,q<w.heap.size→v.ownBlock≠some q→w1.heap[q]?=w.heap[q]?:=fun q h1 h2=>
     ((HW1.out.2.1.block q (Nat.lt_of_lt_of_le h1 (Nat.le_trans (Nat.le_of_lt hsz1) (by simp))) (fun e=>h2 (by rw[HE.out.2.1];exact e.symm))).trans (Below.heap_alloc wa _ q (Nat.lt_trans h1 hsz1))).trans (B1.out.block q h1)
    have hs1:w.heap.size≤w1.heap.size:=Nat.le_trans (by simp;omega) HW1.out.2.1.size
    have hat1:v.ownBlock=some gg∨w.heap.size≤gg:=by rw[HE.out.2.1];exact HW1.out.2.2.imp id fun h=>by omega
    have hfit:=pushR_fit (n:=n) (t:=t) (al:=al) (k:=k) (sp:=sp) HH.out.fit HR.out (by unfold pushR;rw[if_neg ht])
    obtain ⟨nvs',bl',r1,r2⟩:=HG.out.2.2.2 w1 gg cap1 k sp n t al .nil A none ca 0 ba [] _ hs1 hk1 HW1.out.1 hat1 HX.out.1 HX.out.2.1 ⟨Nat.le_refl _,Nat.zero_le _,Or.inl ⟨rfl,rfl⟩⟩ (by simpa using HX.out.2.2.1) (by simpa using HX.out.2.2.2) rfl hfit
    refine ⟨rfl,?_,sv,nv,nvs',bl',r1,fun q hq=>?_⟩
    ·have hb1:But (FpS bb sv nv bl) w w1:=⟨HW1.out.2.1.os.trans B1.out.os,HW1.out.2.1.tape.trans B1.out.tape,HW1.out.2.1.output.trans B1.out.output,hs1,fun q h1 h2=>hk1 q h1 fun e=>h2 (Or.inr (Or.inr (Or.inr (HG.out.2.2.1 q e).2.2.2.2.2)))⟩
     exact hb1.setCell (p:=⟨gn,z.up.length*6+5,none⟩) (Or.inl (Or.inr (Or.inr (Or.inl HE.out.2.2.2.2.2)))) _
    ·rcases hq with hq | hq | hq | hq
     ·exact Or.inl (Or.inl hq)
     ·exact Or.inl (Or.inr (Or.inl hq))
     ·exact Or.inl (Or.inr (Or.inr (Or.inl hq)))
     ·rcases r2 q hq with h | h | h
      ·exact Or.inl (Or.inr (Or.inr (Or.inr h)))
      ·exact Or.inr (Or.inl (by simpa using h))
      ·exact Or.inr (Or.inr h)
 ·have hk':(k==2)=true:=by simpa using hk
  clear hk
  have hl0':¬((z.F.len:Nat):Int)>0:=by omega
  have HL0:=Lib.hid hl0
  clear hl0
  by_cases ht:120<t.size
  ·rw[if_pos ht]
   go_enter Tryz.func128,Tryz.ntmps128
   go_wp2
   go_end0
   refine ⟨rfl,?_,?_⟩
   ·exact (((Below.refl _ _).alloc (Nat.le_refl _) _).cell (p:=⟨bb,3,none⟩) (by simpa using hbb)).trans (World.cell?_setCell_same _ _ _ p3)
   ·exact ((Below.refl B w).setCell (p:=⟨bb,3,none⟩) HH.out.le _).alloc (by have:=HH.out.le;simp;omega) _
  ·rw[if_neg ht]
   go_enter Tryz.func128,Tryz.ntmps128
   go_wp2
   have qa:(w.alloc (.cells #[.int .i64 k,.int .i64 sp,.string n,.string t,.slice A al.length ca,.slice none 0 0] 56)).cell? ⟨gn,z.up.length*6+5,none⟩=some (.slice D z.F.len e):=(B1.out.cell (p:=⟨gn,z.up.length*6+5,none⟩) hgn).trans q5
   have qf:(w.alloc (.cells #[.int .i64 k,.int .i64 sp,.string n,.string t,.slice A al.length ca,.slice none 0 0] 56)).frozen? ⟨gn,z.up.length*6+5,none⟩=false:=(B1.out.frozen (p:=⟨gn,z.up.length*6+5,none⟩) hgn).trans q5f
   have pa:(w.alloc (.cells #[.int .i64 k,.int .i64 sp,.string n,.string t,.slice A al.length ca,.slice none 0 0] 56)).cell? ⟨bb,1,none⟩=some (.slice (some ⟨gn,0,none⟩) (z.up.length+1) cap):=(B1.out.cell (p:=⟨bb,1,none⟩) hbb).trans p1
   have L1:=Lib.hid (Lay.new w #[.int .i64 k,.int .i64 sp,.string n,.string t,.slice A al.length ca,.slice none 0 0] 56)
   have hsz1:w.heap.size<(w.alloc (.cells #[.int .i64 k,.int .i64 sp,.string n,.string t,.slice A al.length ca,.slice none 0 0] 56)).heap.size:=by simp
   have HO:Hid ((w.alloc (.cells #[.int .i64 k,.int .i64 sp,.string n,.string t,.slice A al.length ca,.slice none 0 0] 56)).ownsRow B 56 6 (.slice D z.F.len e) z.F.len xs):=Lib.hid (by have:=HG.out.1;rw[HE.out.2.1]at this;exact this.alloc _)
   have HVB:Hid (∀q,(Value.slice D z.F.len e).ownBlock=some q→q≠bb∧q≠gn∧q<w.heap.size∧B≤q):=Lib.hid fun q hq=>by have:=HG.out.2.2.1 q (by rw[HE.out.2.1];exact hq);exact ⟨this.1,this.2.1,this.2.2.2.1,this.2.2.2.2.1⟩
   generalize (w.alloc (.cells #[.int .i64 k,.int .i64 sp,.string n,.string t,.slice A al.length ca,.slice none 0 0] 56))=wa at B1 L1 hsz1 qa qf pa HO ⊢
   obtain ⟨b0,b1',b2,b3,b4,b5⟩:=lay6 L1.out
   have hnb:=World.new_ne wa ⟨bb,1,none⟩ pa
   have hng:=World.new_ne wa ⟨gn,z.up.length*6+5,none⟩ qa
   have pb:=(World.cell?_of_block (w:=wa) (a:=⟨bb,1,none⟩) (w':=wa.alloc (.cells #[.int .i64 k,.int .i64 sp,.string n,.string t,.slice A al.length ca,.slice none 0 0] 56)) (Below.heap_alloc wa _ bb (by omega))).trans pa
   have qb:=(World.cell?_of_block (w:=wa) (a:=⟨gn,z.up.length*6+5,none⟩) (w':=wa.alloc (.cells #[.int .i64 k,.int .i64 sp,.string n,.string t,.slice A al.length ca,.slice none 0 0] 56)) (Below.heap_alloc wa _ gn (by omega))).trans qa
   have hix:((z.up.length:Nat):Int)<((z.up.length:Nat):Int)+1:=by omega
   have hBw:B≤wa.heap.size:=by have:=HH.out.le;omega
   have hBb:=HH.out.le
   obtain ⟨i0,hi0,hz0,hz1,hz2⟩:=info_of infoNode
   have HZ:=Lib.hid (And.intro hz0 (And.intro hz1 hz2))
   clear hz0 hz1 hz2 p1 q5 q5f f3 p3
   go_region_law ((refine step_append_lies _ (by rfl) _ _ _ (by rfl) B 56 i0 _ 6 96 Tryz.underlying24 hi0 HZ.out.1 HZ.out.2.1 HZ.out.2.2 rfl (by omega) (.slice D z.F.len e) z.F.len xs (by rfl) (HO.out.alloc _) ⟨wa.heap.size,0,none⟩ 1 1 [.int .i64 k,.int .i64 sp,.string n,.string t,.slice A al.length ca,.slice none 0 0] (by rfl) (by rfl) (World.news_of_block (cs:=#[.int .i64 k,.int .i64 sp,.string n,.string t,.slice A al.length ca,.slice none 0 0]) (t:=56) (fr:=(0,0)) (heap_alloc_new wa _)) (by simp[Value.oneCell']) (by omega) (by unfold maxLen;omega) (by omega) (by simp;omega) (wa.heap.size+1) (by simp) ?_;intro gg cap1 w1 hown1 hgrow hat hlt;have hbk:w1.heap[bb]?=wa.heap[bb]?:=(hgrow.block bb (by simp;omega) (fun h=>(HVB.out bb h.symm).1 rfl)).trans (Below.heap_alloc wa _ bb (by omega));have hgk:w1.heap[gn]?=wa.heap[gn]?:=(hgrow.block gn (by simp;omega) (fun h=>(HVB.out gn h.symm).2.1 rfl)).trans (Below.heap_alloc wa _ gn (by omega));have r0:=(World.cell?_of_block (w:=wa) (a:=⟨gn,z.up.length*6+5,none⟩) hgk).trans qa;have r1:=(World.frozen?_of_block (w:=wa) (a:=⟨gn,z.up.length*6+5,none⟩) hgk).trans qf;have r2:=(World.cell?_of_block (w:=wa) (a:=⟨bb,1,none⟩) hbk).trans pa;have HW1:=Lib.hid (And.intro hown1 (And.intro hgrow hat));clear hown1 hgrow hat hlt hbk hgk))
   all_goals
    clear b0 b1' b2 b3 b4 b5 qa qf pa pb qb r0 r1 r2
    go_wp2
    go_end0
    have hk1:∀q,q<w.heap.size→v.ownBlock≠some q→w1.heap[q]?=w.heap[q]?:=fun q h1 h2=>
     ((HW1.out.2.1.block q (Nat.lt_of_lt_of_le h1 (Nat.le_trans (Nat.le_of_lt hsz1) (by simp))) (fun e=>h2 (by rw[HE.out.2.1];exact e.symm))).trans (Below.heap_alloc wa _ q (Nat.lt_trans h1 hsz1))).trans (B1.out.block q h1)
    have hs1:w.heap.size≤w1.heap.size:=Nat.le_trans (by simp;omega) HW1.out.2.1.size
    have hat1:v.ownBlock=some gg∨w.heap.size≤gg:=by rw[HE.out.2.1];exact HW1.out.2.2.imp id fun h=>by omega
    have hfit:=pushR_fit (n:=n) (t:=t) (al:=al) (k:=k) (sp:=sp) HH.out.fit HR.out (by unfold pushR;rw[if_neg ht])
    obtain ⟨nvs',bl',r1,r2⟩:=HG.out.2.2.2 w1 gg cap1 k sp n t al .nil A none ca 0 ba [] _ hs1 hk1 HW1.out.1 hat1 HX.out.1 HX.out.2.1 ⟨Nat.le_refl _,Nat.zero_le _,Or.inl ⟨rfl,rfl⟩⟩ (by simpa using HX.out.2.2.1) (by simpa using HX.out.2.2.2) rfl hfit
    refine ⟨rfl,?_,sv,nv,nvs',bl',r1,fun q hq=>?_⟩
    ·have hb1:But (FpS bb sv nv bl) w w1:=⟨HW1.out.2.1.os.trans B1.out.os,HW1.out.2.1.tape.trans B1.out.tape,HW1.out.2.1.output.trans B1.out.output,hs1,fun q h1 h2=>hk1 q h1 fun e=>h2 (Or.inr (Or.inr (Or.inr (HG.out.2.2.1 q e).2.2.2.2.2)))⟩
     exact hb1.setCell (p:=⟨gn,z.up.length*6+5,none⟩) (Or.inl (Or.inr (Or.inr (Or.inl HE.out.2.2.2.2.2)))) _
    ·rcases hq with hq | hq | hq | hq
     ·exact Or.inl (Or.inl hq)
     ·exact Or.inl (Or.inr (Or.inl hq))
     ·exact Or.inl (Or.inr (Or.inr (Or.inl hq)))
     ·rcases r2 q hq with h | h | h
      ·exact Or.inl (Or.inr (Or.inr (Or.inr h)))
      ·exact Or.inr (Or.inl (by simpa using h))
      ·exact Or.inr (Or.inr h)
 ·have hk':(k==2)=true:=by simpa using hk
  clear hk
  have hl0':((z.F.len:Nat):Int)>0:=by omega
  clear hl0
  have hk2':(k'==2)=false:=by simpa using hk2
  subst hD
  have hgw:gv<w.heap.size:=hgv
  clear hk2
  by_cases ht:120<t.size
  ·rw[if_pos ht]
   go_enter Tryz.func128,Tryz.ntmps128
   go_wp2
   go_end0
   refine ⟨rfl,?_,?_⟩
   ·exact (((Below.refl _ _).alloc (Nat.le_refl _) _).cell (p:=⟨bb,3,none⟩) (by simpa using hbb)).trans (World.cell?_setCell_same _ _ _ p3)
   ·exact ((Below.refl B w).setCell (p:=⟨bb,3,none⟩) HH.out.le _).alloc (by have:=HH.out.le;simp;omega) _
  ·rw[if_neg ht]
   go_enter Tryz.func128,Tryz.ntmps128
   go_wp2
   have qa:(w.alloc (.cells #[.int .i64 k,.int .i64 sp,.string n,.string t,.slice A al.length ca,.slice none 0 0] 56)).cell? ⟨gn,z.up.length*6+5,none⟩=some (.slice (some ⟨gv,0,none⟩) z.F.len e):=(B1.out.cell (p:=⟨gn,z.up.length*6+5,none⟩) hgn).trans q5
   have qf:(w.alloc (.cells #[.int .i64 k,.int .i64 sp,.string n,.string t,.slice A al.length ca,.slice none 0 0] 56)).frozen? ⟨gn,z.up.length*6+5,none⟩=false:=(B1.out.frozen (p:=⟨gn,z.up.length*6+5,none⟩) hgn).trans q5f
   have pa:(w.alloc (.cells #[.int .i64 k,.int .i64 sp,.string n,.string t,.slice A al.length ca,.slice none 0 0] 56)).cell? ⟨bb,1,none⟩=some (.slice (some ⟨gn,0,none⟩) (z.up.length+1) cap):=(B1.out.cell (p:=⟨bb,1,none⟩) hbb).trans p1
   have L1:=Lib.hid (Lay.new w #[.int .i64 k,.int .i64 sp,.string n,.string t,.slice A al.length ca,.slice none 0 0] 56)
   have hsz1:w.heap.size<(w.alloc (.cells #[.int .i64 k,.int .i64 sp,.string n,.string t,.slice A al.length ca,.slice none 0 0] 56)).heap.size:=by simp
   have HO:Hid ((w.alloc (.cells #[.int .i64 k,.int .i64 sp,.string n,.string t,.slice A al.length ca,.slice none 0 0] 56)).ownsRow B 56 6 (.slice (some ⟨gv,0,none⟩) z.F.len e) z.F.len xs):=Lib.hid (by have:=HG.out.1;rw[HE.out.2.1]at this;exact this.alloc _)
   have HVB:Hid (∀q,(Value.slice (some ⟨gv,0,none⟩) z.F.len e).ownBlock=some q→q≠bb∧q≠gn∧q<w.heap.size∧B≤q):=Lib.hid fun q hq=>by have:=HG.out.2.2.1 q (by rw[HE.out.2.1];exact hq);exact ⟨this.1,this.2.1,this.2.2.2.1,this.2.2.2.2.1⟩
   generalize (w.alloc (.cells #[.int .i64 k,.int .i64 sp,.string n,.string t,.slice A al.length ca,.slice none 0 0] 56))=wa at B1 L1 hsz1 qa qf pa HO ⊢
   obtain ⟨b0,b1',b2,b3,b4,b5⟩:=lay6 L1.out
   have hnb:=World.new_ne wa ⟨bb,1,none⟩ pa
   have hng:=World.new_ne wa ⟨gn,z.up.length*6+5,none⟩ qa
   have pb:=(World.cell?_of_block (w:=wa) (a:=⟨bb,1,none⟩) (w':=wa.alloc (.cells #[.int .i64 k,.int .i64 sp,.string n,.string t,.slice A al.length ca,.slice none 0 0] 56)) (Below.heap_alloc wa _ bb (by omega))).trans pa
   have qb:=(World.cell?_of_block (w:=wa) (a:=⟨gn,z.up.length*6+5,none⟩) (w':=wa.alloc (.cells #[.int .i64 k,.int .i64 sp,.string n,.string t,.slice A al.length ca,.slice none 0 0] 56)) (Below.heap_alloc wa _ gn (by omega))).trans qa
   have hix:((z.up.length:Nat):Int)<((z.up.length:Nat):Int)+1:=by omega
   have hBw:B≤wa.heap.size:=by have:=HH.out.le;omega
   have hBb:=HH.out.le
   obtain ⟨i0,hi0,hz0,hz1,hz2⟩:=info_of infoNode
   have HZ:=Lib.hid (And.intro hz0 (And.intro hz1 hz2))
   clear hz0 hz1 hz2 p1 q5 q5f f3 p3
   go_region_law ((refine step_append_lies _ (by rfl) _ _ _ (by rfl) B 56 i0 _ 6 96 Tryz.underlying24 hi0 HZ.out.1 HZ.out.2.1 HZ.out.2.2 rfl (by omega) (.slice (some ⟨gv,0,none⟩) z.F.len e) z.F.len xs (by rfl) (HO.out.alloc _) ⟨wa.heap.size,0,none⟩ 1 1 [.int .i64 k,.int .i64 sp,.string n,.string t,.slice A al.length ca,.slice none 0 0] (by rfl) (by rfl) (World.news_of_block (cs:=#[.int .i64 k,.int .i64 sp,.string n,.string t,.slice A al.length ca,.slice none 0 0]) (t:=56) (fr:=(0,0)) (heap_alloc_new wa _)) (by simp[Value.oneCell']) (by omega) (by unfold maxLen;omega) (by omega) (by simp;omega) (wa.heap.size+1) (by simp) ?_;intro gg cap1 w1 hown1 hgrow hat hlt;have hbk:w1.heap[bb]?=wa.heap[bb]?:=(hgrow.block bb (by simp;omega) (fun h=>(HVB.out bb h.symm).1 rfl)).trans (Below.heap_alloc wa _ bb (by omega));have hgk:w1.heap[gn]?=wa.heap[gn]?:=(hgrow.block gn (by simp;omega) (fun h=>(HVB.out gn h.symm).2.1 rfl)).trans (Below.heap_alloc wa _ gn (by omega));have r0:=(World.cell?_of_block (w:=wa) (a:=⟨gn,z.up.length*6+5,none⟩) hgk).trans qa;have r1:=(World.frozen?_of_block (w:=wa) (a:=⟨gn,z.up.length*6+5,none⟩) hgk).trans qf;have r2:=(World.cell?_of_block (w:=wa) (a:=⟨bb,1,none⟩) hbk).trans pa;have HW1:=Lib.hid (And.intro hown1 (And.intro hgrow hat));clear hown1 hgrow hat hlt hbk hgk))
   all_goals
    clear b0 b1' b2 b3 b4 b5 qa qf pa pb qb r0 r1 r2
    go_wp2
    go_end0
    have hk1:∀q,q<w.heap.size→v.ownBlock≠some q→w1.heap[q]?=w.heap[q]?:=fun q h1 h2=>
     ((HW1.out.2.1.block q (Nat.lt_of_lt_of_le h1 (Nat.le_trans (Nat.le_of_lt hsz1) (by simp))) (fun e=>h2 (by rw[HE.out.2.1];exact e.symm))).trans (Below.heap_alloc wa _ q (Nat.lt_trans h1 hsz1))).trans (B1.out.block q h1)
    have hs1:w.heap.size≤w1.heap.size:=Nat.le_trans (by simp;omega) HW1.out.2.1.size
    have hat1:v.ownBlock=some gg∨w.heap.size≤gg:=by rw[HE.out.2.1];exact HW1.out.2.2.imp id fun h=>by omega
    have hfit:=pushR_fit (n:=n) (t:=t) (al:=al) (k:=k) (sp:=sp) HH.out.fit HR.out (by unfold pushR;rw[if_neg ht])
    obtain ⟨nvs',bl',r1,r2⟩:=HG.out.2.2.2 w1 gg cap1 k sp n t al .nil A none ca 0 ba [] _ hs1 hk1 HW1.out.1 hat1 HX.out.1 HX.out.2.1 ⟨Nat.le_refl _,Nat.zero_le _,Or.inl ⟨rfl,rfl⟩⟩ (by simpa using HX.out.2.2.1) (by simpa using HX.out.2.2.2) rfl hfit
    refine ⟨rfl,?_,sv,nv,nvs',bl',r1,fun q hq=>?_⟩
    ·have hb1:But (FpS bb sv nv bl) w w1:=⟨HW1.out.2.1.os.trans B1.out.os,HW1.out.2.1.tape.trans B1.out.tape,HW1.out.2.1.output.trans B1.out.output,hs1,fun q h1 h2=>hk1 q h1 fun e=>h2 (Or.inr (Or.inr (Or.inr (HG.out.2.2.1 q e).2.2.2.2.2)))⟩
     exact hb1.setCell (p:=⟨gn,z.up.length*6+5,none⟩) (Or.inl (Or.inr (Or.inr (Or.inl HE.out.2.2.2.2.2)))) _
    ·rcases hq with hq | hq | hq | hq
     ·exact Or.inl (Or.inl hq)
     ·exact Or.inl (Or.inr (Or.inl hq))
     ·exact Or.inl (Or.inr (Or.inr (Or.inl hq)))
     ·rcases r2 q hq with h | h | h
      ·exact Or.inl (Or.inr (Or.inr (Or.inr h)))
      ·exact Or.inr (Or.inl (by simpa using h))
      ·exact Or.inr (Or.inr h)
end Go.Proofs.YthdkkpbhijlpaaaGreatDoor
namespace Go.Proofs.YthdkkpbhijlpaaaGreatDoor
open Go.ChangeShapes Go.WideShapes Go.ChangeAt Go.RowKit Go.Deep
theorem BS.text {w:World} {B bb:Nat} {z:Zi} {sv nv:Value} {nvs:List Value} {bl:List Nat} (h:BS w B bb z sv nv nvs bl) {P:Fo} {k sp:Int} {n t:ByteArray} {al:List (ByteArray × ByteArray)} {kids:Fo} (hF:z.F=P.app (.one k sp n t al kids)):
 ∃gn cap g cv,nv=.slice (some ⟨gn,0,none⟩) (z.up.length+1) cap∧w.cell? ⟨gn,z.up.length*6+5,none⟩=some (.slice (some ⟨g,0,none⟩) (P.len+1) cv)∧gn<w.heap.size∧g<w.heap.size∧w.cell? ⟨g,P.len*6,none⟩=some (.int .i64 k)∧w.cell? ⟨g,P.len*6+3,none⟩=some (.string t)∧w.frozen? ⟨g,P.len*6+3,none⟩=false ∧
  ∀(u:ByteArray) (y:Zi),t.size+u.size≤maxLen→y=⟨z.F.addText u,z.up,z.c⟩→y.fit→BS (w.setCell ⟨g,P.len*6+3,none⟩ (.string (t++u))) B bb y sv nv nvs bl∧g ∈ bl:=by
 obtain ⟨gn,cap,v,bF,rest,e1,e2,e3,e4,e5,e6,e7,_⟩:=h.kids
 obtain ⟨pre,a0,a1,a2,a3,a4,v2,bF2,rest2,i1,i2,i3,i4,i5⟩:=h.nod.inner
 have hv2:v2=v:=by
  have hr:=h.nrow
  rw[e1]at hr
  have:=hr.cellAt (z.up.length*6+5) (by omega)
  rw[e2.1,i1,List.getElem?_append_right (by omega),i2,Nat.add_sub_cancel_left]at this
  simpa using this.symm
 subst hv2
 rw[hF]at i3
 obtain ⟨g,cv,f1,_,_,f4,f5,f6,f7⟩:=i3.last
 have hm:g ∈ ownL v2:=mem_ownL.2 (by rw[f1];rfl)
 have hgb:g ∈ bl:=by rw[i4];exact List.mem_append.2 (Or.inl (List.mem_append.2 (Or.inl hm)))
 refine ⟨gn,cap,g,cv,e1,by rw[←f1];exact e2.1,e7,f4,f5.1,f6.1,f6.2,fun u y hu hy hyf=>⟨?_,hgb⟩⟩
 have far:∀q,q≠g→(w.setCell ⟨g,P.len*6+3,none⟩ (.string (t++u))).heap[q]?=w.heap[q]?:=fun q hq=>Below.heap_setCell w ⟨g,P.len*6+3,none⟩ _ q (by rintro rfl;exact hq rfl)
 have hnd:=h.nd
 rw[i4]at hnd
 obtain ⟨n1,n2,n3⟩:=List.nodup_append.1 hnd
 have e8:=f7 u (by rw[ByteArray.size_append];exact hu)
 have hn:=i5 (w.setCell ⟨g,P.len*6+3,none⟩ (.string (t++u))) v2 _ bF2 (by simp) (fun q hq=>far q (by rintro rfl;exact n3 q (List.mem_append.2 (Or.inl hm)) q hq rfl)) e8
 rw[←i1,←i4]at hn
 subst hy
 refine ⟨by rw[hF,Fo.addText_snoc];exact hn,h.nd,ownsRow_same h.nrow fun q hq=>far q ?_,ownsRow_same h.srow fun q hq=>far q ?_,h.dn,h.ds,h.db,lay_same h.lay (far bb ?_),h.le,hyf⟩
 ·rintro rfl;exact (h.dn q (mem_ownL.2 hq)).1 hgb
 ·rintro rfl;exact (h.ds q (mem_ownL.2 hq)).1 hgb
 ·rintro rfl;exact h.db hgb
set_option maxHeartbeats 4000000 in
set_option maxRecDepth 100000 in
theorem put_text (B bb:Nat) (z:Zi) (sv nv:Value) (nvs:List Value) (bl:List Nat) (t t':ByteArray) (w:World) (ht:t.size≤65536) (h:BS w B bb z sv nv nvs bl) (hl:z.F.last=some (2,t')):
 Calls Tryz.prog 128 #[.pointer (some ⟨bb,0,none⟩),.agg #[.int .i64 2,.int .i64 0,.string ⟨#[]⟩,.string t,.slice none 0 0,.slice none 0 0]] w (OutS B bb (FpS bb sv nv bl) [] (z.words t) w):=by
 have hbb:=(h.lt bb (Or.inl rfl)).2
 have hB:=h.le
 have p1:w.cell? ⟨bb,1,none⟩=some nv:=h.lay.1 1
 have f3:w.frozen? ⟨bb,3,none⟩=false:=h.lay.2 3
 have p3:w.cell? ⟨bb,3,none⟩=some (.int .i64 0):=h.lay.1 3
 have hm10:=h.fit.2.2.1
 rcases Fo.snoc_or z.F with hF | ⟨P,k,sp,n,t2,al,kids,hF⟩
 ·rw[hF]at hl;cases hl
 have hl2:z.F.last=some (k,t2):=by rw[hF,Fo.last_snoc]
 rw[hl]at hl2
 injection hl2 with hl2
 obtain ⟨rfl,rfl⟩:=Prod.mk.inj hl2
 have hP:P.len+1≤60:=by have:=h.fit.1;have h2:=h.fit.2.1;unfold cntZ at this;rw[hF,Fo.len_app]at this;simp only[Fo.one,Fo.len]at this;omega
 have ht':=h.fit.2.2.2 _ hl
 simp only at ht'
 obtain ⟨gn,cap,g,cv,e1,e2,e3,e4,e5,e6,e7,e8⟩:=h.text hF
 rw[e1]at p1
 have hix:((z.up.length:Nat):Int)<((z.up.length:Nat):Int)+1:=by omega
 have hix2:((P.len:Nat):Int)<((P.len:Nat):Int)+1:=by omega
 have hl0:((P.len:Nat):Int)+1>0:=by omega
 have B1:=Lib.hid ((Below.refl w.heap.size w).alloc (Nat.le_refl _) (.cells #[.int .i64 2,.int .i64 0,.string ⟨#[]⟩,.string t,.slice none 0 0,.slice none 0 0] 56))
 rw[words_text hl]
 by_cases hs:120<t'.size+t.size
 ·rw[if_pos hs]
  have hs':((t'.size:Nat):Int)+(t.size:Int)>120:=by omega
  clear h e8 hl hF e1 hs
  go_enter Tryz.func128,Tryz.ntmps128
  go_wp2
  have r1:(w.alloc (.cells #[.int .i64 2,.int .i64 0,.string ⟨#[]⟩,.string t,.slice none 0 0,.slice none 0 0] 56)).cell? ⟨g,P.len*6+3,none⟩=some (.string t'):=(B1.out.cell (p:=⟨g,P.len*6+3,none⟩) e4).trans e6
  have r2:(w.alloc (.cells #[.int .i64 2,.int .i64 0,.string ⟨#[]⟩,.string t,.slice none 0 0,.slice none 0 0] 56)).cell? ⟨w.heap.size,3,none⟩=some (.string t):=(Lay.new w #[.int .i64 2,.int .i64 0,.string ⟨#[]⟩,.string t,.slice none 0 0,.slice none 0 0] 56).1 3
  go_region
  go_wp2
  go_end0
  refine ⟨rfl,?_,?_⟩
  ·exact (((Below.refl _ _).alloc (Nat.le_refl _) _).drew.cell (p:=⟨bb,3,none⟩) (by simpa using hbb)).trans (World.cell?_setCell_same _ _ _ p3)
  ·exact (((Below.refl B w).setCell (p:=⟨bb,3,none⟩) hB _).alloc (by simp;omega) _).drew
 ·rw[if_neg hs]
  have hs':¬((t'.size:Nat):Int)+(t.size:Int)>120:=by omega
  have HR:=Lib.hid (e8 t ⟨z.F.addText t,z.up,z.c⟩ (by unfold maxLen;omega) rfl (Zi.fit_words h.fit (by rw[words_text hl,if_neg hs])))
  obtain ⟨L,⟨eL,gL⟩,aL⟩:∃L:ByteArray,(L=t'++t∧True)∧∀W,(Op.stringOp .add t' t).run Tryz.prog W=.ok (.string L) W:=⟨t'++t,⟨rfl,trivial⟩,fun W=>run_string_add_sum W _ _ (by omega)⟩
  have EL:=Lib.hid eL
  have HH:=Lib.hid h
  clear h e8 hl hF e1 hs eL gL
  go_enter Tryz.func128,Tryz.ntmps128
  go_wp2
  have r1:(w.alloc (.cells #[.int .i64 2,.int .i64 0,.string ⟨#[]⟩,.string t,.slice none 0 0,.slice none 0 0] 56)).cell? ⟨g,P.len*6+3,none⟩=some (.string t'):=(B1.out.cell (p:=⟨g,P.len*6+3,none⟩) e4).trans e6
  have r2:(w.alloc (.cells #[.int .i64 2,.int .i64 0,.string ⟨#[]⟩,.string t,.slice none 0 0,.slice none 0 0] 56)).cell? ⟨w.heap.size,3,none⟩=some (.string t):=(Lay.new w #[.int .i64 2,.int .i64 0,.string ⟨#[]⟩,.string t,.slice none 0 0,.slice none 0 0] 56).1 3
  go_region
  go_wp2
  go_region
  go_wp2
  go_end0
  have hr:=HR.out
  rw[←EL.out]at hr
  obtain ⟨hr1,hr2⟩:=hr
  have hb0:But (FpS bb sv nv bl) w (w.setCell ⟨g,P.len*6+3,none⟩ (.string L)):=(But.refl _ w).setCell (p:=⟨g,P.len*6+3,none⟩) (Or.inl (Or.inr (Or.inr (Or.inr hr2)))) _
  refine ⟨rfl,((hb0.alloc _).drew).drew,sv,nv,nvs,bl,hr1.next (((Below.refl _ _).alloc (Nat.le_refl _) _).drew).drew,fun q hq=>Or.inl hq⟩
end Go.Proofs.YthdkkpbhijlpaaaGreatDoor
namespace Go.Proofs.YthdkkpbhijlpaaaGreatDoor
open Go.ChangeShapes Go.WideShapes Go.ChangeAt Go.RowKit Go.Deep
theorem OutS.ret {B bb:Nat} {fp:Nat→Prop} {ex:List Nat} {r:Rs} {w:World} {e:Ending} {w':World} (h:OutS B bb fp ex r w e w'):e=.returned (.tuple #[])∧Hid (OutS B bb fp ex r w (.returned (.tuple #[])) w'):=by
 cases r with
 | bad c=>exact ⟨h.1,Lib.hid ⟨rfl,h.2⟩⟩
 | ok y=>exact ⟨h.1,Lib.hid ⟨rfl,h.2⟩⟩
theorem OutS.behind {B bb:Nat} {fp:Nat→Prop} {ex:List Nat} {r:Rs} {w w1:World} {e:Ending} {w':World} (h:OutS B bb fp ex r w1 e w') (h1:But fp w w1) (h2:Below B w w1):OutS B bb fp ex r w e w':=by
 cases r with
 | bad c=>exact ⟨h.1,h.2.1,h2.trans h.2.2⟩
 | ok y=>
  obtain ⟨a,b,sv,nv,nvs,bl,c,d⟩:=h
  exact ⟨a,h1.trans b fun i hi=>Or.inl hi,sv,nv,nvs,bl,c,fun q hq=>(d q hq).imp id (Or.imp id fun x=>Nat.le_trans h1.size x)⟩
theorem BS.more {w:World} {B bb:Nat} {z:Zi} {sv nv:Value} {nvs:List Value} {bl:List Nat} (h:BS w B bb z sv nv nvs bl) (hc:z.c<60):
 BS (w.setCell ⟨bb,2,none⟩ (.int .i64 ((z.c:Int)+1))) B bb ⟨z.F,z.up,z.c+1⟩ sv nv nvs bl:=by
 have far:∀q,q≠bb→(w.setCell ⟨bb,2,none⟩ (.int .i64 ((z.c:Int)+1))).heap[q]?=w.heap[q]?:=fun q hq=>Below.heap_setCell w ⟨bb,2,none⟩ _ q (by rintro rfl;exact hq rfl)
 have hl:=h.lay.set 2 (.int .i64 ((z.c:Int)+1))
 refine ⟨h.nod.same (by simp) fun q hq=>far q ?_,h.nd,ownsRow_same h.nrow fun q hq=>far q ?_,ownsRow_same h.srow fun q hq=>far q ?_,h.dn,h.ds,h.db,?_,h.le,?_⟩
 ·rintro rfl;exact h.db hq
 ·rintro rfl;exact (h.dn q (mem_ownL.2 hq)).2.1 rfl
 ·rintro rfl;exact (h.ds q (mem_ownL.2 hq)).2 rfl
 ·exact hl
 ·obtain ⟨f1,f2,f3,f4⟩:=h.fit
  exact ⟨Nat.le_trans f1 (Nat.le_succ _),hc,f3,f4⟩
theorem more_good (bb:Nat) (c:Nat) (w:World) (h2:w.cell? ⟨bb,2,none⟩=some (.int .i64 (c:Int))) (f2:w.frozen? ⟨bb,2,none⟩=false) (hc:c<60):
 Calls Tryz.prog 127 #[.pointer (some ⟨bb,0,none⟩)] w fun e w'=>e=.returned (.tuple #[])∧w'=w.setCell ⟨bb,2,none⟩ (.int .i64 ((c:Int)+1)):=by
 have hc':¬((c:Nat):Int)+1>60:=by omega
 have hb:w.heap.size>bb:=World.block_lt_of_cell? w _ h2
 go_enter Tryz.func127,Tryz.ntmps127
 go_wp2
 go_end0
 exact ⟨rfl,rfl⟩
theorem more_bad (B bb:Nat) (c:Nat) (w:World) (h2:w.cell? ⟨bb,2,none⟩=some (.int .i64 (c:Int))) (f2:w.frozen? ⟨bb,2,none⟩=false) (h3:w.cell? ⟨bb,3,none⟩=some (.int .i64 0)) (f3:w.frozen? ⟨bb,3,none⟩=false) (hc:60≤c) (hc2:c≤60) (hB:B≤bb):
 Calls Tryz.prog 127 #[.pointer (some ⟨bb,0,none⟩)] w fun e w'=>e=.returned (.tuple #[])∧w'.cell? ⟨bb,3,none⟩=some (.int .i64 6)∧Below B w w':=by
 have hc':((c:Nat):Int)+1>60:=by omega
 go_enter Tryz.func127,Tryz.ntmps127
 go_wp2
 go_end0
 refine ⟨rfl,World.cell?_setCell_same _ _ _ (u:=.int .i64 0) ?_,((Below.refl B w).setCell (p:=⟨bb,2,none⟩) hB _).setCell (p:=⟨bb,3,none⟩) hB _⟩
 rw[World.cell?_setCell_other _ _ _ _ (by simp)]
 exact h3
end Go.Proofs.YthdkkpbhijlpaaaGreatDoor
namespace Go.Proofs.YthdkkpbhijlpaaaGreatDoor
open Go.ChangeShapes Go.WideShapes Go.ChangeAt Go.RowKit Go.Deep
set_option maxHeartbeats 4000000 in
set_option maxRecDepth 100000 in
theorem words_new (B bb:Nat) (z:Zi) (sv nv:Value) (nvs:List Value) (bl:List Nat) (k:Int) (t:ByteArray) (w:World) (ht:t.size≤maxLen) (h:BS w B bb z sv nv nvs bl)
 (hk:k=3∨(k=2∧∀x,z.F.last=some x→x.1≠2)):
 Calls Tryz.prog 74 #[.pointer (some ⟨bb,0,none⟩),.int .i64 k,.string t] w (OutS B bb (FpS bb sv nv bl) [] (z.add k 0 ⟨#[]⟩ t []) w):=by
 have hbb:=(h.lt bb (Or.inl rfl)).2
 have hB:=h.le
 have p1:w.cell? ⟨bb,1,none⟩=some nv:=h.lay.1 1
 have p2:w.cell? ⟨bb,2,none⟩=some (.int .i64 (z.c:Int)):=h.lay.1 2
 have f2:w.frozen? ⟨bb,2,none⟩=false:=h.lay.2 2
 have f3:w.frozen? ⟨bb,3,none⟩=false:=h.lay.2 3
 have p3:w.cell? ⟨bb,3,none⟩=some (.int .i64 0):=h.lay.1 3
 have hm10:=h.fit.2.2.1
 have hm60:=h.fit.2.1
 have hcnt:=h.fit.1
 have hF:z.F.len≤60:=by have h1:=h.fit.1;have h2:=h.fit.2.1;unfold cntZ at h1;omega
 obtain ⟨gn,cap,v,D,e,xs,bF,e1,e2,e3,e4,e5,e6,e7,⟨e8,_⟩,_⟩:=h.grow
 have q5:=e2.1
 have hgn:=e7.2.1
 rw[e1]at p1
 rw[e3]at q5
 have HM:=Lib.hid (fun hc:60≤z.c=>more_bad B bb z.c w p2 f2 p3 f3 hc hm60 hB)
 have HG:=Lib.hid (fun hc:z.c<60=>more_good bb z.c w p2 f2 hc)
 have hlast:(k=3)∨(k=2∧z.F.len=0)∨(k=2∧0<z.F.len∧∃gv k',D=some ⟨gv,0,none⟩∧gv<w.heap.size∧w.cell? ⟨gv,(z.F.len-1)*6,none⟩=some (.int .i64 k')∧k'≠2):=by
  rcases hk with hk | ⟨hk,hm⟩
  ·exact Or.inl hk
  ·rcases Fo.snoc_or z.F with hF | ⟨P,k',sp',n',t',al',kids',hF⟩
   ·exact Or.inr (Or.inl ⟨hk,by rw[hF];rfl⟩)
   ·have hl:z.F.last=some (k',t'):=by rw[hF,Fo.last_snoc]
    rw[hF]at e8
    obtain ⟨g,cap',f1,_,_,f4,f5,_,_⟩:=e8.last
    have hlen:z.F.len=P.len+1:=by rw[hF,Fo.len_app];rfl
    refine Or.inr (Or.inr ⟨hk,by omega,g,k',?_,f4,by rw[hlen,Nat.add_sub_cancel];exact f5.1,hm _ hl⟩)
    rw[e3]at f1
    injection f1
 have HP:Hid (z.c<60→∀W,W=w.setCell ⟨bb,2,none⟩ (.int .i64 ((z.c:Int)+1))→Calls Tryz.prog 128 #[.pointer (some ⟨bb,0,none⟩),.agg #[.int .i64 k,.int .i64 0,.string ⟨#[]⟩,.string t,.slice none 0 0,.slice none 0 0]] W fun e w'=>e=.returned (.tuple #[])∧Hid (OutS B bb (FpS bb sv nv bl) [] (pushR ⟨z.F,z.up,z.c+1⟩ k 0 ⟨#[]⟩ t []) w (.returned (.tuple #[])) w')):=Lib.hid fun hc W e=>by
  subst e
  refine (put_new B bb ⟨z.F,z.up,z.c+1⟩ sv nv nvs bl k 0 ⟨#[]⟩ t [] none 0 [] _ ⟨Nat.zero_le _,ht⟩ ⟨Nat.le_refl _,Nat.zero_le _,Or.inl ⟨rfl,rfl⟩⟩ List.nodup_nil (by simp) (h.more hc) ?_ ?_).mono fun e w' hO=>(hO.behind ((But.refl _ w).setCell (p:=⟨bb,2,none⟩) (Or.inl (Or.inl rfl)) _) ((Below.refl B w).setCell (p:=⟨bb,2,none⟩) hB _)).ret
  ·rcases hk with hk | ⟨_,hk⟩
   ·exact Or.inl (by omega)
   ·exact Or.inr hk
  ·show cntZ ⟨z.F,z.up,z.c+1⟩+1≤z.c+1
   exact Nat.succ_le_succ hcnt
 have hadd:z.add k 0 ⟨#[]⟩ t []=if 10≤z.up.length then .bad 11 else if 60≤z.c then .bad 6 else pushR ⟨z.F,z.up,z.c+1⟩ k 0 ⟨#[]⟩ t []:=rfl
 rw[hadd]
 clear h e1 e2 e3 e4 e5 e6 e7 e8 hk hadd hcnt f2 p2
 rcases hlast with hk | ⟨hk,hl0⟩ | ⟨hk,hl0,gv,k',hD,hgv,hc,hk2⟩
 case' _=>
  have hk':(k==3)=true:=by simpa using hk
  subst hk
  clear hk'
 rotate_left
 case' _=>
  subst hk
  have hl0':(((z.F.len:Nat):Int)==0)=true:=by simp[hl0]
  have HL0:=Lib.hid hl0
  clear hl0
 rotate_left
 case' _=>
  subst hk
  have hl0':(((z.F.len:Nat):Int)==0)=false:=by simp;omega
  have hl1':((z.F.len:Nat):Int)>0:=by omega
  have hk2':(k'==2)=false:=by simpa using hk2
  subst hD
  have hgw:gv<w.heap.size:=hgv
  clear hk2 hl0
 rotate_left
 all_goals
  by_cases hd:10≤z.up.length
  ·rw[if_pos hd]
   have hd':((z.up.length:Nat):Int)+1>10:=by omega
   clear HP HM HG hd
   go_enter Tryz.func74,Tryz.ntmps74
   go_wp2
   go_end0
   exact ⟨rfl,World.cell?_setCell_same _ _ _ p3,(Below.refl B w).setCell (p:=⟨bb,3,none⟩) hB _⟩
  ·rw[if_neg hd]
   have hd':¬((z.up.length:Nat):Int)+1>10:=by omega
   by_cases hs:60≤z.c
   ·rw[if_pos hs]
    have HM':=Lib.hid (HM.out hs)
    clear HP HM HG hd hs
    go_enter Tryz.func74,Tryz.ntmps74
    go_wp2_with (go_at_call 127;refine HM'.out.mono ?_;rintro e w1 ⟨rfl,hw1,hw2⟩)
    go_end0
    exact ⟨rfl,hw1,hw2⟩
   ·rw[if_neg hs]
    have HG':=Lib.hid (HG.out (by omega))
    have HP':=Lib.hid (HP.out (by omega))
    have p3':(w.setCell ⟨bb,2,none⟩ (.int .i64 ((z.c:Int)+1))).cell? ⟨bb,3,none⟩=some (.int .i64 0):=by rw[World.cell?_setCell_other _ _ _ _ (by simp)];exact p3
    clear HP HM HG hd hs
    go_enter Tryz.func74,Tryz.ntmps74
    go_wp2_with (first
     | (go_at_call 127;refine HG'.out.mono ?_;rintro e w1 ⟨rfl,rfl⟩)
     | (go_at_call 128;refine (HP'.out _ rfl).mono ?_;rintro e w2 ⟨rfl,HO⟩))
    go_end0
    exact HO.out
end Go.Proofs.YthdkkpbhijlpaaaGreatDoor
