import Derived.Laws.IdiomStrings
import Derived.Deep.CutBlock
import Derived.Deep.LoopGhost
import Derived.Test.YthdkkpbhijlpaaaGreatDoorQ21
import Derived.Test.YthdkkpbhijlpaaaGreatDoorQ20
set_option linter.unusedVariables false
namespace Go.Proofs.YthdkkpbhijlpaaaGreatDoor
open Go.ChangeShapes Go.WideShapes Go.ChangeAt Go.RowKit Go.Deep
theorem BH.push {w w1:World} {bb:Nat} {F:Fo} {up:List Fr} {c:Nat} {v v0 pv:Value} {ps:List Value} {bF bl:List Nat} {hb ho gg cap:Nat} {xs:List Value} (h:BH w bb F up c v v0 pv ps bF bl) (hA:holdA bb ps=⟨hb,ho,none⟩)
 (hs:w.heap.size≤w1.heap.size) (hk:∀q,q<w.heap.size→v.ownBlock≠some q→w1.heap[q]?=w.heap[q]?)
 (hown:w1.ownsRow (bb+1) 56 6 (.slice (some ⟨gg,0,none⟩) (F.len+1) cap) (F.len+1) (xs++zeros6)) (hv:FoVals w xs F bF) (hat:v.ownBlock=some gg∨w.heap.size≤gg)
 (k sp:Int) (n t:ByteArray) (al:List (ByteArray × ByteArray)) (A:Option Addr) (ca:Nat) (ba:List Nat) (hz:n.size≤maxLen∧t.size≤maxLen) (ha:al.length≤ca∧al.length≤maxLen∧AlRow w A al ba) (hba:ba.Nodup) (hbl:∀q ∈ ba,bb<q∧q<w.heap.size∧¬FpI bb v pv bF bl q):
 ∃v0',BH ((six w1 gg (F.len*6) (.int .i64 k) (.int .i64 sp) (.string n) (.string t) (.slice A al.length ca) (.slice none 0 0)).setCell ⟨hb,ho,none⟩ (.slice (some ⟨gg,0,none⟩) (F.len+1) cap)) bb (F.app (.one k sp n t al .nil)) up c (.slice (some ⟨gg,0,none⟩) (F.len+1) cap) v0' pv ps (bF++ba) bl ∧
  (∀q,q<w.heap.size→v.ownBlock≠some q→q≠hb→((six w1 gg (F.len*6) (.int .i64 k) (.int .i64 sp) (.string n) (.string t) (.slice A al.length ca) (.slice none 0 0)).setCell ⟨hb,ho,none⟩ (.slice (some ⟨gg,0,none⟩) (F.len+1) cap)).heap[q]?=w.heap[q]?)∧(hb=bb∨hb ∈ bl) ∧
  ∀q,FpI bb (.slice (some ⟨gg,0,none⟩) (F.len+1) cap) pv (bF++ba) bl q→FpI bb v pv bF bl q∨q ∈ ba∨w.heap.size≤q:=by
 have hbb:bb<w.heap.size:=World.block_lt_of_cell? w ⟨bb,0,none⟩ (h.lay.1 0)
 have htl:=h.tr.lt
 have hplt:∀k ∈ ownL pv,bb+1≤k∧k<w.heap.size:=fun k hk=>World.ownsRow.lt h.op k (mem_ownL.1 hk)
 obtain ⟨hn1,hn2,hn3⟩:=List.nodup_append.1 h.tr.nd
 obtain ⟨hn4,hn5,hn6⟩:=List.nodup_append.1 hn1
 have hgl:bb+1≤gg∧gg<w1.heap.size:=World.ownsRow.lt hown gg rfl
 have hgo:∀q,q=gg→(q≠bb∧q ∉ bl∧q ∉ ownL pv)∧q ∉ bF∧q ∉ ba:=by
  intro q e
  subst e
  rcases hat with e | e
  ·have hm:=mem_ownL.2 e
   refine ⟨⟨by omega,fun hq=>hn3 q (by simp[hm]) q hq rfl,fun hq=>h.dis q hq (by simp[hm])⟩,fun hq=>hn6 q hm q hq rfl,fun hq=>(hbl q hq).2.2 (Or.inr (Or.inr (by simp[hm])))⟩
  ·refine ⟨⟨by omega,fun hq=>?_,fun hq=>?_⟩,fun hq=>?_,fun hq=>?_⟩
   ·have:=htl q (by simp[hq]);omega
   ·have:=hplt q hq;omega
   ·have:=htl q (by simp[hq]);omega
   ·have:=hbl q hq;omega
 have hsame:∀q ∈ bF++ba,(six w1 gg (F.len*6) (.int .i64 k) (.int .i64 sp) (.string n) (.string t) (.slice A al.length ca) (.slice none 0 0)).heap[q]?=w.heap[q]?:=fun q hq=>by
  have hne:q≠gg:=by
   rintro rfl
   rcases List.mem_append.1 hq with hq | hq
   ·exact (hgo q rfl).2.1 hq
   ·exact (hgo q rfl).2.2 hq
  rw[six_heap hne]
  rcases List.mem_append.1 hq with hq | hq
  ·exact hk q (htl q (by simp[hq])).2 fun e=>hn6 q (mem_ownL.2 e) q hq rfl
  ·exact hk q (hbl q hq).2.1 fun e=>(hbl q hq).2.2 (Or.inr (Or.inr (by simp[mem_ownL.2 e])))
 have hnd:(bF++ba).Nodup:=List.nodup_append.2 ⟨hn5,hba,fun a ha b hb e=>by subst e;exact (hbl a hb).2.2 (Or.inr (Or.inr (by simp[ha])))⟩
 have hltF:∀q ∈ bF++ba,bb+1≤q∧q<w.heap.size:=fun q hq=>by
  rcases List.mem_append.1 hq with hq | hq
  ·exact htl q (by simp[hq])
  ·have:=hbl q hq;omega
 have hG:GRow (six w1 gg (F.len*6) (.int .i64 k) (.int .i64 sp) (.string n) (.string t) (.slice A al.length ca) (.slice none 0 0)) (bb+1) (.slice (some ⟨gg,0,none⟩) (F.len+1) cap) (F.app (.one k sp n t al .nil)) (bF++ba):=by
  refine ⟨xs++[.int .i64 k,.int .i64 sp,.string n,.string t,.slice A al.length ca,.slice none 0 0],?_,?_,hnd,fun q hq=>⟨(hltF q hq).1,by rw[six_size];exact Nat.lt_of_lt_of_le (hltF q hq).2 hs⟩,fun q hq hm=>?_⟩
  ·rw[Fo.len_app]
   exact own_six hown hv.len _ _ _ _ _ _
  ·refine (hv.same fun q hq=>hsame q (by simp[hq])).app (S:=.one k sp n t al .nil) (b2:=ba) ⟨A,none,ca,0,ba,[],[],[],rfl,by simp,hz,⟨ha.1,ha.2.1,ha.2.2.same fun q hq=>hsame q (by simp[hq])⟩,⟨Nat.le_refl _,Nat.zero_le _,Or.inl ⟨rfl,rfl⟩⟩,rfl,rfl⟩
  ·injection hq with hq
   subst hq
   rcases List.mem_append.1 hm with hm | hm
   ·exact (hgo gg rfl).2.1 hm
   ·exact (hgo gg rfl).2.2 hm
 obtain ⟨v0',r1,r2,r3⟩:=h.put hA (by rw[six_size];exact hs) (fun q h1 h2=>by
  have hne:q≠gg:=by
   rintro rfl
   rcases hat with e | e
   ·exact h2 e
   ·omega
  rw[six_heap hne];exact hk q h1 h2) hG (by
   refine List.nodup_append.2 ⟨by simp[ownL,Value.ownBlock],hnd,fun a ha b hb e=>?_⟩
   subst e
   have:=mem_ownL.1 ha
   injection this with this
   rcases List.mem_append.1 hb with hb | hb
   ·exact (hgo a this.symm).2.1 hb
   ·exact (hgo a this.symm).2.2 hb) (fun q hq=>by
   rcases List.mem_append.1 hq with hq | hq
   ·have:=mem_ownL.1 hq
    injection this with this
    exact (hgo q this.symm).1
   ·rcases List.mem_append.1 hq with hq | hq
    ·exact ⟨by have:=htl q (by simp[hq]);omega,fun hm=>hn3 q (by simp[hq]) q hm rfl,fun hm=>h.dis q hm (by simp[hq])⟩
    ·have:=hbl q hq
     exact ⟨by omega,fun hm=>this.2.2 (Or.inr (Or.inr (by simp[hm]))),fun hm=>this.2.2 (Or.inr (Or.inl hm))⟩)
 refine ⟨v0',r1,r2,r3,fun q hq=>?_⟩
 rcases hq with hq | hq | hq
 ·exact Or.inl (Or.inl hq)
 ·exact Or.inl (Or.inr (Or.inl hq))
 ·simp only[List.mem_append]at hq
  rcases hq with (hq | hq | hq) | hq
  ·have hgq:gg=q:=by
    have:=mem_ownL.1 hq
    injection this
   subst hgq
   rcases hat with e | e
   ·exact Or.inl (Or.inr (Or.inr (by simp[mem_ownL.2 e])))
   ·exact Or.inr (Or.inr e)
  ·exact Or.inl (Or.inr (Or.inr (by simp[hq])))
  ·exact Or.inr (Or.inl hq)
  ·exact Or.inl (Or.inr (Or.inr (by simp[hq])))
end Go.Proofs.YthdkkpbhijlpaaaGreatDoor
namespace Go.Proofs.YthdkkpbhijlpaaaGreatDoor
open Go.ChangeShapes Go.WideShapes Go.ChangeAt Go.RowKit Go.Deep
theorem but_six {C:Nat→Prop} {a w:World} {g o:Nat} {x0 x1 x2 x3 x4 x5:Value} (h:But C a w) (hg:C g∨a.heap.size≤g):But C a (six w g o x0 x1 x2 x3 x4 x5):=
 (((((h.setCell (p:=⟨g,o,none⟩) hg x0).setCell (p:=⟨g,o+1,none⟩) hg x1).setCell (p:=⟨g,o+2,none⟩) hg x2).setCell (p:=⟨g,o+3,none⟩) hg x3).setCell (p:=⟨g,o+4,none⟩) hg x4).setCell (p:=⟨g,o+5,none⟩) hg x5
def NewAt (w:World) (bb:Nat) (F:Fo) (v:Value):Prop:=∃g cap,v=.slice (some ⟨g,0,none⟩) F.len cap∧0<F.len∧bb<g∧w.cell? ⟨g,(F.len-1)*6+5,none⟩=some (.slice none 0 0)
def MidI (bb:Nat) (F:Fo) (up:List Fr) (c:Nat) (pv:Value) (ps:List Value) (bl:List Nat) (fp:Nat→Prop) (ex:List Nat) (w wx:World):Prop:=
 ∃v v0 bF,BH wx bb F up c v v0 pv ps bF bl∧But fp w wx∧(∀q,FpI bb v pv bF bl q→fp q∨q ∈ ex∨w.heap.size≤q)∧NewAt wx bb F v
theorem add_mid {w wa w1 W1:World} {bb:Nat} {F:Fo} {up:List Fr} {c:Nat} {v v0 pv:Value} {ps:List Value} {bF bl:List Nat} {hb ho gg cap:Nat} {xs:List Value} (h:BH w bb F up c v v0 pv ps bF bl) (hA:holdA bb ps=⟨hb,ho,none⟩)
 (hwa:Below w.heap.size w wa) (hW1:Below wa.heap.size wa W1) (hgrow:W1.grownBy w1 v.ownBlock)
 (hown:w1.ownsRow (bb+1) 56 6 (.slice (some ⟨gg,0,none⟩) (F.len+1) cap) (F.len+1) (xs++zeros6)) (hv:FoVals w xs F bF) (hat:v.ownBlock=some gg∨w.heap.size≤gg)
 (k sp:Int) (n t:ByteArray) (al:List (ByteArray × ByteArray)) (A:Option Addr) (ca:Nat) (ba:List Nat) (hz:n.size≤maxLen∧t.size≤maxLen) (ha:al.length≤ca∧al.length≤maxLen∧AlRow w A al ba) (hba:ba.Nodup) (hbl:∀q ∈ ba,bb<q∧q<w.heap.size∧¬FpI bb v pv bF bl q):
 MidI bb (F.app (.one k sp n t al .nil)) up c pv ps bl (FpI bb v pv bF bl) ba w ((six w1 gg (F.len*6) (.int .i64 k) (.int .i64 sp) (.string n) (.string t) (.slice A al.length ca) (.slice none 0 0)).setCell ⟨hb,ho,none⟩ (.slice (some ⟨gg,0,none⟩) (F.len+1) cap)):=by
 have hlt:∀q,v.ownBlock=some q→q<w.heap.size:=fun q hq=>(h.tr.lt q (by simp[mem_ownL.2 hq])).2
 have s1:w.heap.size≤wa.heap.size:=hwa.size
 have s2:wa.heap.size≤W1.heap.size:=hW1.size
 have hB:But (FpI bb v pv bF bl) w w1:=by
  refine ⟨hgrow.os.trans (hW1.os.trans hwa.os),hgrow.tape.trans (hW1.tape.trans hwa.tape),hgrow.output.trans (hW1.output.trans hwa.output),Nat.le_trans s1 (Nat.le_trans s2 hgrow.size),fun q hq hC=>?_⟩
  rw[hgrow.block q (by omega) (fun e=>hC (Or.inr (Or.inr (by simp[mem_ownL.2 e.symm])))),hW1.block q (by omega),hwa.block q hq]
 obtain ⟨v0',r1,r2,r3,r4⟩:=h.push hA hB.size (fun q h1 h2=>by
  rw[hgrow.block q (by omega) (fun e=>h2 e.symm),hW1.block q (by omega),hwa.block q h1]) hown hv hat k sp n t al A ca ba hz ha hba hbl
 have hlen:(F.app (.one k sp n t al .nil)).len=F.len+1:=by rw[Fo.len_app];rfl
 have hgb:bb+1≤gg∧gg<w1.heap.size:=World.ownsRow.lt hown gg rfl
 have hne:hb≠gg:=by
  rintro rfl
  rcases r3 with e | e
  ·omega
  ·rcases hat with e' | e'
   ·exact (List.nodup_append.1 h.tr.nd).2.2 hb (by simp[mem_ownL.2 e']) hb e rfl
   ·have:=h.tr.lt hb (by simp[e]);omega
 have hc5:((six w1 gg (F.len*6) (.int .i64 k) (.int .i64 sp) (.string n) (.string t) (.slice A al.length ca) (.slice none 0 0)).setCell ⟨hb,ho,none⟩ (.slice (some ⟨gg,0,none⟩) (F.len+1) cap)).cell? ⟨gg,F.len*6+5,none⟩=some (.slice none 0 0):=by
  rw[oth0 hne,(own_six hown hv.len _ _ _ _ _ _).cellAt _ (by omega),List.getElem?_append_right (by rw[hv.len];omega),hv.len,Nat.add_sub_cancel_left]
  rfl
 refine ⟨_,v0',_,r1,(but_six hB ?_).setCell (p:=⟨hb,ho,none⟩) (Or.inl ?_) _,r4,⟨gg,cap,by rw[hlen],by rw[hlen];omega,by omega,by rw[hlen,Nat.add_sub_cancel];exact hc5⟩⟩
 ·rcases hat with e | e
  ·exact Or.inl (Or.inr (Or.inr (by simp[mem_ownL.2 e])))
  ·exact Or.inr e
 ·rcases r3 with e | e
  ·exact Or.inl e
  ·exact Or.inr (Or.inr (by simp[e]))
theorem BH.count {w:World} {bb:Nat} {F:Fo} {up:List Fr} {c:Nat} {v v0 pv:Value} {ps:List Value} {bF bl:List Nat} (h:BH w bb F up c v v0 pv ps bF bl) (c':Nat) (x:Int) (hx:x=(c':Int)):BH (w.setCell ⟨bb,2,none⟩ (.int .i64 x)) bb F up c' v v0 pv ps bF bl:=by
 subst hx
 have far:∀q,bb+1≤q→(w.setCell ⟨bb,2,none⟩ (.int .i64 (c':Int))).heap[q]?=w.heap[q]?:=fun q hq=>Below.heap_setCell w ⟨bb,2,none⟩ _ q (by rintro rfl;exact absurd hq (Nat.not_succ_le_self _))
 refine ⟨h.tr.same (by simp) fun q hq=>far q (h.tr.lt q hq).1,ownsRow_same h.op fun q hq=>far q (World.ownsRow.lt h.op q hq).1,h.dis,?_⟩
 have:=h.lay.set 2 (.int .i64 (c':Int))
 simpa using this
def AddI (bb:Nat) (fp:Nat→Prop) (ex:List Nat) (pv:Value) (ps:List Value) (r:Rs) (w:World) (e:Ending) (w':World):Prop:=
 match r with
 | .bad c=>e=.returned (.int .i64 c)∧Below bb w w'
 | .ok y=>e=.returned (.int .i64 0)∧But fp w w'∧∃v v0 bF bl,BI w' bb y v v0 pv ps bF bl∧(∀k,FpI bb v pv bF bl k→fp k∨k ∈ ex∨w.heap.size≤k)∧NewAt w' bb y.F v
theorem AddI.out {bb:Nat} {fp:Nat→Prop} {ex:List Nat} {pv:Value} {ps:List Value} {r:Rs} {w:World} {e:Ending} {w':World} (h:AddI bb fp ex pv ps r w e w'):OutI bb fp ex r w e w':=by
 cases r with
 | bad c=>exact h
 | ok y=>obtain ⟨h1,h2,v,v0,bF,bl,h3,h4,_⟩:=h;exact ⟨h1,h2,v,v0,pv,ps,bF,bl,h3,h4⟩
set_option maxHeartbeats 2000000 in
theorem add_good (bb:Nat) (z:Zi) (v v0 pv:Value) (ps:List Value) (bF bl:List Nat) (k sp:Int) (n t:ByteArray) (al:List (ByteArray × ByteArray)) (A:Option Addr) (ca:Nat) (ba:List Nat) (w:World) (y:Zi)
 (hn:n.size≤maxLen) (ht:t.size≤maxLen) (ha:al.length≤ca∧al.length≤maxLen∧AlRow w A al ba) (hba:ba.Nodup) (hbl:∀q ∈ ba,bb<q∧q<w.heap.size∧¬FpI bb v pv bF bl q)
 (h:BI w bb z v v0 pv ps bF bl) (hgood:z.add k sp n t al=.ok y):
 Calls Tryz.prog 111 #[.pointer (some ⟨bb,0,none⟩),.agg #[.int .i64 k,.int .i64 sp,.string n,.string t,.slice A al.length ca,.slice none 0 0]] w (AddI bb (FpI bb v pv bF bl) ba pv ps (.ok y) w):=by
 have hy:=hgood
 unfold Zi.add at hgood
 split at hgood
 ·cases hgood
 split at hgood
 ·cases hgood
 split at hgood
 ·cases hgood
 rename_i g1 g2 g3
 clear hgood
 have hlen:=h.len
 have hc60:=h.fit.2.1
 have h10:=h.fit.2.2.1
 obtain ⟨C,d,hpv⟩:∃(C:Option Addr) (d:Nat),pv=.slice C ps.length d:=by
  rcases h.op.2 with ⟨rfl,h0⟩ | ⟨g,cap,cur,rfl,_⟩
  ·exact ⟨_,_,by rw[h0]⟩
  ·exact ⟨_,_,rfl⟩
 obtain ⟨D,e,bs,hv,e4⟩:=h.tr.row.kids
 clear e4
 have p1:w.cell? ⟨bb,1,none⟩=some pv:=h.lay.1 1
 have p2:w.cell? ⟨bb,2,none⟩=some (.int .i64 (z.c:Int)):=h.lay.1 2
 have hbb:bb<w.heap.size:=World.block_lt_of_cell? w ⟨bb,1,none⟩ p1
 obtain ⟨hb,ho,hA,hW,hWb⟩:=h.held
 have q0:=hW.1
 have hhb:hb<w.heap.size:=hW.lt
 have hvb:∀q,(Value.slice D z.F.len e).ownBlock=some q→q≠hb∧q<w.heap.size∧bb<q:=fun q hq=>by
  rw[←hv]at hq
  have hm:=mem_ownL.2 hq
  have hl:=h.tr.lt q (by simp[hm])
  refine ⟨fun e=>?_,hl.2,by omega⟩
  subst e
  rcases hWb with e | e
  ·omega
  ·have:=(List.nodup_append.1 h.tr.nd).2.2 q (by simp[hm]) q e
   exact this rfl
 have B1:=Lib.hid ((Below.refl w.heap.size w).alloc (Nat.le_refl _) (.cells #[.int .i64 k,.int .i64 sp,.string n,.string t,.slice A al.length ca,.slice none 0 0] 56))
 have L1:=Lib.hid (Lay.new w #[.int .i64 k,.int .i64 sp,.string n,.string t,.slice A al.length ca,.slice none 0 0] 56)
 have HN:=Lib.hid (h.next B1.out)
 have HK:=Lib.hid (kids_any bb z v v0 pv ps bF bl _ HN.out)
 rw[hA]at HK
 have HH:=Lib.hid h
 have HY:=Lib.hid hy
 have HX:=Lib.hid (And.intro hWb (And.intro hW (And.intro ha (And.intro hba hbl))))
 have HPV:=Lib.hid hpv
 have HVV:=Lib.hid hv
 have HX0:=Lib.hid hA
 have HNT:=Lib.hid (And.intro hn ht)
 have HVB:=Lib.hid hvb
 obtain ⟨xs,hown⟩:∃xs,(w.alloc (.cells #[.int .i64 k,.int .i64 sp,.string n,.string t,.slice A al.length ca,.slice none 0 0] 56)).ownsRow (bb+1) 56 6 (.slice D z.F.len e) z.F.len xs∧FoVals w xs z.F bF:=by
  obtain ⟨xs,ho',hvv,_⟩:=h.tr.row
  exact ⟨xs,by rw[←hv];exact ho'.alloc _,hvv⟩
 have HO:=Lib.hid hown
 have hFl:z.F.len≤60:=by have:=h.fit.1;unfold cntZ at this;omega
 have hszw:=Lib.hid (show (w.alloc (.cells #[.int .i64 k,.int .i64 sp,.string n,.string t,.slice A al.length ca,.slice none 0 0] 56)).heap.size=w.heap.size+1 by simp)
 rw[hpv]at p1
 rw[hv]at q0
 unfold maxLen at ht hn
 clear h hy hWb hW hA ha hba hbl hpv hv hvb hown
 rw[hlen]at p1
 clear hlen
 go_enter Tryz.func111,Tryz.ntmps111
 go_upto_region 8 with (go_at_call 175;refine HK.out.mono ?_;rintro e w' ⟨rfl,rfl⟩)
 have qa:(w.alloc (.cells #[.int .i64 k,.int .i64 sp,.string n,.string t,.slice A al.length ca,.slice none 0 0] 56)).cell? ⟨hb,ho,none⟩=some (.slice D z.F.len e):=(B1.out.cell (p:=⟨hb,ho,none⟩) hhb).trans q0
 have pa:(w.alloc (.cells #[.int .i64 k,.int .i64 sp,.string n,.string t,.slice A al.length ca,.slice none 0 0] 56)).cell? ⟨bb,2,none⟩=some (.int .i64 (z.c:Int)):=(B1.out.cell (p:=⟨bb,2,none⟩) hbb).trans p2
 generalize (w.alloc (.cells #[.int .i64 k,.int .i64 sp,.string n,.string t,.slice A al.length ca,.slice none 0 0] 56))=wa at HN HK HO B1 L1 hszw qa pa ⊢
 have hsz1:w.heap.size<wa.heap.size:=by have:=hszw.out;omega
 go_cut [32] from 26 to 34 (fun s wx=>MidI bb (z.F.app (.one k sp n t al .nil)) z.up z.c pv ps bl (FpI bb v pv bF bl) ba w wx)
 case first=>
  obtain ⟨b0,b1',b2,b3,b4,b5⟩:=lay6 L1.out
  obtain ⟨i0,hi0,hz0,hz1,hz2⟩:=info_of infoNode
  have HZ:=Lib.hid (And.intro hz0 (And.intro hz1 hz2))
  clear hz0 hz1 hz2
  have hnv:=World.new_ne wa ⟨hb,ho,none⟩ qa
  have hnb:=World.new_ne wa ⟨w.heap.size,0,none⟩ b0
  have qb:=(World.cell?_of_block (w:=wa) (a:=⟨hb,ho,none⟩) (w':=wa.alloc (.cells #[.int .i64 0,.int .i64 0,.string ⟨#[]⟩,.string ⟨#[]⟩,.slice none 0 0,.slice none 0 0] 56)) (Below.heap_alloc wa _ hb (by omega))).trans qa
  have hix:((z.F.len:Nat):Int)<((z.F.len:Nat):Int)+1:=by omega
  have hxl:xs.length=z.F.len*6:=HO.out.2.len
  have HF:Hid (wa.frozen? ⟨hb,ho,none⟩=false):=Lib.hid (by rw[B1.out.frozen (p:=⟨hb,ho,none⟩) hhb];exact HX.out.2.1.2)
  go_region_law ((refine step_append_lies _ (by rfl) _ _ _ (by rfl) (bb+1) 56 i0 _ 6 96 Tryz.underlying24 hi0 HZ.out.1 HZ.out.2.1 HZ.out.2.2 rfl (by omega) (.slice D z.F.len e) z.F.len xs (by rfl) (HO.out.1.alloc _) ⟨wa.heap.size,0,none⟩ 1 1 [.int .i64 0,.int .i64 0,.string ⟨#[]⟩,.string ⟨#[]⟩,.slice none 0 0,.slice none 0 0] (by rfl) (by rfl) (World.news_of_block (cs:=#[.int .i64 0,.int .i64 0,.string ⟨#[]⟩,.string ⟨#[]⟩,.slice none 0 0,.slice none 0 0]) (t:=56) (fr:=(0,0)) (heap_alloc_new wa _)) (by simp[Value.oneCell']) (by omega) (by unfold maxLen;omega) (by omega) (by simp;omega) (wa.heap.size+1) (by simp) ?_;intro gg cap w1 hown1 hgrow hat hlt;have G:hb≠gg∧gg≠hb:=(by rcases hat with e | e;(have:=(HVB.out gg e).1;exact ⟨fun h=>this h.symm,this⟩);omega);have G1:=G.1;have G2:=G.2;have hbk:w1.heap[hb]?=wa.heap[hb]?:=(hgrow.block hb (by simp;omega) (fun h=>(HVB.out hb h.symm).1 rfl)).trans (Below.heap_alloc wa _ hb (by omega));have r0:=(World.cell?_of_block (w:=wa) (a:=⟨hb,ho,none⟩) hbk).trans qa;have r1:=(World.frozen?_of_block (w:=wa) (a:=⟨hb,ho,none⟩) hbk).trans HF.out;have hz:∀j u,j<6→([.int .i64 0,.int .i64 0,.string ⟨#[]⟩,.string ⟨#[]⟩,.slice none 0 0,.slice none 0 0]:List Value)[j]?=some u→w1.cell? ⟨gg,z.F.len*6+j,none⟩=some u:=(fun j u hj hu=>by rw[hown1.cellAt _ (by omega),List.getElem?_append_right (by omega),hxl,Nat.add_sub_cancel_left];exact hu);have z0:w1.cell? ⟨gg,z.F.len*6,none⟩=some (.int .i64 0):=hz 0 _ (by omega) rfl;have z1:=hz 1 _ (by omega) rfl;have z2:=hz 2 _ (by omega) rfl;have z3:=hz 3 _ (by omega) rfl;have z4:=hz 4 _ (by omega) rfl;have z5:=hz 5 _ (by omega) rfl;have zf:=hown1.frozenAt;have HW1:=Lib.hid (And.intro hown1 (And.intro hgrow (And.intro hat (And.intro hlt hbk))));clear hz hown1 hgrow hat hlt hbk G))
  all_goals
   clear z0 z1 z2 z3 z4 z5 zf r0 r1 b0 b1' b2 b3 b4 b5 qa qb pa p1 p2 q0
   go_wp2
   go_meet
   have hm:=add_mid HH.out.toBH HX0.out B1.out (((Below.refl wa.heap.size wa).drew).alloc (Nat.le_refl _) (.cells #[.int .i64 0,.int .i64 0,.string ⟨#[]⟩,.string ⟨#[]⟩,.slice none 0 0,.slice none 0 0] 56)) (by rw[HVV.out];exact HW1.out.2.1) HW1.out.1 HO.out.2 (by rw[HVV.out];exact HW1.out.2.2.1.imp id fun h=>by have:=hszw.out;omega) k sp n t al A ca ba HNT.out HX.out.2.2.1 HX.out.2.2.2.1 HX.out.2.2.2.2
   first
    | (unfold six at hm;with_reducible exact hm)
    | (rw[←six_comm _ _ _ _ _ _ _ _ _ _ _ _ G1]at hm;unfold six at hm;with_reducible exact hm)
 case rest=>
  obtain ⟨v',v0',bF',r1,r2,r3,r4⟩:=hcut
  have c2:_=some (Value.int .i64 (z.c:Int)):=r1.lay.1 2
  have f2:=r1.lay.2 2
  have R:=Lib.hid (And.intro r1 (And.intro r2 (And.intro r3 r4)))
  clear r1 r2 r3 r4 qa pa p1 p2 q0
  go_wp2
  go_ret
  have hye:y=⟨z.F.app (.one k sp n t al .nil),z.up,z.c+1⟩:=by
   have:=HY.out
   unfold Zi.add at this
   rw[if_neg (by omega),if_neg (by omega),if_neg (by omega)]at this
   injection this with this
   exact this.symm
  have hfit:=Zi.fit_add HH.out.fit HY.out
  subst hye
  have hb:=R.out.1.count (z.c+1) ((z.c:Int)+1) (by simp)
  refine ⟨rfl,R.out.2.1.setCell (p:=⟨bb,2,none⟩) (Or.inl (Or.inl rfl)) _,v',v0',bF',bl,⟨hb.tr,hb.op,hb.dis,hb.lay,hfit⟩,R.out.2.2.1,by
   obtain ⟨g,cap,e1,e2,e3,e4⟩:=R.out.2.2.2
   exact ⟨g,cap,e1,e2,e3,by rw[oth0 (Nat.ne_of_lt e3)];exact e4⟩⟩
end Go.Proofs.YthdkkpbhijlpaaaGreatDoor
namespace Go.Proofs.YthdkkpbhijlpaaaGreatDoor
open Go.ChangeShapes Go.WideShapes Go.ChangeAt Go.RowKit Go.Deep
theorem OutI.ret {bb:Nat} {fp:Nat→Prop} {ex:List Nat} {r:Rs} {w:World} {e:Ending} {w':World} (h:OutI bb fp ex r w e w'):∃c:Int,e=.returned (.int .i64 c)∧Hid (OutI bb fp ex r w (.returned (.int .i64 c)) w'):=by
 cases r with
 | bad c=>exact ⟨c,h.1,Lib.hid ⟨rfl,h.2⟩⟩
 | ok y=>exact ⟨0,h.1,Lib.hid ⟨rfl,h.2⟩⟩
theorem add_full (bb:Nat) (z:Zi) (v v0 pv:Value) (ps:List Value) (bF bl:List Nat) (k sp:Int) (n t:ByteArray) (al:List (ByteArray × ByteArray)) (A:Option Addr) (ca:Nat) (ba:List Nat) (w:World)
 (hn:n.size≤maxLen) (ht:t.size≤maxLen) (ha:al.length≤ca∧al.length≤maxLen∧AlRow w A al ba) (hba:ba.Nodup) (hbl:∀q ∈ ba,bb<q∧q<w.heap.size∧¬FpI bb v pv bF bl q) (h:BI w bb z v v0 pv ps bF bl):
 Calls Tryz.prog 111 #[.pointer (some ⟨bb,0,none⟩),.agg #[.int .i64 k,.int .i64 sp,.string n,.string t,.slice A al.length ca,.slice none 0 0]] w (AddI bb (FpI bb v pv bF bl) ba pv ps (z.add k sp n t al) w):=by
 cases hr:z.add k sp n t al with
 | bad c=>exact (add_bad bb z v v0 pv ps bF bl k sp n t al A ca w c ht h hr).mono fun e w' ⟨h1,h2⟩=>⟨h1,h2.mono (Nat.le_of_lt (h.lt bb (Or.inl rfl)).2)⟩
 | ok y=>exact add_good bb z v v0 pv ps bF bl k sp n t al A ca ba w y hn ht ha hba hbl h hr
theorem add_any (bb:Nat) (z:Zi) (v v0 pv:Value) (ps:List Value) (bF bl:List Nat) (k sp:Int) (n t:ByteArray) (al:List (ByteArray × ByteArray)) (A:Option Addr) (ca:Nat) (ba:List Nat) (w:World)
 (hn:n.size≤maxLen) (ht:t.size≤maxLen) (ha:al.length≤ca∧al.length≤maxLen∧AlRow w A al ba) (hba:ba.Nodup) (hbl:∀q ∈ ba,bb<q∧q<w.heap.size∧¬FpI bb v pv bF bl q) (h:BI w bb z v v0 pv ps bF bl):
 Calls Tryz.prog 111 #[.pointer (some ⟨bb,0,none⟩),.agg #[.int .i64 k,.int .i64 sp,.string n,.string t,.slice A al.length ca,.slice none 0 0]] w (OutI bb (FpI bb v pv bF bl) ba (z.add k sp n t al) w):=
 (add_full bb z v v0 pv ps bF bl k sp n t al A ca ba w hn ht ha hba hbl h).mono fun _ _ h=>h.out
theorem add_plain (bb:Nat) (z:Zi) (v v0 pv:Value) (ps:List Value) (bF bl:List Nat) (k:Int) (t:ByteArray) (w:World) (ht:t.size≤maxLen) (h:BI w bb z v v0 pv ps bF bl):
 Calls Tryz.prog 111 #[.pointer (some ⟨bb,0,none⟩),.agg #[.int .i64 k,.int .i64 0,.string ⟨#[]⟩,.string t,.slice none 0 0,.slice none 0 0]] w (OutI bb (FpI bb v pv bF bl) [] (z.add k 0 ⟨#[]⟩ t []) w):=
 add_any bb z v v0 pv ps bF bl k 0 ⟨#[]⟩ t [] none 0 [] w (Nat.zero_le _) ht ⟨Nat.le_refl _,Nat.zero_le _,Or.inl ⟨rfl,rfl⟩⟩ List.nodup_nil (by simp) h
theorem BI.text {w:World} {bb:Nat} {z:Zi} {v v0 pv:Value} {ps:List Value} {bF bl:List Nat} (h:BI w bb z v v0 pv ps bF bl) {P:Fo} {k sp:Int} {n t:ByteArray} {al:List (ByteArray × ByteArray)} {kids:Fo} (hF:z.F=P.app (.one k sp n t al kids)):
 ∃g cap,v=.slice (some ⟨g,0,none⟩) (P.len+1) cap∧w.cell? ⟨g,P.len*6,none⟩=some (.int .i64 k)∧w.cell? ⟨g,P.len*6+3,none⟩=some (.string t)∧w.frozen? ⟨g,P.len*6+3,none⟩=false ∧
  ∀(u:ByteArray) (y:Zi),t.size+u.size≤maxLen→y=⟨z.F.addText u,z.up,z.c⟩→y.fit→BI (w.setCell ⟨g,P.len*6+3,none⟩ (.string (t++u))) bb y v v0 pv ps bF bl∧But (FpI bb v pv bF bl) w (w.setCell ⟨g,P.len*6+3,none⟩ (.string (t++u))):=by
 obtain ⟨hT,hop,hdis,hlay,hfit⟩:=h
 have hrow:=hT.row
 rw[hF]at hrow
 obtain ⟨g,cap,e1,_,_,_,e5,e6,e7⟩:=hrow.last
 refine ⟨g,cap,e1,e5.1,e6.1,e6.2,fun u y hu hy hyf=>?_⟩
 have hm:g ∈ ownL v:=mem_ownL.2 (by rw[e1];rfl)
 have hltg:=hT.lt g (by simp[hm])
 have far:∀q,q≠g→(w.setCell ⟨g,P.len*6+3,none⟩ (.string (t++u))).heap[q]?=w.heap[q]?:=fun q hq=>Below.heap_setCell w ⟨g,P.len*6+3,none⟩ _ q (by rintro rfl;exact hq rfl)
 obtain ⟨hn1,hn2,hn3⟩:=List.nodup_append.1 hT.nd
 have e8:=e7 u (by rw[ByteArray.size_append];exact hu)
 subst hy
 refine ⟨⟨⟨by rw[hF,Fo.addText_snoc];exact e8,hT.up.same (by simp) fun q hq=>far q (by rintro rfl;exact hn3 q (by simp[hm]) q hq rfl),hT.nd⟩,ownsRow_same hop fun q hq=>far q (by rintro rfl;exact hdis q (mem_ownL.2 hq) (by simp[hm])),hdis,lay_same hlay (far bb (by omega)),hyf⟩,?_⟩
 exact (But.refl _ w).setCell (p:=⟨g,P.len*6+3,none⟩) (Or.inl (Or.inr (Or.inr (by simp[hm])))) _
theorem words_nil {z:Zi} (h:z.F.last=none) (t:ByteArray):z.words t=z.add 2 0 ⟨#[]⟩ t []:=by unfold Zi.words;rw[h]
theorem words_other {z:Zi} {k:Int} {t':ByteArray} (h:z.F.last=some (k,t')) (hk:k≠2) (t:ByteArray):z.words t=z.add 2 0 ⟨#[]⟩ t []:=by unfold Zi.words;rw[h];simp only;rw[if_neg hk]
theorem words_text {z:Zi} {t':ByteArray} (h:z.F.last=some (2,t')) (t:ByteArray):z.words t=if 120<t'.size+t.size then .bad 8 else .ok ⟨z.F.addText t,z.up,z.c⟩:=by unfold Zi.words;rw[h];simp
set_option maxHeartbeats 1000000 in
theorem addWords_any (bb:Nat) (z:Zi) (v v0 pv:Value) (ps:List Value) (bF bl:List Nat) (t:ByteArray) (w:World) (ht:t.size≤65536) (h:BI w bb z v v0 pv ps bF bl):
 Calls Tryz.prog 110 #[.pointer (some ⟨bb,0,none⟩),.string t] w (OutI bb (FpI bb v pv bF bl) [] (z.words t) w):=by
 have hbb:=(h.lt bb (Or.inl rfl)).2
 have HA:=Lib.hid (add_plain bb z v v0 pv ps bF bl 2 t w (by unfold maxLen;omega) h)
 have HADD:Hid (∀W,w=W→Calls Tryz.prog 111 #[.pointer (some ⟨bb,0,none⟩),.agg #[.int .i64 2,.int .i64 0,.string ⟨#[]⟩,.string t,.slice none 0 0,.slice none 0 0]] W fun e w'=>∃c:Int,e=.returned (.int .i64 c)∧Hid (OutI bb (FpI bb v pv bF bl) [] (z.add 2 0 ⟨#[]⟩ t []) w (.returned (.int .i64 c)) w')):=Lib.hid fun W e=>by subst e;exact HA.out.mono fun e w' hO=>hO.ret
 rcases Fo.snoc_or z.F with hF | ⟨P,k,sp,n,t',al,kids,hF⟩
 ·have HL:=Lib.hid (last_nil bb z v v0 pv ps bF bl w h hF)
  rw[words_nil (by rw[hF];rfl)]
  clear h hF HA
  go_enter Tryz.func110,Tryz.ntmps110
  go_wp2_with (first
   | (go_at_call 174;refine HL.out.mono ?_;rintro e w' ⟨rfl,rfl⟩)
   | (go_at_call 111;refine (HADD.out _ rfl).mono ?_;rintro e w1 ⟨c,rfl,HO⟩))
  go_ret
  exact HO.out
 ·have hl:z.F.last=some (k,t'):=by rw[hF,Fo.last_snoc]
  obtain ⟨g,cap,e1,e2,e3,e4,e5⟩:=h.text hF
  have hP:P.len+1≤60:=by have:=h.fit.1;have h2:=h.fit.2.1;unfold cntZ at this;rw[hF,Fo.len_app]at this;simp only[Fo.one,Fo.len]at this;omega
  have HL:Hid (Calls Tryz.prog 174 #[.pointer (some ⟨bb,0,none⟩)] w fun e w'=>e=.returned (.pointer (some ⟨g,P.len*6,none⟩))∧w=w'):=Lib.hid (by
   subst e1
   have:=last_some bb z v0 pv ps bF bl g (P.len+1) cap w h (by omega) (by omega)
   rw[Nat.add_sub_cancel]at this
   exact this)
  have ht':=h.fit.2.2.2 _ hl
  simp only at ht'
  by_cases hk:k=2
  ·subst hk
   rw[words_text hl]
   by_cases hs:120<t'.size+t.size
   ·rw[if_pos hs]
    have hs':((t'.size:Nat):Int)+(t.size:Int)>120:=by omega
    have HE:Hid (z.F.last=some (2,t')):=Lib.hid hl
    clear h hF HA e5 hl
    go_enter Tryz.func110,Tryz.ntmps110
    go_wp2_with (go_at_call 174;refine HL.out.mono ?_;rintro e w' ⟨rfl,rfl⟩)
    go_ret
    exact ⟨rfl,Below.refl _ _⟩
   ·rw[if_neg hs]
    have hs':¬((t'.size:Nat):Int)+(t.size:Int)>120:=by omega
    have HR:=Lib.hid (e5 t ⟨z.F.addText t,z.up,z.c⟩ (by unfold maxLen;omega) rfl (Zi.fit_words h.fit (by rw[words_text hl,if_neg hs])))
    obtain ⟨L,⟨eL,gL⟩,aL⟩:∃L:ByteArray,(L=t'++t∧True)∧∀W,(Op.stringOp .add t' t).run Tryz.prog W=.ok (.string L) W:=⟨t'++t,⟨rfl,trivial⟩,fun W=>run_string_add_sum W _ _ (by omega)⟩
    have EL:=Lib.hid eL
    clear h hF HA e5 hl hs eL gL
    go_enter Tryz.func110,Tryz.ntmps110
    go_wp2_with (go_at_call 174;refine HL.out.mono ?_;rintro e w' ⟨rfl,rfl⟩)
    go_ret
    have hr:=HR.out
    rw[←EL.out]at hr
    exact ⟨rfl,hr.2,v,v0,pv,ps,bF,bl,hr.1,fun q hq=>Or.inl hq⟩
  ·rw[words_other hl hk]
   have hk':(k != 2)=true:=by simpa using hk
   clear h hF HA e5 hl hk
   go_enter Tryz.func110,Tryz.ntmps110
   go_wp2_with (first
    | (go_at_call 174;refine HL.out.mono ?_;rintro e w' ⟨rfl,rfl⟩)
    | (go_at_call 111;refine (HADD.out _ rfl).mono ?_;rintro e w1 ⟨c,rfl,HO⟩))
   go_ret
   exact HO.out
end Go.Proofs.YthdkkpbhijlpaaaGreatDoor
namespace Go.Proofs.YthdkkpbhijlpaaaGreatDoor
open Go.ChangeShapes Go.WideShapes Go.ChangeAt Go.RowKit Go.Deep
theorem isTop_at {l:List (ByteArray × Int)} {k:Nat} (s:List UInt8) (h0:0<k) (hk:k≤l.length):isTop l k s=(l[k-1].1.toList==s&&l[k-1].2==0):=by
 unfold isTop;rw[topOf_take h0 hk]
theorem isTop_zero {l:List (ByteArray × Int)} {s:List UInt8} (hs:s≠[]):isTop l 0 s=false:=by
 cases h:isTop l 0 s with
 | false=>rfl
 | true=>exact absurd (isTop_pos hs h) (Nat.lt_irrefl _)
theorem leftOf_out {l:List (ByteArray × Int)} {n:ByteArray} (h:left1 l n=0∨∃(h0:0<left1 l n),(l[left1 l n-1]'(by have:=left1_le l n;omega)).2≠0):leftOf l n=left1 l n:=by
 have hle:=left1_le l n
 have key:∀s:List UInt8,s≠[]→isTop l (left1 l n) s=false:=fun s hs=>by
  rcases h with h | ⟨h0,h⟩
  ·rw[h];exact isTop_zero hs
  ·rw[isTop_at s h0 hle];simp[h]
 have h2:left2 l n=left1 l n:=by unfold left2;rw[key _ (by decide)];rfl
 unfold leftOf
 rw[h2,key _ (by decide)];rfl
set_option maxHeartbeats 2000000 in
set_option maxRecDepth 100000 in
theorem l05Implied_any (l:List (ByteArray × Int)) (n:ByteArray) (w:World) (A:Option Addr) (c b o:Nat) (hl:OsIn w A b o l):
 Calls Tryz.prog 129 #[.slice A l.length c,.string n] w fun e w'=>e=.returned (.int .i64 ((l.length:Int)-(leftOf l n:Nat)))∧Below w.heap.size w w':=by
 have hml:=hl.1.1
 unfold maxLen at hml
 have HL:=Lib.hid hl
 obtain ⟨bo,hbo⟩:∃bo,inL outL n=bo:=⟨_,rfl⟩
 have HBO:=Lib.hid hbo
 clear hl hbo
 go_enter Tryz.func129,Tryz.ntmps129
 go_upto_block 0 with fail
 go_cut [6] (fun s6 wx=>s6=.int .i64 ((left1 l n:Nat):Int)∧Below w.heap.size w wx)
 case first=>
  cases bo
  case false=>
   have HK:Hid (left1 l n=l.length):=Lib.hid (if_neg (by rw[HBO.out];decide))
   go_wp2_with fail
   go_loopw [6] (fun s6 wr=>s6=.int .i64 (l.length:Int)∧wr=w) (fun s6 wr=>0)
   case atStart=>exact ⟨rfl,rfl⟩
   case round=>
    obtain ⟨rfl,rfl⟩:=hrel
    by_cases h0:0<l.length
    ·obtain ⟨rfl,hlt,t1,t2,t3⟩:=HL.out.get (l.length-1) (by omega)
     have hq:((l.length:Int)-1).toNat=l.length-1:=by omega
     generalize l[l.length-1].2=z at t2
     by_cases hz:z=0
     ·subst hz
      go_wp2_with (go_at_call 193;refine (l01Out_any n _).mono ?_;rintro e w2 ⟨rfl,hB⟩;rw[HBO.out];have B2:=Lib.hid hB;clear hB)
      go_meet
      exact ⟨by rw[HK.out],Below.refl _ _⟩
     ·have hz1:(z != 0)=true:=by simpa using hz
      go_wp2_with (go_at_call 193;refine (l01Out_any n _).mono ?_;rintro e w2 ⟨rfl,hB⟩;rw[HBO.out];have B2:=Lib.hid hB;clear hB)
      go_meet
      exact ⟨by rw[HK.out],B2.out⟩
    ·go_wp2
     go_meet
     exact ⟨by rw[HK.out],Below.refl _ _⟩
  case true=>
   have HK:Hid (left1 l n=cutOf htmlB l):=Lib.hid (if_pos HBO.out)
   go_wp2_with fail
   go_loopw [6] (fun s6 wr=>∃k:Nat,s6=.int .i64 (k:Int)∧k≤l.length∧Hid (cutTo htmlB l k=cutOf htmlB l∧Below w.heap.size w wr)) (fun s6 wr=>(intOf s6).toNat)
   case atStart=>exact ⟨l.length,rfl,Nat.le_refl _,Lib.hid ⟨rfl,Below.refl _ _⟩⟩
   case round=>
    obtain ⟨k,rfl,hk,HH⟩:=hrel
    by_cases h0:0<k
    ·obtain ⟨rfl,hlt,t1,t2,t3⟩:=(HL.out.next HH.out.2).get (k-1) (by omega)
     have hq:((k:Int)-1).toNat=k-1:=by omega
     have HT:Hid (l[k-1].2=0→k=cutOf htmlB l):=Lib.hid fun h=>by
      have h2:=cutTo_yes (p:=htmlB) (l:=l) (k:=k-1) (by omega) (by simp[htmlB,h])
      rw[show k-1+1=k by omega]at h2
      exact h2.symm.trans HH.out.1
     have HF:Hid (l[k-1].2≠0→cutTo htmlB l (k-1)=cutOf htmlB l):=Lib.hid fun h=>by
      have h2:=cutTo_no (p:=htmlB) (l:=l) (k:=k-1) (by omega) (by simpa[htmlB]using h)
      rw[show k-1+1=k by omega]at h2
      exact h2.symm.trans HH.out.1
     generalize l[k-1].2=z at t2 HT HF
     by_cases hz:z=0
     ·subst hz
      have HT':=Lib.hid (HT.out rfl)
      go_wp2_with (go_at_call 193;refine (l01Out_any n _).mono ?_;rintro e w2 ⟨rfl,hB⟩;rw[HBO.out];have B2:=Lib.hid hB;clear hB)
      go_meet
      exact ⟨by rw[HK.out,←HT'.out],HH.out.2⟩
     ·have hz1:(z != 0)=true:=by simpa using hz
      have HF':=Lib.hid (HF.out hz)
      go_wp2_with (go_at_call 193;refine (l01Out_any n _).mono ?_;rintro e w2 ⟨rfl,hB⟩;rw[HBO.out];have B2:=Lib.hid hB;clear hB)
      go_roundw
      case rel=>exact ⟨k-1,by rw[show (((k-1:Nat):Nat):Int)=(k:Int)-1 by omega],by omega,Lib.hid ⟨HF'.out,HH.out.2.trans (B2.out.mono HH.out.2.size)⟩⟩
      case measure=>(simp[intOf] <;> omega)
    ·obtain rfl:k=0:=by omega
     go_wp2
     go_meet
     exact ⟨by rw[HK.out,←HH.out.1];rfl,HH.out.2⟩
 case rest=>
  obtain ⟨rfl,hB⟩:=hcut
  have HB1:=Lib.hid hB
  have hkl:=left1_le l n
  clear hB
  by_cases h0:0<left1 l n
  ·obtain ⟨rfl,hlt,t1,t2,t3⟩:=(HL.out.next HB1.out).get (left1 l n-1) (by omega)
   have hq:((left1 l n:Int)-1).toNat=left1 l n-1:=by omega
   obtain ⟨z,hz0⟩:∃z,l[left1 l n-1].2=z:=⟨_,rfl⟩
   obtain ⟨nm,hnm⟩:∃nm,l[left1 l n-1].1=nm:=⟨_,rfl⟩
   by_cases hz:z=0
   ·subst hz
    obtain ⟨bp,hbp⟩:∃bp:Bool,(nm.toList==[112])=bp:=⟨_,rfl⟩
    obtain ⟨be,hbe⟩:∃be:Bool,inL endsL n=be:=⟨_,rfl⟩
    have HK:Hid (left2 l n=if (bp&&be)=true then left1 l n-1 else left1 l n):=Lib.hid (by unfold left2;rw[isTop_at _ h0 hkl,hz0,hnm,hbp,hbe];simp)
    have HBP:=Lib.hid hbp
    have HBE:=Lib.hid hbe
    rw[hz0]at t2
    rw[hnm]at t1
    clear hz0 hnm hbp hbe t3
    go_upto_region 7 with fail
    go_cut [56] (fun s wx=>s=.bool (bp&&be)∧Below w.heap.size w wx)
    case first=>
     cases bp
     case false=>
      have HBp:=HBP.out
      go_wp2
      go_meet
      exact ⟨rfl,HB1.out⟩
     case true=>
      have HBp:=HBP.out
      go_wp2_with (go_at_call 70;refine (l01Has_any endsL _ 0 _ _ (by decide) (fun k h=>cells_of endsL _ _ k h)).mono ?_;rintro e w' ⟨rfl,rfl⟩;rw[HBE.out])
      go_meet
      exact ⟨rfl,HB1.out.alloc HB1.out.size _⟩
    case rest=>
     obtain ⟨rfl,hB⟩:=hcut
     have HB2:=Lib.hid hB
     obtain ⟨bb,hbb⟩:∃bb,(bp&&be)=bb:=⟨_,rfl⟩
     have HK2:Hid (left2 l n=if bb=true then left1 l n-1 else left1 l n):=Lib.hid (by rw[←hbb];exact HK.out)
     rw[hbb]
     clear hbb hB HK HBP HBE t1 t2 hq HB1
     go_upto_if 56 with fail
     go_cut [6] (fun s wx=>s=.int .i64 ((left2 l n:Nat):Int)∧Below w.heap.size w wx)
     case first=>
      cases bb
      case true=>
       have HK3:Hid (((left2 l n:Nat):Int)=(left1 l n:Int)-1):=Lib.hid (by rw[HK2.out,if_pos rfl];omega)
       go_wp2
       go_meet
       exact ⟨by rw[HK3.out],HB2.out⟩
      case false=>
       have HK3:Hid (left2 l n=left1 l n):=Lib.hid (by rw[HK2.out,if_neg (by decide)])
       go_wp2
       go_meet
       exact ⟨by rw[HK3.out],HB2.out⟩
     case rest=>
      obtain ⟨rfl,hB⟩:=hcut
      clear HB2 HK2
      have HB1:=Lib.hid hB
      have hkl2:=left2_le l n
      clear hB
      obtain ⟨be,hbe⟩:∃be:Bool,(n.toList==[108,105])=be:=⟨_,rfl⟩
      have HBE:=Lib.hid hbe
      clear hbe
      go_upto_region 9 with fail
      go_cut [82] (fun s wx=>s=.bool (isTop l (left2 l n) [108,105]&&be)∧wx=wc)
      case first=>
       have HBe:=HBE.out
       by_cases h0:0<left2 l n
       ·obtain ⟨hAA,hlt,t1,t2,t3⟩:=(HL.out.next HB1.out).get (left2 l n-1) (by omega)
        have hq:((left2 l n:Int)-1).toNat=left2 l n-1:=by omega
        obtain ⟨z,hz0⟩:∃z,l[left2 l n-1].2=z:=⟨_,rfl⟩
        obtain ⟨nm,hnm⟩:∃nm,l[left2 l n-1].1=nm:=⟨_,rfl⟩
        obtain ⟨bp,hbp⟩:∃bp:Bool,(nm.toList==[108,105])=bp:=⟨_,rfl⟩
        have HI:Hid (isTop l (left2 l n) [108,105]=(bp&&z==0)):=Lib.hid (by rw[isTop_at _ h0 hkl2,hz0,hnm,hbp])
        rw[hz0]at t2
        rw[hnm]at t1
        clear hz0 hnm t3 hAA
        have hzb:∃bz:Bool,(z==0)=bz:=⟨_,rfl⟩
        obtain ⟨bz,hbz⟩:=hzb
        have HI2:Hid (isTop l (left2 l n) [108,105]=(bp&&bz)):=Lib.hid (by rw[HI.out,hbz])
        cases bz <;> cases bp <;> cases be
        all_goals (
         go_wp2
         go_meet
         exact ⟨by rw[HI2.out];rfl,rfl⟩)
       ·have HI2:Hid (isTop l (left2 l n) [108,105]=false):=Lib.hid (by rw[show left2 l n=0 by omega];exact isTop_zero (by decide))
        go_wp2
        go_meet
        exact ⟨by rw[HI2.out];rfl,rfl⟩
      case rest=>
       obtain ⟨rfl,rfl⟩:=hcut
       obtain ⟨bb,hbb⟩:∃bb,(isTop l (left2 l n) [108,105]&&be)=bb:=⟨_,rfl⟩
       have HO:Hid (leftOf l n=if bb=true then left2 l n-1 else left2 l n):=Lib.hid (by unfold leftOf;rw[HBE.out,hbb])
       have h0:bb=true→0<left2 l n:=fun h=>isTop_pos (s:=[108,105]) (by decide) (by rw[h]at hbb;cases h3:isTop l (left2 l n) [108,105] <;> simp_all)
       rw[hbb]
       clear hbb
       cases bb
       case true=>
        have h1:=h0 rfl
        have HO2:Hid (((leftOf l n:Nat):Int)=(left2 l n:Int)-1):=Lib.hid (by rw[HO.out,if_pos rfl];omega)
        clear h0
        go_wp2
        go_ret
        exact ⟨ret_int (by rw[HO2.out]),HB1.out⟩
       case false=>
        have HO2:Hid (leftOf l n=left2 l n):=Lib.hid (by rw[HO.out,if_neg (by decide)])
        clear h0
        go_wp2
        go_ret
        exact ⟨ret_int (by rw[HO2.out]),HB1.out⟩
   ·have HO:Hid (leftOf l n=left1 l n):=Lib.hid (leftOf_out (Or.inr ⟨h0,by rw[hz0];exact hz⟩))
    have hz1:(z != 0)=true:=by simpa using hz
    rw[hz0]at t2
    clear hz0 hnm
    go_wp2
    go_ret
    exact ⟨ret_int (by rw[HO.out]),HB1.out⟩
  ·have HO:Hid (leftOf l n=0):=Lib.hid (by rw[leftOf_out (Or.inl (by omega))];omega)
   obtain ⟨K,hK⟩:∃K,left1 l n=K:=⟨_,rfl⟩
   obtain rfl:K=0:=by omega
   rw[hK]
   clear h0 hK hkl
   go_wp2
   go_ret
   exact ⟨ret_int (by rw[HO.out];rfl),HB1.out⟩
end Go.Proofs.YthdkkpbhijlpaaaGreatDoor
