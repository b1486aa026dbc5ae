import Derived.Deep.AppendLies
import Derived.Deep.RegionLaw
import Derived.Test.YthdkkpbhijlpaaaGreatDoorQ19
import Derived.Test.YthdkkpbhijlpaaaGreatDoorQ12
set_option linter.unusedVariables false
namespace Go.Proofs.YthdkkpbhijlpaaaGreatDoor
open Go.ChangeShapes Go.WideShapes Go.ChangeAt Go.RowKit Go.Shelf Go.Deep
theorem run_append_keep {P:Program} (w:World) (t ty:TypeId) (base:Nat) (e:TypeId) (i:TypeInfo) (z:Value) (size bytes:Nat) (ht:P.underlying t=some (.slice e)) (hi:P.info? e=some i) (hz:i.zero=some z)
 (hsize:i.size=size) (hby:i.bytes=bytes) (hzs:z.cells.size=size) (hsz:0<size)
 (v:Value) (n:Nat) (xs:List Value) (hown:w.ownsRow base e size v n xs)
 (ad:Addr) (m c:Nat) (news:List Value) (hl:news.length=m*size) (hnews:∀j u,news[j]?=some u→w.cell? (ad.add j)=some u) (h1:∀u ∈ news,u.oneCell'=true)
 (hm:0<m) (h63:n+m≤maxLen) (hbytes:(n+m)*bytes≤140737488355328) (hbase:base≤w.heap.size):
 ∃g cap w',(Builtin.append_ #[t,t] ty #[v,.slice (some ad) m c]).run P w=.ok (.slice (some ⟨g,0,none⟩) (n+m) cap) w' ∧
  w'.ownsRow base e size (.slice (some ⟨g,0,none⟩) (n+m) cap) (n+m) (xs++news)∧w'.ownsRow base e size v n xs∧w.grownBy w' v.ownBlock:=by
 obtain ⟨g,cap,w',hr,h2,h3,_⟩:=run_append_lies (P:=P) w t ty base e i z size bytes ht hi hz hsize hby hzs hsz v n xs hown ad m c news hl hnews h1 hm h63 hbytes hbase _ rfl
 refine ⟨g,cap,w',hr,h2,?_,h3⟩
 rcases hown.2 with ⟨rfl,rfl⟩ | ⟨b,cap0,cur,rfl,hbg,hg,hnc,hcm,hcs,htake⟩
 ·exact ⟨hown.1,.inl ⟨rfl,rfl⟩⟩
 ·have hblt:b<w.heap.size:=(Array.getElem?_eq_some_iff.1 hg).1
  have hsmall:n+m≤9223372036854775807:=by simp only[maxLen]at h63;omega
  by_cases hroom:n+m≤cap0
  ·have hfit:n*i.size+news.length≤cur.size:=by rw[hl,hcs,hsize,←Nat.add_mul];exact Nat.mul_le_mul_right _ hroom
   have hr2:=run_append_room (P:=P) w t ty e i ht hi b n cap0 cur hg ad m c news (by rw[hsize];exact hl) hnews h1 hroom hfit
   rw[hr]at hr2
   injection hr2 with _ hw
   subst hw
   refine ⟨hown.1,.inr ⟨b,cap0,_,rfl,hbg,setRow_heap w b cur _ e _ hg,hnc,hcm,?_,?_⟩⟩
   ·simp only[List.size_toArray,List.length_append,List.length_take,List.length_drop,Array.length_toList]
    omega
   ·simp only[List.append_assoc]
    rw[hsize,List.take_append_of_le_length (by rw[List.length_take,Array.length_toList,hcs];have:=Nat.mul_le_mul_right size hnc;omega),List.take_take,Nat.min_self,htake]
  ·have holds:∀j u,xs[j]?=some u→w.cell? ((⟨b,0,none⟩:Addr).add j)=some u:=hown.cells (g:=b) rfl
   have hr2:=run_append_grow (P:=P) w t ty e i z ht hi hz ⟨b,0,none⟩ n cap0 xs (by rw[hsize];exact hown.1) holds ad m c news (by rw[hsize];exact hl) hnews (by omega) (by omega) (growslice_fits (by omega) (by rw[hby];exact hbytes))
   rw[hr]at hr2
   injection hr2 with _ hw
   subst hw
   refine ⟨hown.1,.inr ⟨b,cap0,cur,rfl,hbg,?_,hnc,hcm,hcs,htake⟩⟩
   rw[Below.heap_alloc w.drew _ b hblt];exact hg
theorem step_append_keep {P:Program} (w:World) {ops:Array Oper} {o:Oper} {a:Act} {K:Act→World→Prop} {Q:Exit→Act→World→Prop} {E:Prop} (hgd:o.guard=none) (s x:Operand) (t:TypeId)
 (ho:o.op=.call { callee:=.builtin .append,args:=#[s,x],argTypes:=#[t,t]})
 (base:Nat) (e:TypeId) (i:TypeInfo) (z:Value) (size bytes:Nat) (ht:P.underlying t=some (.slice e)) (hi:P.info? e=some i) (hz:i.zero=some z)
 (hsize:i.size=size) (hby:i.bytes=bytes) (hzs:z.cells.size=size) (hsz:0<size)
 (v:Value) (n:Nat) (xs:List Value) (hs:a.eval s=v) (hown:w.ownsRow base e size v n xs)
 (ad:Addr) (m c:Nat) (news:List Value) (hx:a.eval x=.slice (some ad) m c) (hl:news.length=m*size) (hnews:∀j u,news[j]?=some u→w.cell? (ad.add j)=some u) (h1:∀u ∈ news,u.oneCell'=true)
 (hm:0<m) (h63:n+m≤maxLen) (hbytes:(n+m)*bytes≤140737488355328) (hbase:base≤w.heap.size)
 (h:∀g cap w',w'.ownsRow base e size (.slice (some ⟨g,0,none⟩) (n+m) cap) (n+m) (xs++news)→w'.ownsRow base e size v n xs→w.grownBy w' v.ownBlock→K (a.put o.dst (.slice (some ⟨g,0,none⟩) (n+m) cap)) w'):
 if Region.wanted o (yielded ops a.tmps)=true then Oper.wp P o a w K Q else E:=by
 have hw:Region.wanted o (yielded ops a.tmps)=true:=by simp[Region.wanted,hgd]
 rw[if_pos hw]
 obtain ⟨g,cap,w',hr,h2,h3,h4⟩:=run_append_keep (P:=P) w t o.type base e i z size bytes ht hi hz hsize hby hzs hsz v n xs hown ad m c news hl hnews h1 hm h63 hbytes hbase
 unfold Oper.wp execOp
 simp only[ho,resolve,invoke,builtin,Sem.run_bind,Sem.run_pure,Result.andThen_ok,List.map_toArray,List.map_cons,List.map_nil,hs,hx,hr]
 exact h g cap w' h2 h3 h4
theorem ownsRow_but {C:Nat→Prop} {w w':World} {base:Nat} {e:TypeId} {size:Nat} {v:Value} {n:Nat} {xs:List Value} (h:w.ownsRow base e size v n xs) (hB:But C w w') (hC:∀k,C k→k<base):w'.ownsRow base e size v n xs:=by
 obtain ⟨h1,h2⟩:=h
 refine ⟨h1,?_⟩
 rcases h2 with h2 | ⟨g,cap,cur,hv,hg,hh,r⟩
 ·exact Or.inl h2
 ·exact Or.inr ⟨g,cap,cur,hv,hg,by rw[hB.block g (Array.getElem?_eq_some_iff.1 hh).1 (fun c=>by have:=hC g c;omega)];exact hh,r⟩
def RdAt (w:World) (g:Nat) (T:Tk) (s:ByteArray) (i:Nat) (raw:ByteArray):Prop:=
 ∃A c,Lay w g #[.int .i64 T.k,.int .i64 (T.a:Int),.int .i64 (T.l:Int),.string T.n,.string T.t,.slice A T.al.length c,.bool T.s,.string (tl s i),.string raw] ∧
  w.ownsRow (g+1) 81 2 (.slice A T.al.length c) T.al.length (alVals T.al)∧T.al.length≤6∧∀x ∈ T.al,x.1.size≤maxLen∧x.2.size≤maxLen
theorem only_below {w w':World} {g:Nat} (hB:But (· = g) w w') (hg:g≤w.heap.size):Below g w w':=hB.below (fun k hk=>by rw[hk];exact Nat.le_refl _) hg
theorem RdAt.mk' {w w':World} {g:Nat} {T T':Tk} {s raw:ByteArray} {j:Nat} {A:Option Addr} {c:Nat} {v7 v8:Value} (hO:w.ownsRow (g+1) 81 2 (.slice A T.al.length c) T.al.length (alVals T.al)) (h6:T.al.length≤6) (hs:∀x ∈ T.al,x.1.size≤maxLen∧x.2.size≤maxLen) (hT:T'.al=T.al)
 (L:Lay w' g #[.int .i64 T'.k,.int .i64 (T'.a:Int),.int .i64 (T'.l:Int),.string T'.n,.string T'.t,.slice A T.al.length c,.bool T'.s,v7,v8]) (h7:v7=.string (tl s j)) (h8:v8=.string raw) (hB:But (· = g) w w'):RdAt w' g T' s j raw:=by
 subst h7;subst h8
 refine ⟨A,c,by rw[hT];exact L,by rw[hT];exact ownsRow_but hO hB fun k hk=>by rw[hk];exact Nat.lt_succ_self _,by rw[hT];exact h6,by rw[hT];exact hs⟩
end Go.Proofs.YthdkkpbhijlpaaaGreatDoor
namespace Go.Proofs.YthdkkpbhijlpaaaGreatDoor
open Go.ChangeShapes Go.WideShapes Go.ChangeAt Go.RowKit Go.Shelf Go.Deep
theorem al_small {al:List (ByteArray × ByteArray)} {n v:ByteArray} (hs:∀x ∈ al,x.1.size≤maxLen∧x.2.size≤maxLen) (hn:n.size≤65536) (hv:v.size≤65536):∀x ∈ al++[(n,v)],x.1.size≤maxLen∧x.2.size≤maxLen:=fun x hx=>by
 rcases List.mem_append.1 hx with hx | hx
 ·exact hs x hx
 ·obtain rfl:x=(n,v):=by simpa using hx
  exact ⟨by unfold maxLen;show n.size≤_;omega,by unfold maxLen;show v.size≤_;omega⟩
theorem kept {w w0 w1:World} {g gg cap:Nat} {cs:Array Value} {vs:Value} {al:List (ByteArray × ByteArray)} {n v:ByteArray} (L:Lay w g cs) (hg:g<w.heap.size) (hO:w.ownsRow (g+1) 81 2 vs al.length (alVals al)) (h0:Below w.heap.size w w0)
 (h1:w1.ownsRow (g+1) 81 2 (.slice (some ⟨gg,0,none⟩) (al.length+1) cap) (al.length+1) (alVals al++[.string n,.string v])) (h2:w1.ownsRow (g+1) 81 2 vs al.length (alVals al)) (h3:w0.grownBy w1 vs.ownBlock)
 (hs:∀x ∈ al++[(n,v)],x.1.size≤maxLen∧x.2.size≤maxLen) (h6:al.length≤6):
 Hid (Lay w1 g cs)∧Hid (Below g w w1)∧Hid (AOwn (g+1) w1 (some ⟨gg,0,none⟩) cap (al++[(n,v)]))∧Hid (g<w1.heap.size)∧Hid (w1.ownsRow (g+1) 81 2 (.slice (some ⟨gg,0,none⟩) (al.length+1) cap) (al.length+1) (alVals al++[.string n,.string v]))∧Hid (w1.ownsRow (g+1) 81 2 vs al.length (alVals al)):=by
 have hne:∀k,vs.ownBlock=some k→g+1≤k:=fun k e=>(World.ownsRow.lt hO k e).1
 have hB:Below (g+1) w w1:=⟨h3.os.trans h0.os,h3.tape.trans h0.tape,h3.output.trans h0.output,Nat.le_trans h0.size h3.size,fun k hk=>(h3.block k (by have:=h0.size;omega) (fun e=>by have:=hne k e.symm;omega)).trans (h0.block k (by omega))⟩
 refine ⟨Lib.hid (L.below hB (Nat.lt_succ_self _)),Lib.hid (hB.mono (Nat.le_succ _)),?_,Lib.hid (Nat.lt_of_lt_of_le hg hB.size),Lib.hid h1,Lib.hid h2⟩
 have h:w1.ownsRow (g+1) 81 2 (.slice (some ⟨gg,0,none⟩) (al.length+1) cap) (al++[(n,v)]).length (alVals (al++[(n,v)])):=by rw[alVals_app,List.length_append];exact h1
 obtain ⟨A',c',e1,e2⟩:=AOwn.of h hs (by simp;unfold maxLen;omega)
 injection e1 with e3 e4 e5
 subst e3;subst e5
 exact Lib.hid e2
theorem kept_yes {w w2:World} {g i gg cap:Nat} {s raw n v:ByteArray} {T:Tk} {vs:Value} (L:Lay w2 g #[.int .i64 T.k,.int .i64 (T.a:Int),.int .i64 (T.l:Int),.string T.n,.string T.t,vs,.bool T.s,.string (tl s i),.string raw]) (hB:Below g w w2)
 (hO:w2.ownsRow (g+1) 81 2 (.slice (some ⟨gg,0,none⟩) (T.al.length+1) cap) (T.al.length+1) (alVals T.al++[.string n,.string v])) (hab:alB (T.al++[(n,v)])=true) (hs:∀x ∈ T.al++[(n,v)],x.1.size≤maxLen∧x.2.size≤maxLen) (h6:T.al.length≤6):
 RdAt (w2.setCell ⟨g,5,none⟩ (.slice (some ⟨gg,0,none⟩) (T.al.length+1) cap)) g { T with al:=keepA T.al n v } s i raw∧Below g w (w2.setCell ⟨g,5,none⟩ (.slice (some ⟨gg,0,none⟩) (T.al.length+1) cap)):=by
 have hk:keepA T.al n v=T.al++[(n,v)]:=if_pos hab
 refine ⟨⟨some ⟨gg,0,none⟩,cap,?_,?_,keepA_six h6,by show ∀x ∈ keepA T.al n v,_;rw[hk];exact hs⟩,hB.setCell (Nat.le_refl _) _⟩
 ·have:=L.set 5 (.slice (some ⟨gg,0,none⟩) (T.al.length+1) cap)
  show Lay _ g #[.int .i64 T.k,.int .i64 (T.a:Int),.int .i64 (T.l:Int),.string T.n,.string T.t,.slice (some ⟨gg,0,none⟩) (keepA T.al n v).length cap,.bool T.s,.string (tl s i),.string raw]
  rw[hk,List.length_append]
  exact this
 ·show World.ownsRow _ _ _ _ (.slice (some ⟨gg,0,none⟩) (keepA T.al n v).length cap) (keepA T.al n v).length (alVals (keepA T.al n v))
  rw[hk,List.length_append,alVals_app]
  exact ownsRow_but hO (only_set w2 g 5 _) fun k hk=>by rw[hk];exact Nat.lt_succ_self _
theorem kept_no {w w2:World} {g i c:Nat} {s raw n v:ByteArray} {T:Tk} {A:Option Addr} (L:Lay w2 g #[.int .i64 T.k,.int .i64 (T.a:Int),.int .i64 (T.l:Int),.string T.n,.string T.t,.slice A T.al.length c,.bool T.s,.string (tl s i),.string raw]) (hB:Below g w w2)
 (hO:w2.ownsRow (g+1) 81 2 (.slice A T.al.length c) T.al.length (alVals T.al)) (hab:alB (T.al++[(n,v)])=false) (hs:∀x ∈ T.al++[(n,v)],x.1.size≤maxLen∧x.2.size≤maxLen) (h6:T.al.length≤6):
 RdAt w2 g { T with al:=keepA T.al n v } s i raw∧Below g w w2:=by
 have hk:keepA T.al n v=T.al:=if_neg (by rw[hab];decide)
 exact ⟨⟨A,c,by rw[hk];exact L,by rw[hk];exact hO,keepA_six h6,by show ∀x ∈ keepA T.al n v,_;rw[hk];exact fun x hx=>hs x (List.mem_append_left _ hx)⟩,hB⟩
set_option maxHeartbeats 2000000 in
set_option maxRecDepth 100000 in
theorem keepAttr_any (n v s raw:ByteArray) (T:Tk) (g i:Nat) (hn:n.size≤65536) (hv:v.size≤65536) (w:World) (h:RdAt w g T s i raw):
 Calls Tryz.prog 272 #[.pointer (some ⟨g,0,none⟩),.agg #[.string n,.string v]] w fun e w'=>e=.returned (.tuple #[])∧RdAt w' g { T with al:=keepA T.al n v } s i raw∧Below g w w':=by
 obtain ⟨A,c,L,hO,h6,hs⟩:=h
 obtain ⟨ia,hia,hza,hsa,hba⟩:=info_of infoAttr
 have hg:=Lay.lt L
 have HS:=Lib.hid (al_small hs hn hv)
 have HL:=Lib.hid L
 have HO:=Lib.hid hO
 have c5:w.cell? ⟨g,5,none⟩=some (.slice A T.al.length c):=L.1 5
 have hng:=World.new_ne w ⟨g,5,none⟩ c5
 have HNEW:Hid (((w.alloc (.cells #[.string n,.string v] 81)).alloc (.cells #[.string n,.string v] 81)).heap[w.heap.size+1]?=some (.cells #[.string n,.string v] 81)):=Lib.hid (by have:=heap_alloc_new (w.alloc (.cells #[.string n,.string v] 81)) (.cells #[.string n,.string v] 81);simpa using this)
 clear L hO hs
 cases hab:alB (T.al++[(n,v)]) with
 | true=>
  have HA:=Lib.hid hab
  clear hab
  go_enter Tryz.func272,Tryz.ntmps272
  go_wp2
  go_region_law ((refine step_append_keep _ (by rfl) _ _ _ (by rfl) (g+1) 81 ia _ 2 32 Tryz.underlying54 hia hza hsa hba rfl (by omega) (.slice A T.al.length c) T.al.length (alVals T.al) (by rfl) ((HO.out.alloc _).alloc _) ⟨w.heap.size+1,0,none⟩ 1 1 [.string n,.string v] (by rfl) (by rfl) (World.news_of_block (cs:=#[.string n,.string v]) (t:=81) (fr:=(0,0)) HNEW.out) (by simp[Value.oneCell']) (by omega) (by unfold maxLen;omega) (by omega) (by simp;omega) ?_;intro gg cap w1 hown1 hold1 hgrow1;obtain ⟨L1,B1,A1,G1,O1,_⟩:=kept HL.out hg HO.out (((Below.refl w.heap.size w).alloc (Nat.le_refl _) _).drew.alloc (by simp) _) hown1 hold1 hgrow1 HS.out h6;clear hown1 hold1 hgrow1))
  all_goals
   obtain ⟨b1,r1,a1⟩:=A1.out.at
   have R1:=Lib.hid r1
   have AA:=Lib.hid a1
   clear r1 a1
   go_wp2_with (go_at_call 163;have ha:=attrsOK_any (T.al++[(n,v)]) w1 _ _ b1 0 _ _ R1.out (Nat.le_refl _) AA.out;rw[List.length_append]at ha;refine ha.mono ?_;clear ha;rintro e w2 ⟨rfl,hB2⟩;rw[HA.out];have L2:=L1.out.below hB2 G1.out;have n0:=L2.1;have n1:=L2.2;have LL:=Lib.hid L2;have O2:=Lib.hid (ownsRow_but O1.out (But.of_below (C:=No) hB2) fun _ h=>h.elim);have B2:=Lib.hid (B1.out.trans (hB2.mono (Nat.le_of_lt G1.out)));clear hB2 L2)
   go_end0
   exact ⟨rfl,kept_yes LL.out B2.out O2.out HA.out HS.out h6⟩
 | false=>
  have HA:=Lib.hid hab
  clear hab
  go_enter Tryz.func272,Tryz.ntmps272
  go_wp2
  go_region_law ((refine step_append_keep _ (by rfl) _ _ _ (by rfl) (g+1) 81 ia _ 2 32 Tryz.underlying54 hia hza hsa hba rfl (by omega) (.slice A T.al.length c) T.al.length (alVals T.al) (by rfl) ((HO.out.alloc _).alloc _) ⟨w.heap.size+1,0,none⟩ 1 1 [.string n,.string v] (by rfl) (by rfl) (World.news_of_block (cs:=#[.string n,.string v]) (t:=81) (fr:=(0,0)) HNEW.out) (by simp[Value.oneCell']) (by omega) (by unfold maxLen;omega) (by omega) (by simp;omega) ?_;intro gg cap w1 hown1 hold1 hgrow1;obtain ⟨L1,B1,A1,G1,_,O1⟩:=kept HL.out hg HO.out (((Below.refl w.heap.size w).alloc (Nat.le_refl _) _).drew.alloc (by simp) _) hown1 hold1 hgrow1 HS.out h6;clear hown1 hold1 hgrow1))
  all_goals
   obtain ⟨b1,r1,a1⟩:=A1.out.at
   have R1:=Lib.hid r1
   have AA:=Lib.hid a1
   clear r1 a1
   go_wp2_with (go_at_call 163;have ha:=attrsOK_any (T.al++[(n,v)]) w1 _ _ b1 0 _ _ R1.out (Nat.le_refl _) AA.out;rw[List.length_append]at ha;refine ha.mono ?_;clear ha;rintro e w2 ⟨rfl,hB2⟩;rw[HA.out];have LL:=Lib.hid (L1.out.below hB2 G1.out);have O2:=Lib.hid (ownsRow_but O1.out (But.of_below (C:=No) hB2) fun _ h=>h.elim);have B2:=Lib.hid (B1.out.trans (hB2.mono (Nat.le_of_lt G1.out)));clear hB2)
   go_end0
   exact ⟨rfl,kept_no LL.out B2.out O2.out HA.out HS.out h6⟩
end Go.Proofs.YthdkkpbhijlpaaaGreatDoor
namespace Go.Proofs.YthdkkpbhijlpaaaGreatDoor
open Go.ChangeShapes Go.WideShapes Go.ChangeAt Go.RowKit Go.Shelf Go.Deep
theorem only_trans {g:Nat} {a b c:World} (h:But (· = g) a b) (k:But (· = g) b c):But (· = g) a c:=h.trans k fun _ e=>Or.inl e
theorem only_then {g:Nat} {a b c:World} (h:But (· = g) a b) (k:Below b.heap.size b c):But (· = g) a c:=only_trans h (But.of_below k)
def StOut (g:Nat) (s raw:ByteArray) (w:World) (v:Value) (T:Tk) (j:Nat) (e:Ending) (w':World):Prop:=e=.returned v∧RdAt w' g T s j raw∧Below g w w'
theorem take_at (s:ByteArray) (i n g:Nat) (z:Int) (hz:z=(n:Int)) (hs:s.size≤65536) (h:i+n≤s.size) (w:World) (hc:w.cell? ⟨g,7,none⟩=some (.string (tl s i))) (hf:w.frozen? ⟨g,7,none⟩=false):
 Calls Tryz.prog 220 #[.pointer (some ⟨g,0,none⟩),.int .i64 z] w fun e w'=>e=.returned (.string (s.extract i (i+n)))∧Mv g s (i+n) w w':=by
 subst hz;exact take_any s i n g hs h w hc hf
set_option maxHeartbeats 1000000 in
set_option maxRecDepth 100000 in
theorem readOpen_any (s raw:ByteArray) (T:Tk) (g i:Nat) (hs:s.size≤65536) (hi:i<s.size) (w:World) (h:RdAt w g T s i raw):
 Calls Tryz.prog 169 #[.pointer (some ⟨g,0,none⟩)] w (StOut g s raw w (.func (.func 223) #[] #[]) { T with k:=2,n:=nameOf s (i+1)} (i+1+runAt inName s (i+1))):=by
 obtain ⟨A,c,L,hO,h6,hz⟩:=h
 have hg:=Lay.lt L
 have HO:=Lib.hid hO
 have HZ:=Lib.hid hz
 have n0:=L.1
 have n1:=L.2
 have L1:=Lib.hid (show Lay (w.setCell ⟨g,0,none⟩ (.int .i64 2)) g #[.int .i64 2,.int .i64 (T.a:Int),.int .i64 (T.l:Int),.string T.n,.string T.t,.slice A T.al.length c,.bool T.s,.string (tl s i),.string raw] from L.set 0 _)
 have B1:=Lib.hid (only_set w g 0 (.int .i64 2))
 have hr:=runAt_le inName s (i+1) hi
 have HL:Hid (∀w,Calls Tryz.prog 218 #[.string (s.extract (i+1) (i+1+runAt inName s (i+1)))] w fun e w'=>e=.returned (.string (nameOf s (i+1)))∧Below w.heap.size w w'):=Lib.hid (fun w=>implLowerOf_small (s.extract (i+1) (i+1+runAt inName s (i+1))) w (by rw[ByteArray.size_extract];omega))
 generalize nameOf s (i+1)=nm at HL ⊢
 clear hO hz L
 go_enter Tryz.func169,Tryz.ntmps169
 go_wp2_with (first
  | (go_at_call 220;refine (take_at s i 1 g 1 rfl hs (by omega) _ (L1.out.1 7) (L1.out.2 7)).mono ?_;rintro e w2 ⟨rfl,hM⟩;have hM2:=hM.lay L1.out;have L2:=Lib.hid hM2.1;have B2:=Lib.hid (only_trans B1.out hM2.2);clear hM hM2)
  | (go_at_call 222;refine (takeTo_any s nameCs inName nameMarks (i+1) g hs (by omega) _ (Lay.lt L2.out) (L2.out.1 7) (L2.out.2 7)).mono ?_;rintro e w3 ⟨rfl,hM⟩;have hM2:=hM.lay L2.out;have L3:=Lib.hid hM2.1;have B3:=Lib.hid (only_trans B2.out hM2.2);clear hM hM2)
  | (go_at_call 218;refine (HL.out _).mono ?_;rintro e w4 ⟨rfl,hB⟩;have L4:=L3.out.below hB (Lay.lt L3.out);have m0:=L4.1;have m1:=L4.2;have HL4:=Lib.hid L4;have B4:=Lib.hid (only_then B3.out hB);clear hB L4))
 go_ret
 have LF:Lay (w4.setCell ⟨g,3,none⟩ (.string nm)) g #[.int .i64 2,.int .i64 (T.a:Int),.int .i64 (T.l:Int),.string nm,.string T.t,.slice A T.al.length c,.bool T.s,.string (tl s (i+1+runAt inName s (i+1))),.string raw]:=HL4.out.set 3 (.string nm)
 have BF:=only_trans B4.out (only_set _ g 3 (.string nm))
 exact ⟨rfl,RdAt.mk' (T':={ T with k:=2,n:=nm }) HO.out h6 HZ.out rfl LF rfl rfl BF,only_below BF (Nat.le_of_lt hg)⟩
end Go.Proofs.YthdkkpbhijlpaaaGreatDoor
namespace Go.Proofs.YthdkkpbhijlpaaaGreatDoor
open Go.ChangeShapes Go.WideShapes Go.ChangeAt Go.RowKit Go.Shelf Go.Deep
set_option maxHeartbeats 1000000 in
set_option maxRecDepth 100000 in
theorem readClose_any (s raw:ByteArray) (T:Tk) (g i:Nat) (hs:s.size≤65536) (hi:i+2≤s.size) (w:World) (h:RdAt w g T s i raw):
 Calls Tryz.prog 170 #[.pointer (some ⟨g,0,none⟩)] w (StOut g s raw w (.func (.func 224) #[] #[]) { T with k:=3,n:=nameOf s (i+2)} (i+2+runAt inName s (i+2)+runAt inGt s (i+2+runAt inName s (i+2)))):=by
 obtain ⟨A,c,L,hO,h6,hz⟩:=h
 have hg:=Lay.lt L
 have HO:=Lib.hid hO
 have HZ:=Lib.hid hz
 have n0:=L.1
 have n1:=L.2
 have L1:=Lib.hid (show Lay (w.setCell ⟨g,0,none⟩ (.int .i64 3)) g #[.int .i64 3,.int .i64 (T.a:Int),.int .i64 (T.l:Int),.string T.n,.string T.t,.slice A T.al.length c,.bool T.s,.string (tl s i),.string raw] from L.set 0 _)
 have B1:=Lib.hid (only_set w g 0 (.int .i64 3))
 have hr:=runAt_le inName s (i+2) hi
 have HL:Hid (∀w,Calls Tryz.prog 218 #[.string (s.extract (i+2) (i+2+runAt inName s (i+2)))] w fun e w'=>e=.returned (.string (nameOf s (i+2)))∧Below w.heap.size w w'):=Lib.hid (fun w=>implLowerOf_small (s.extract (i+2) (i+2+runAt inName s (i+2))) w (by rw[ByteArray.size_extract];omega))
 generalize nameOf s (i+2)=nm at HL ⊢
 clear hO hz L
 go_enter Tryz.func170,Tryz.ntmps170
 go_wp2_with (first
  | (go_at_call 220;refine (take_at s i 2 g 2 rfl hs hi _ (L1.out.1 7) (L1.out.2 7)).mono ?_;rintro e w2 ⟨rfl,hM⟩;have hM2:=hM.lay L1.out;have L2:=Lib.hid hM2.1;have B2:=Lib.hid (only_trans B1.out hM2.2);clear hM hM2)
  | (go_at_call 222;have LF:Lay (w4.setCell ⟨g,3,none⟩ (.string nm)) g #[.int .i64 3,.int .i64 (T.a:Int),.int .i64 (T.l:Int),.string nm,.string T.t,.slice A T.al.length c,.bool T.s,.string (tl s (i+2+runAt inName s (i+2))),.string raw]:=HL4.out.set 3 (.string nm);have HLF:=Lib.hid LF;clear LF;refine (takeTo_any s ⟨#[62]⟩ inGt gtMarks (i+2+runAt inName s (i+2)) g hs hr _ (Lay.lt HLF.out) (HLF.out.1 7) (HLF.out.2 7)).mono ?_;rintro e w5 ⟨rfl,hM⟩;have hM2:=hM.lay HLF.out;have L5:=Lib.hid hM2.1;have B5:=Lib.hid (only_trans (only_trans B4.out (only_set _ g 3 _)) hM2.2);clear hM hM2)
  | (go_at_call 222;refine (takeTo_any s nameCs inName nameMarks (i+2) g hs hi _ (Lay.lt L2.out) (L2.out.1 7) (L2.out.2 7)).mono ?_;rintro e w3 ⟨rfl,hM⟩;have hM2:=hM.lay L2.out;have L3:=Lib.hid hM2.1;have B3:=Lib.hid (only_trans B2.out hM2.2);clear hM hM2)
  | (go_at_call 218;refine (HL.out _).mono ?_;rintro e w4 ⟨rfl,hB⟩;have L4:=L3.out.below hB (Lay.lt L3.out);have m0:=L4.1;have m1:=L4.2;have HL4:=Lib.hid L4;have B4:=Lib.hid (only_then B3.out hB);clear hB L4))
 go_ret
 exact ⟨rfl,RdAt.mk' (T':={ T with k:=3,n:=nm }) HO.out h6 HZ.out rfl L5.out rfl rfl B5.out,only_below B5.out (Nat.le_of_lt hg)⟩
set_option maxHeartbeats 1000000 in
set_option maxRecDepth 100000 in
theorem readComment_any (s raw:ByteArray) (T:Tk) (g i:Nat) (hs:s.size≤65536) (hi:i+4≤s.size) (w:World) (hE:Env2 w) (h6g:5 + 1≤g) (h:RdAt w g T s i raw):
 Calls Tryz.prog 171 #[.pointer (some ⟨g,0,none⟩)] w (StOut g s raw w .nilFunc { T with k:=4,t:=s.extract (i+4) (findTo s endS (i+4)).1 } (gone s endS (i+4))):=by
 obtain ⟨A,c,L,hO,h6,hz⟩:=h
 have hg:=Lay.lt L
 have HO:=Lib.hid hO
 have HZ:=Lib.hid hz
 have n0:=L.1
 have n1:=L.2
 have L1:=Lib.hid (show Lay (w.setCell ⟨g,0,none⟩ (.int .i64 4)) g #[.int .i64 4,.int .i64 (T.a:Int),.int .i64 (T.l:Int),.string T.n,.string T.t,.slice A T.al.length c,.bool T.s,.string (tl s i),.string raw] from L.set 0 _)
 have B1:=Lib.hid (only_set w g 0 (.int .i64 4))
 have HE:=Lib.hid hE
 have HX:=Lib.hid (fun w hE hg hc hf=>takeBefore_any s endS (i+4) g hs hi w hE hg hc hf)
 generalize s.extract (i+4) (findTo s endS (i+4)).1=tx at HX ⊢
 clear hO hz L hE
 go_enter Tryz.func171,Tryz.ntmps171
 go_wp2_with (first
  | (go_at_call 220;refine (take_at s i 4 g 4 rfl hs hi _ (L1.out.1 7) (L1.out.2 7)).mono ?_;rintro e w2 ⟨rfl,hM⟩;have hM2:=hM.lay L1.out;have L2:=Lib.hid hM2.1;have B2:=Lib.hid (only_trans B1.out hM2.2);clear hM hM2)
  | (go_at_call 225;refine (HX.out _ (HE.out.but B2.out h6g) (Lay.lt L2.out) (L2.out.1 7) (L2.out.2 7)).mono ?_;rintro e w3 ⟨rfl,hM⟩;have hM2:=hM.lay L2.out;have m0:=hM2.1.1;have m1:=hM2.1.2;have L3:=Lib.hid hM2.1;have B3:=Lib.hid (only_trans B2.out hM2.2);clear hM hM2))
 go_ret
 have LF:Lay (w3.setCell ⟨g,4,none⟩ (.string tx)) g #[.int .i64 4,.int .i64 (T.a:Int),.int .i64 (T.l:Int),.string T.n,.string tx,.slice A T.al.length c,.bool T.s,.string (tl s (gone s endS (i+4))),.string raw]:=L3.out.set 4 (.string tx)
 have BF:=only_trans B3.out (only_set _ g 4 (.string tx))
 exact ⟨rfl,RdAt.mk' (T':={ T with k:=4,t:=tx }) HO.out h6 HZ.out rfl LF rfl rfl BF,only_below BF (Nat.le_of_lt hg)⟩
set_option maxHeartbeats 1000000 in
set_option maxRecDepth 100000 in
theorem readRemark_any (s raw:ByteArray) (T:Tk) (g i:Nat) (hs:s.size≤65536) (hi:i+2≤s.size) (w:World) (hE:Env2 w) (h6g:5 + 1≤g) (h:RdAt w g T s i raw):
 Calls Tryz.prog 172 #[.pointer (some ⟨g,0,none⟩)] w (StOut g s raw w .nilFunc { T with k:=4,t:=s.extract (i+2) (findTo s gtS (i+2)).1 } (gone s gtS (i+2))):=by
 obtain ⟨A,c,L,hO,h6,hz⟩:=h
 have hg:=Lay.lt L
 have HO:=Lib.hid hO
 have HZ:=Lib.hid hz
 have n0:=L.1
 have n1:=L.2
 have L1:=Lib.hid (show Lay (w.setCell ⟨g,0,none⟩ (.int .i64 4)) g #[.int .i64 4,.int .i64 (T.a:Int),.int .i64 (T.l:Int),.string T.n,.string T.t,.slice A T.al.length c,.bool T.s,.string (tl s i),.string raw] from L.set 0 _)
 have B1:=Lib.hid (only_set w g 0 (.int .i64 4))
 have HE:=Lib.hid hE
 have HX:=Lib.hid (fun w hE hg hc hf=>takeBefore_any s gtS (i+2) g hs hi w hE hg hc hf)
 generalize s.extract (i+2) (findTo s gtS (i+2)).1=tx at HX ⊢
 clear hO hz L hE
 go_enter Tryz.func172,Tryz.ntmps172
 go_wp2_with (first
  | (go_at_call 220;refine (take_at s i 2 g 2 rfl hs hi _ (L1.out.1 7) (L1.out.2 7)).mono ?_;rintro e w2 ⟨rfl,hM⟩;have hM2:=hM.lay L1.out;have L2:=Lib.hid hM2.1;have B2:=Lib.hid (only_trans B1.out hM2.2);clear hM hM2)
  | (go_at_call 225;refine (HX.out _ (HE.out.but B2.out h6g) (Lay.lt L2.out) (L2.out.1 7) (L2.out.2 7)).mono ?_;rintro e w3 ⟨rfl,hM⟩;have hM2:=hM.lay L2.out;have m0:=hM2.1.1;have m1:=hM2.1.2;have L3:=Lib.hid hM2.1;have B3:=Lib.hid (only_trans B2.out hM2.2);clear hM hM2))
 go_ret
 have LF:Lay (w3.setCell ⟨g,4,none⟩ (.string tx)) g #[.int .i64 4,.int .i64 (T.a:Int),.int .i64 (T.l:Int),.string T.n,.string tx,.slice A T.al.length c,.bool T.s,.string (tl s (gone s gtS (i+2))),.string raw]:=L3.out.set 4 (.string tx)
 have BF:=only_trans B3.out (only_set _ g 4 (.string tx))
 exact ⟨rfl,RdAt.mk' (T':={ T with k:=4,t:=tx }) HO.out h6 HZ.out rfl LF rfl rfl BF,only_below BF (Nat.le_of_lt hg)⟩
set_option maxHeartbeats 1000000 in
set_option maxRecDepth 100000 in
theorem readWords_any (s raw:ByteArray) (T:Tk) (g i:Nat) (hs:s.size≤65536) (hi:i<s.size) (w:World) (hE:Env2 w) (h6g:5 + 1≤g) (h:RdAt w g T s i raw):
 Calls Tryz.prog 173 #[.pointer (some ⟨g,0,none⟩)] w (StOut g s raw w .nilFunc { T with k:=1,t:=wordOf s i } (i+1+runAt inWord s (i+1))):=by
 obtain ⟨A,c,L,hO,h6,hz⟩:=h
 have hg:=Lay.lt L
 have HO:=Lib.hid hO
 have HZ:=Lib.hid hz
 have n0:=L.1
 have n1:=L.2
 have L1:=Lib.hid (show Lay (w.setCell ⟨g,0,none⟩ (.int .i64 1)) g #[.int .i64 1,.int .i64 (T.a:Int),.int .i64 (T.l:Int),.string T.n,.string T.t,.slice A T.al.length c,.bool T.s,.string (tl s i),.string raw] from L.set 0 _)
 have B1:=Lib.hid (only_set w g 0 (.int .i64 1))
 have HE:=Lib.hid hE
 have hcut:∀w,(Instr.slice 9 (.string (tl s i)) (some (.int .i64 1)) none none).run Tryz.prog w=.ok (.string (tl s (i+1))) w:=cutFrom_at s i 1 hi
 have HI:=Lib.hid (lengthTo_any s ⟨#[60]⟩ inWord ltMarks (i+1) hs hi)
 have hr:=runAt_le inWord s (i+1) hi
 have HU:Hid (∀w,Env w→Calls Tryz.prog 226 #[.string (s.extract i (i+(1+runAt inWord s (i+1))))] w fun e w'=>e=.returned (.string (wordOf s i))∧Below w.heap.size w w'):=Lib.hid (fun w hw=>by
  have:=implUn_small (s.extract i (i+(1+runAt inWord s (i+1)))) (by rw[ByteArray.size_extract];omega) w hw
  rw[show wordOf s i=⟨(un (s.extract i (i+(1+runAt inWord s (i+1)))).data.toList).toArray⟩ from by rw[←Nat.add_assoc];rfl];exact this)
 generalize wordOf s i=tx at HU ⊢
 rw[Nat.add_assoc]
 generalize runAt inWord s (i+1)=n at HI HU hr ⊢
 clear hO hz L hE
 go_enter Tryz.func173,Tryz.ntmps173
 go_wp2_with (first
  | (go_at_call 227;refine (HI.out _).mono ?_;rintro e w2 ⟨rfl,hB⟩;have L2:=Lib.hid (L1.out.below hB (Lay.lt L1.out));have B2:=Lib.hid (only_then B1.out hB);clear hB)
  | (go_at_call 220;refine (take_at s i (1+n) g (1+(n:Int)) (by push_cast;rfl) hs (by omega) _ (L2.out.1 7) (L2.out.2 7)).mono ?_;rintro e w3 ⟨rfl,hM⟩;have hM2:=hM.lay L2.out;have L3:=Lib.hid hM2.1;have B3:=Lib.hid (only_trans B2.out hM2.2);clear hM hM2)
  | (go_at_call 226;refine (HU.out _ (HE.out.but B3.out h6g).1).mono ?_;rintro e w4 ⟨rfl,hB⟩;have L4:=L3.out.below hB (Lay.lt L3.out);have m0:=L4.1;have m1:=L4.2;have HL4:=Lib.hid L4;have B4:=Lib.hid (only_then B3.out hB);clear hB L4))
 go_ret
 have LF:Lay (w4.setCell ⟨g,4,none⟩ (.string tx)) g #[.int .i64 1,.int .i64 (T.a:Int),.int .i64 (T.l:Int),.string T.n,.string tx,.slice A T.al.length c,.bool T.s,.string (tl s (i+(1+n))),.string raw]:=HL4.out.set 4 (.string tx)
 have BF:=only_trans B4.out (only_set _ g 4 (.string tx))
 exact ⟨rfl,RdAt.mk' (T':={ T with k:=1,t:=tx }) HO.out h6 HZ.out rfl LF rfl rfl BF,only_below BF (Nat.le_of_lt hg)⟩
end Go.Proofs.YthdkkpbhijlpaaaGreatDoor
namespace Go.Proofs.YthdkkpbhijlpaaaGreatDoor
open Go.ChangeShapes Go.WideShapes Go.ChangeAt Go.RowKit Go.Shelf Go.Deep
theorem pre_one (s:ByteArray) (i:Nat) (c:UInt8):Lib.hasPrefix (rest s i) (ByteArray.mk #[c]).data.toList=(byteAt s i==(c.toNat:Int)):=by
 show Lib.hasPrefix (rest s i) [c]=_
 rw[pre_cons,pre_nil,Bool.and_true]
noncomputable def endTk (s:ByteArray) (i:Nat) (T:Tk):Tk:=if (byteAt s i==62)=true∧namedB small tagB T.n=true then T else ⟨5,T.a,0,⟨#[]⟩,⟨#[]⟩,[],false⟩
theorem zeroed {w w2:World} {g j:Nat} {s raw:ByteArray} {u0 u1 u2 u3 u4 u5 u6:Value} {a:Nat} {v:Value} (L:Lay w2 g #[u0,u1,u2,u3,u4,u5,u6,.string (tl s j),.string raw]) (hB:But (· = g) w w2) (hg:g<w.heap.size) (hv:v=.nilFunc):
 StOut g s raw w .nilFunc ⟨5,a,0,⟨#[]⟩,⟨#[]⟩,[],false⟩ j (.returned v) (((((((w2.setCell ⟨g,0,none⟩ (.int .i64 5)).setCell ⟨g,1,none⟩ (.int .i64 (a:Int))).setCell ⟨g,2,none⟩ (.int .i64 0)).setCell ⟨g,3,none⟩ (.string ⟨#[]⟩)).setCell ⟨g,4,none⟩ (.string ⟨#[]⟩)).setCell ⟨g,5,none⟩ (.slice none 0 0)).setCell ⟨g,6,none⟩ (.bool false)):=by
 refine ⟨by rw[hv],⟨none,0,?_,World.ownsRow_nil _ _ _ _,by simp,by simp⟩,below_put7 _ _ _ _ _ _ _ (only_below hB (Nat.le_of_lt hg)) (Nat.le_refl _)⟩
 have:=((((((L.set 0 (.int .i64 5)).set 1 (.int .i64 (a:Int))).set 2 (.int .i64 0)).set 3 (.string ⟨#[]⟩)).set 4 (.string ⟨#[]⟩)).set 5 (.slice none 0 0)).set 6 (.bool false)
 simpa using this
set_option maxHeartbeats 1000000 in
set_option maxRecDepth 100000 in
theorem readTagEnd_any (s raw:ByteArray) (T:Tk) (g i:Nat) (hn:T.n.size≤65536) (w:World) (h:RdAt w g T s i raw):
 Calls Tryz.prog 224 #[.pointer (some ⟨g,0,none⟩)] w (StOut g s raw w .nilFunc (endTk s i T) (if (byteAt s i==62)=true then i+1 else i)):=by
 obtain ⟨A,c,L,hO,h6,hz⟩:=h
 have hg:=Lay.lt L
 have HO:=Lib.hid hO
 have HZ:=Lib.hid hz
 have L1:=Lib.hid L
 have HT:=Lib.hid (fun w=>implTagOK_any T.n w (by unfold maxLen;omega))
 have HS:=Lib.hid (skipOne_any s ⟨#[62]⟩ i g w (L.1 7) (L.2 7))
 rw[pre_one,show (ByteArray.mk #[62]).size=1 from rfl,show ((62:UInt8).toNat:Int)=62 from rfl]at HS
 clear hO hz L
 cases hb:(byteAt s i==62) with
 | false=>
  rw[hb,if_neg (by decide)]at HS
  have HK:Hid (endTk s i T=⟨5,T.a,0,⟨#[]⟩,⟨#[]⟩,[],false⟩):=Lib.hid (if_neg (by rw[hb];simp))
  rw[HK.out,if_neg (by decide)]
  clear hb
  go_enter Tryz.func224,Tryz.ntmps224
  go_wp2_with (go_at_call 259;refine HS.out.mono ?_;rintro e w2 ⟨rfl,hM⟩;have hM2:=hM.lay L1.out;have m0:=hM2.1.1;have m1:=hM2.1.2;have L2:=Lib.hid hM2.1;have B2:=Lib.hid hM2.2;clear hM hM2)
  go_ret
  exact zeroed L2.out B2.out hg rfl
 | true=>
  rw[hb,if_pos rfl]at HS
  rw[if_pos rfl]
  cases ht:namedB small tagB T.n with
  | true=>
   have HK:Hid (endTk s i T=T):=Lib.hid (if_pos ⟨hb,ht⟩)
   rw[ht]at HT
   rw[HK.out]
   clear hb ht
   go_enter Tryz.func224,Tryz.ntmps224
   go_wp2_with (first
    | (go_at_call 259;refine HS.out.mono ?_;rintro e w2 ⟨rfl,hM⟩;have hM2:=hM.lay L1.out;have m0:=hM2.1.1;have m1:=hM2.1.2;have L2:=Lib.hid hM2.1;have B2:=Lib.hid hM2.2;clear hM hM2)
    | (go_at_call 140;refine (HT.out _).mono ?_;rintro e w3 ⟨rfl,rfl⟩))
   go_ret
   exact ⟨rfl,RdAt.mk' HO.out h6 HZ.out rfl L2.out rfl rfl B2.out,only_below B2.out (Nat.le_of_lt hg)⟩
  | false=>
   have HK:Hid (endTk s i T=⟨5,T.a,0,⟨#[]⟩,⟨#[]⟩,[],false⟩):=Lib.hid (if_neg (by rw[ht];simp))
   rw[ht]at HT
   rw[HK.out]
   clear hb ht
   go_enter Tryz.func224,Tryz.ntmps224
   go_wp2_with (first
    | (go_at_call 259;refine HS.out.mono ?_;rintro e w2 ⟨rfl,hM⟩;have hM2:=hM.lay L1.out;have m0:=hM2.1.1;have m1:=hM2.1.2;have L2:=Lib.hid hM2.1;have B2:=Lib.hid hM2.2;clear hM hM2)
    | (go_at_call 140;refine (HT.out _).mono ?_;rintro e w3 ⟨rfl,rfl⟩))
   go_ret
   exact zeroed L2.out B2.out hg rfl
def lastB (s:ByteArray) (i j:Nat):Bool:=decide (i<j)&&byteAt s (j-1)==47
theorem suffix_one (s:ByteArray) (i j:Nat) (hij:i≤j) (hj:j≤s.size):Lib.hasSuffix (s.extract i j).data.toList [47]=lastB s i j:=by
 unfold lastB
 by_cases h:i<j
 ·have hl:(s.extract i j).data.toList=(s.extract i (j-1)).data.toList++[s[j-1]'(by omega)]:=by
   rw[extract_list,extract_list]
   have e:s.data.toList.take j=s.data.toList.take (j-1)++[s[j-1]'(by omega)]:=by
    have h2:j-1<s.data.toList.length:=by rw[Array.length_toList];show j-1<s.size;omega
    have h1:=List.take_succ_eq_append_getElem h2
    rw[show j-1+1=j by omega]at h1
    rw[h1];rfl
   rw[e,List.drop_append_of_le_length (by rw[List.length_take,Array.length_toList];show i≤min (j-1) s.size;omega)]
  rw[hl,decide_eq_true h,Bool.true_and,byteAt_in (by omega)]
  unfold Lib.hasSuffix
  rw[Bool.eq_iff_iff,List.isSuffixOf_iff_suffix,beq_iff_eq]
  constructor
  ·rintro ⟨l,hl⟩
   have:=(List.append_inj' hl rfl).2
   injection this with h1
   rw[←h1];rfl
  ·intro e
   refine ⟨(s.extract i (j-1)).data.toList,?_⟩
   congr 2
   exact (UInt8.toNat_inj.1 (show (s[j-1]'(by omega)).toNat=47 by omega)).symm
 ·have e:(s.extract i j).data.toList=[]:=by rw[extract_list,List.drop_of_length_le (by rw[List.length_take];omega)]
  rw[e,decide_eq_false h,Bool.false_and];rfl
set_option maxHeartbeats 1000000 in
set_option maxRecDepth 100000 in
theorem readWithinTag_attr (s raw:ByteArray) (T:Tk) (g i j:Nat) (hj:j=i+runAt skipC s i) (hs:s.size≤65536) (hi:i≤s.size) (hlt:j<s.size) (h62:byteAt s j≠62) (w:World) (h:RdAt w g T s i raw):
 Calls Tryz.prog 223 #[.pointer (some ⟨g,0,none⟩)] w (StOut g s raw w (.func (.func 258) #[] #[]) T j):=by
 obtain ⟨A,c,L,hO,h6,hz⟩:=h
 have hg:=Lay.lt L
 have HO:=Lib.hid hO
 have HZ:=Lib.hid hz
 have L1:=Lib.hid L
 have HX:=Lib.hid (skip_any s skipCs skipC skip_cs (asc_of (by decide)) (by decide) i g hs hi w hg (L.1 7) (L.2 7))
 have hr:=runAt_le skipC s i hi
 rw[←hj]at HX hr
 have HS:=Lib.hid (fun w=>strings_HasSuffix (s.extract i j) ⟨#[47]⟩ w (by rw[ByteArray.size_extract];omega))
 rw[show (ByteArray.mk #[47]).data.toList=[47] from rfl,suffix_one s i j (by omega) hr]at HS
 clear hO hz L hj
 have hz0:0<(tl s j).size:=by rw[tl_size];omega
 have hb0:((tl s j)[0]'hz0)=s[j]:=tl_at hz0 hlt
 have e1:¬(tl s j).toList=[]:=by rw[←List.length_eq_zero_iff,ByteArray.toList_eq,Array.length_toList];show ¬(tl s j).size=0;omega
 have e2:(tl s j).toList.isEmpty=false:=by simpa using e1
 rw[byteAt_in hlt,←hb0]at h62
 clear hb0
 have hc:((((tl s j)[0]'hz0).toNat:Int) != 62)=true:=by simpa using h62
 clear h62
 go_enter Tryz.func223,Tryz.ntmps223
 go_wp2_with (go_at_call 257;refine HX.out.mono ?_;rintro e w2 ⟨rfl,hM⟩;have hM2:=hM.lay L1.out;have m0:=hM2.1.1;have m1:=hM2.1.2;have L2:=Lib.hid hM2.1;have B2:=Lib.hid hM2.2;clear hM hM2)
 go_ret
 exact ⟨rfl,RdAt.mk' HO.out h6 HZ.out rfl L2.out rfl rfl B2.out,only_below B2.out (Nat.le_of_lt hg)⟩
set_option maxHeartbeats 1000000 in
set_option maxRecDepth 100000 in
theorem readWithinTag_gt (s raw:ByteArray) (T:Tk) (g i j:Nat) (hj:j=i+runAt skipC s i) (hs:s.size≤65536) (hi:i≤s.size) (hlt:j<s.size) (h62:byteAt s j=62) (w:World) (h:RdAt w g T s i raw):
 Calls Tryz.prog 223 #[.pointer (some ⟨g,0,none⟩)] w (StOut g s raw w (.func (.func 224) #[] #[]) { T with s:=lastB s i j } j):=by
 obtain ⟨A,c,L,hO,h6,hz⟩:=h
 have hg:=Lay.lt L
 have HO:=Lib.hid hO
 have HZ:=Lib.hid hz
 have L1:=Lib.hid L
 have HX:=Lib.hid (skip_any s skipCs skipC skip_cs (asc_of (by decide)) (by decide) i g hs hi w hg (L.1 7) (L.2 7))
 have hr:=runAt_le skipC s i hi
 rw[←hj]at HX hr
 have HS:=Lib.hid (fun w=>strings_HasSuffix (s.extract i j) ⟨#[47]⟩ w (by rw[ByteArray.size_extract];omega))
 rw[show (ByteArray.mk #[47]).data.toList=[47] from rfl,suffix_one s i j (by omega) hr]at HS
 clear hO hz L hj
 have hz0:0<(tl s j).size:=by rw[tl_size];omega
 have hb0:((tl s j)[0]'hz0)=s[j]:=tl_at hz0 hlt
 have e1:¬(tl s j).toList=[]:=by rw[←List.length_eq_zero_iff,ByteArray.toList_eq,Array.length_toList];show ¬(tl s j).size=0;omega
 have e2:(tl s j).toList.isEmpty=false:=by simpa using e1
 rw[byteAt_in hlt,←hb0]at h62
 clear hb0
 have hc:((((tl s j)[0]'hz0).toNat:Int) != 62)=false:=by simpa using h62
 clear h62
 go_enter Tryz.func223,Tryz.ntmps223
 go_wp2_with (first
  | (go_at_call 257;refine HX.out.mono ?_;rintro e w2 ⟨rfl,hM⟩;have hM2:=hM.lay L1.out;have m0:=hM2.1.1;have m1:=hM2.1.2;have L2:=Lib.hid hM2.1;have B2:=Lib.hid hM2.2;clear hM hM2)
  | (go_at_call 151;refine (HS.out _).mono ?_;rintro e w3 ⟨rfl,rfl⟩))
 go_ret
 have LF:Lay (w3.setCell ⟨g,6,none⟩ (.bool (lastB s i j))) g #[.int .i64 T.k,.int .i64 (T.a:Int),.int .i64 (T.l:Int),.string T.n,.string T.t,.slice A T.al.length c,.bool (lastB s i j),.string (tl s j),.string raw]:=L2.out.set 6 (.bool (lastB s i j))
 have BF:=only_trans B2.out (only_set _ g 6 (.bool (lastB s i j)))
 exact ⟨rfl,RdAt.mk' (T':={ T with s:=lastB s i j }) HO.out h6 HZ.out rfl LF rfl rfl BF,only_below BF (Nat.le_of_lt hg)⟩
set_option maxHeartbeats 1000000 in
set_option maxRecDepth 100000 in
theorem readWithinTag_out (s raw:ByteArray) (T:Tk) (g i j:Nat) (hj:j=i+runAt skipC s i) (hs:s.size≤65536) (hi:i≤s.size) (hlt:¬j<s.size) (w:World) (h:RdAt w g T s i raw):
 Calls Tryz.prog 223 #[.pointer (some ⟨g,0,none⟩)] w (StOut g s raw w (.func (.func 224) #[] #[]) { T with s:=lastB s i j } j):=by
 obtain ⟨A,c,L,hO,h6,hz⟩:=h
 have hg:=Lay.lt L
 have HO:=Lib.hid hO
 have HZ:=Lib.hid hz
 have L1:=Lib.hid L
 have HX:=Lib.hid (skip_any s skipCs skipC skip_cs (asc_of (by decide)) (by decide) i g hs hi w hg (L.1 7) (L.2 7))
 have hr:=runAt_le skipC s i hi
 rw[←hj]at HX hr
 have HS:=Lib.hid (fun w=>strings_HasSuffix (s.extract i j) ⟨#[47]⟩ w (by rw[ByteArray.size_extract];omega))
 rw[show (ByteArray.mk #[47]).data.toList=[47] from rfl,suffix_one s i j (by omega) hr]at HS
 clear hO hz L hj
 have e2:(tl s j).toList=[]:=by rw[tl_end s (by omega),ByteArray.toList_eq]
 have e3:(tl s j).toList.isEmpty=true:=by simpa using e2
 go_enter Tryz.func223,Tryz.ntmps223
 go_wp2_with (first
  | (go_at_call 257;refine HX.out.mono ?_;rintro e w2 ⟨rfl,hM⟩;have hM2:=hM.lay L1.out;have m0:=hM2.1.1;have m1:=hM2.1.2;have L2:=Lib.hid hM2.1;have B2:=Lib.hid hM2.2;clear hM hM2)
  | (go_at_call 151;refine (HS.out _).mono ?_;rintro e w3 ⟨rfl,rfl⟩))
 go_ret
 have LF:Lay (w3.setCell ⟨g,6,none⟩ (.bool (lastB s i j))) g #[.int .i64 T.k,.int .i64 (T.a:Int),.int .i64 (T.l:Int),.string T.n,.string T.t,.slice A T.al.length c,.bool (lastB s i j),.string (tl s j),.string raw]:=L2.out.set 6 (.bool (lastB s i j))
 have BF:=only_trans B2.out (only_set _ g 6 (.bool (lastB s i j)))
 exact ⟨rfl,RdAt.mk' (T':={ T with s:=lastB s i j }) HO.out h6 HZ.out rfl LF rfl rfl BF,only_below BF (Nat.le_of_lt hg)⟩
end Go.Proofs.YthdkkpbhijlpaaaGreatDoor
