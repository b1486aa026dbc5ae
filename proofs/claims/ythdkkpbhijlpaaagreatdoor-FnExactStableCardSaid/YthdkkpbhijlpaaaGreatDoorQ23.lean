import Derived.Test.YthdkkpbhijlpaaaGreatDoorProg
import Derived.WalkKit
import Derived.ProofKit
import Derived.Lib.Hide
import Derived.Below
import Derived.StillTailTactics
import Derived.Deep.QuietTactic
import Derived.BigQuiet
import Derived.WalkSmall
import Derived.IntWalk
import Derived.Maps.AppendAt
import Derived.Deep.DeepCutAuto
import Derived.Test.YthdkkpbhijlpaaaGreatDoorQ22
import Derived.Test.YthdkkpbhijlpaaaGreatDoorQ20
set_option linter.unusedVariables false
namespace Go.Proofs.YthdkkpbhijlpaaaGreatDoor
open Go.ChangeShapes Go.WideShapes Go.ChangeAt Go.RowKit Go.Deep
theorem l05Space_any (l:List (ByteArray × Int)) (n:ByteArray) (w:World) (A:Option Addr) (c b o:Nat) (hl:OsIn w A b o l):
 Calls Tryz.prog 130 #[.slice A l.length c,.string n] w fun e w'=>e=.returned (.int .i64 (spcOf l n))∧w=w':=by
 have hml:=hl.1.1
 unfold maxLen at hml
 by_cases h:spaceI n=0
 ·have HS:=Lib.hid h
  by_cases h0:0<l.length
  ·obtain ⟨rfl,hlt,t1,t2,t3⟩:=hl.get (l.length-1) (by omega)
   have HE:Hid (spcOf l n=l[l.length-1].2):=Lib.hid (by rw[spcOf,if_pos h,topOf_last h0])
   have h0':((l.length:Int)==0)=false:=beq_eq_false_iff_ne.2 (by omega)
   have hq:((l.length:Int)-1).toNat=l.length-1:=by omega
   clear h
   go_enter Tryz.func130,Tryz.ntmps130
   go_wp2_with (go_at_call 194;refine (l01Space_any _ _).mono ?_;rintro e w' ⟨rfl,rfl⟩;rw[HS.out])
   go_ret
   exact ⟨ret_int HE.out.symm,rfl⟩
  ·obtain rfl:l=[]:=List.length_eq_zero_iff.1 (by omega)
   have HE:Hid (spcOf [] n=0):=Lib.hid (by rw[spcOf,if_pos h];rfl)
   clear h
   go_enter Tryz.func130,Tryz.ntmps130
   go_wp2_with (go_at_call 194;refine (l01Space_any _ _).mono ?_;rintro e w' ⟨rfl,rfl⟩;rw[HS.out])
   go_ret
   exact ⟨ret_int HE.out.symm,rfl⟩
 ·have HE:Hid (spcOf l n=spaceI n):=Lib.hid (if_neg h)
  have h':(spaceI n==0)=false:=beq_eq_false_iff_ne.2 h
  have h'':(spaceI n != 0)=true:=by simpa using h
  go_enter Tryz.func130,Tryz.ntmps130
  go_wp2_with (go_at_call 194;refine (l01Space_any _ _).mono ?_;rintro e w' ⟨rfl,rfl⟩)
  go_ret
  exact ⟨ret_int HE.out.symm,rfl⟩
theorem l05Close_any (l:List (ByteArray × Int)) (n:ByteArray) (w:World) (A:Option Addr) (c b o:Nat) (hl:OsIn w A b o l):
 Calls Tryz.prog 76 #[.slice A l.length c,.string n] w fun e w'=>e=.returned (.int .i64 ((cutOf (nameIs n) l:Nat)-1))∧Below w.heap.size w w':=by
 have hml:=hl.1.1
 unfold maxLen at hml
 have HL:=Lib.hid hl
 clear hl
 go_enter Tryz.func76,Tryz.ntmps76
 go_wp2
 go_loopw [5] (fun i wr=>∃z:Int,i=.int .i64 z∧-1≤z∧z<l.length∧Hid (cutTo (nameIs n) l (z+1).toNat=cutOf (nameIs n) l∧Below w.heap.size w wr)) (fun i wr=>(intOf i+1).toNat)
 case atStart=>exact ⟨_,rfl,by omega,by omega,Lib.hid ⟨by rw[show ((l.length:Int)-1+1).toNat=l.length by omega];rfl,Below.refl _ _⟩⟩
 case round=>
  obtain ⟨z,rfl,hz1,hz2,HH⟩:=hrel
  by_cases hz:0≤z
  ·obtain ⟨k,rfl⟩:=Int.eq_ofNat_of_zero_le hz
   have hkl:k<l.length:=by omega
   obtain ⟨rfl,hlt,t1,t2,t3⟩:=(HL.out.next HH.out.2).get k hkl
   by_cases ho:nameIs n l[k]=true
   ·have HC:Hid (k+1=cutOf (nameIs n) l):=Lib.hid (by have:=HH.out.1;rw[show ((k:Int)+1).toNat=k+1 by omega,cutTo_yes hkl ho]at this;exact this)
    have ho':(l[k].1.toList==n.toList)=true:=ho
    clear ho
    go_wp2
    go_ret
    exact ⟨ret_int (by rw[←HC.out];try omega),HH.out.2⟩
   ·have ho':nameIs n l[k]=false:=by simpa using ho
    have HC:Hid (cutTo (nameIs n) l k=cutOf (nameIs n) l):=Lib.hid (by have:=HH.out.1;rw[show ((k:Int)+1).toNat=k+1 by omega,cutTo_no hkl ho']at this;exact this)
    have ho2:(l[k].1.toList==n.toList)=false:=ho'
    clear ho ho'
    go_wp2
    go_roundw
    case rel=>exact ⟨(k:Int)-1,rfl,by omega,by omega,Lib.hid ⟨by rw[show ((k:Int)-1+1).toNat=k by omega];exact HC.out,HH.out.2⟩⟩
    case measure=>(simp[intOf] <;> omega)
  ·obtain rfl:z = -1:=by omega
   go_wp2
   go_ret
   exact ⟨ret_int (by rw[←HH.out.1];rfl),HH.out.2⟩
end Go.Proofs.YthdkkpbhijlpaaaGreatDoor
namespace Go.Proofs.YthdkkpbhijlpaaaGreatDoor
open Go.ChangeShapes Go.WideShapes Go.ChangeAt Go.RowKit Go.Deep
def osVals:List (ByteArray × Int)→List Value
 | []=>[]
 | x::r=>.string x.1::.int .i64 x.2::osVals r
theorem osVals_len:∀l:List (ByteArray × Int),(osVals l).length=l.length*2
 | []=>rfl
 | _::r=>by simp only[osVals,List.length_cons,osVals_len r];omega
theorem infoOpen:(Tryz.prog.info? 168).map (fun i=>(i.zero,i.size,i.bytes))=some (some (.agg #[.string ⟨#[]⟩,.int .i64 0]),2,24):=by kernel_rfl
theorem info_ofO {t:TypeId} {z:Value} {s b:Nat} (h:(Tryz.prog.info? t).map (fun i=>(i.zero,i.size,i.bytes))=some (some z,s,b)):∃i,Tryz.prog.info? t=some i∧i.zero=some z∧i.size=s∧i.bytes=b:=by
 obtain ⟨i,hi,hzz⟩:=Option.map_eq_some_iff.1 h
 simp only[Prod.mk.injEq]at hzz
 exact ⟨i,hi,hzz⟩
def ORow (w:World) (base:Nat) (v:Value) (l:List (ByteArray × Int)):Prop:=w.ownsRow base 168 2 v l.length (osVals l)
end Go.Proofs.YthdkkpbhijlpaaaGreatDoor
namespace Go.Proofs.YthdkkpbhijlpaaaGreatDoor
open Go.ChangeShapes Go.WideShapes Go.ChangeAt Go.RowKit Go.Deep
set_option maxRecDepth 100000 in
theorem raw_any (bb:Nat) (z:Zi) (v v0 pv:Value) (ps:List Value) (bF bl:List Nat) (w:World) (h:BI w bb z v v0 pv ps bF bl):
 Calls Tryz.prog 59 #[.pointer (some ⟨bb,0,none⟩)] w fun e w'=>e=.returned (.string z.raw)∧w=w':=by
 have p1:w.cell? ⟨bb,1,none⟩=some pv:=h.lay.1 1
 have HO:=Lib.hid (And.intro h.op (show ps.length≤100 by have:=h.len;have:=h.fit.2.2.1;omega))
 obtain ⟨F,up,c⟩:=z
 cases up with
 | nil=>
  obtain ⟨_,e2,_⟩:=h.tr.up
  subst e2
  clear h
  have E:Hid ((⟨F,[],c⟩:Zi).raw=⟨#[]⟩):=Lib.hid (by
   simp only[Zi.raw,rawIn,opensOf,List.map_nil,List.reverse_nil,topOf_nil]
   rw[if_neg (by simp only[inL,ByteArray.toList_eq];decide)])
  go_enter Tryz.func59,Tryz.ntmps59
  go_wp2_with (go_at_call 108;refine (innermostN_any pv [] (bb+1) _ HO.out.1 HO.out.2).mono ?_;rintro e w' ⟨rfl,rfl⟩;rw[show ([]:List Value).getLast?.getD (.pointer none)=.pointer none from rfl])
  go_ret
  exact ⟨by rw[E.out];rfl,rfl⟩
 | cons x up=>
  obtain ⟨g,e1,_,e3,_⟩:=h.tr.up.top
  have E1:=Lib.hid (show ps.getLast?.getD (.pointer none)=.pointer (some ⟨g,x.P.len*6,none⟩) by rw[e1];rfl)
  have HN:=Lib.hid e3
  have c2:=e3.1.2.2.1
  simp only at c2
  clear h e1 e3
  cases hr:rawB ⟨1,x.sp,x.n,⟨#[]⟩,x.al⟩ with
  | true=>
   have E:Hid ((⟨F,x::up,c⟩:Zi).raw=x.n):=Lib.hid (by
    simp only[Zi.raw,rawIn,topOf_cons]
    rw[if_pos (by simpa[rawB]using hr)])
   have EC:Hid (contI ⟨1,x.sp,x.n,⟨#[]⟩,x.al⟩=1):=Lib.hid (by
    have hv:voidB ⟨1,x.sp,x.n,⟨#[]⟩,x.al⟩=false:=by
     have:inL rawL x.n=true:=by simp only[rawB,Bool.and_eq_true]at hr;exact hr.2
     simp[voidB,raw_void this]
    rw[contI,hv,hr];rfl)
   clear hr
   go_enter Tryz.func59,Tryz.ntmps59
   go_wp2_with (first
    | (go_at_call 108;refine (innermostN_any pv ps (bb+1) _ HO.out.1 HO.out.2).mono ?_;rintro e w' ⟨rfl,rfl⟩;rw[E1.out])
    | (go_at_call 109;refine (contentOf_any _ g (x.P.len*6) 0 w.heap.size _ HN.out).mono ?_;rintro e w' ⟨rfl,rfl⟩;rw[EC.out]))
   go_ret
   exact ⟨by rw[E.out];rfl,rfl⟩
  | false=>
   have E:Hid ((⟨F,x::up,c⟩:Zi).raw=⟨#[]⟩):=Lib.hid (by
    simp only[Zi.raw,rawIn,topOf_cons]
    rw[if_neg (by simpa[rawB]using hr)])
   have EC:Hid ((contI ⟨1,x.sp,x.n,⟨#[]⟩,x.al⟩==1)=false):=Lib.hid (by
    unfold contI
    rw[hr]
    split <;> decide)
   clear hr
   generalize hq:contI ⟨1,x.sp,x.n,⟨#[]⟩,x.al⟩=q at *
   have HQ:=Lib.hid hq
   have hq':=EC.out
   clear hq
   go_enter Tryz.func59,Tryz.ntmps59
   go_wp2_with (first
    | (go_at_call 108;refine (innermostN_any pv ps (bb+1) _ HO.out.1 HO.out.2).mono ?_;rintro e w' ⟨rfl,rfl⟩;rw[E1.out])
    | (go_at_call 109;refine (contentOf_any _ g (x.P.len*6) 0 w.heap.size _ HN.out).mono ?_;rintro e w' ⟨rfl,rfl⟩;rw[HQ.out]))
   go_ret
   exact ⟨by rw[E.out];rfl,rfl⟩
theorem UpI.nth {w:World} {base:Nat}:∀{up:List Fr} {v v0:Value} {ps:List Value} {bl:List Nat},UpI w base up v v0 ps bl→∀i,i<ps.length→∃g o n sp,ps[i]?=some (.pointer (some ⟨g,o,none⟩))∧(opensOf up)[i]?=some (n,sp)∧w.cell? ⟨g,o+1,none⟩=some (.int .i64 sp)∧w.cell? ⟨g,o+2,none⟩=some (.string n)∧n.size≤maxLen
 | [],_,_,_,_,h,i,hi=>by rw[h.2.1]at hi;simp at hi
 | x::up,v,v0,ps,bl,h,i,hi=>by
  obtain ⟨g,e1,_,e3,_⟩:=h.top
  obtain ⟨_,_,_,_,_,_,_,ps',bl',_,_,_,h7,h8,_,_⟩:=h
  have hl:=h8.len
  have hol:(opensOf up).length=ps'.length:=by rw[opensOf_len,hl]
  rw[h7,List.length_append]at hi
  by_cases hlt:i<ps'.length
  ·obtain ⟨g',o',n',sp',r1,r2,r3,r4,r5⟩:=UpI.nth h8 i hlt
   exact ⟨g',o',n',sp',by rw[h7,List.getElem?_append_left hlt];exact r1,by rw[opensOf_cons,List.getElem?_append_left (by omega)];exact r2,r3,r4,r5⟩
  ·have he:i=ps'.length:=by simp at hi;omega
   subst he
   have hg:ps[ps'.length]?=ps.getLast?:=by rw[h7];simp
   exact ⟨g,x.P.len*6,x.n,x.sp,hg.trans e1,by rw[opensOf_cons,←hol];simp,e3.1.2.1,e3.1.2.2.1,e3.1.2.2.2.2.1⟩
theorem osAt_row {w:World} {b:Nat}:∀{l:List (ByteArray × Int)} {o:Nat},(∀x ∈ l,x.1.size≤maxLen)→(∀j u,(osVals l)[j]?=some u→w.cell? ⟨b,o+j,none⟩=some u)→OsAt w b o l
 | [],_,_,_=>trivial
 | x::r,o,hs,h=>by
  refine ⟨h 0 _ rfl,h 1 _ rfl,hs x (by simp),osAt_row (fun y hy=>hs y (by simp[hy])) fun j u hj=>?_⟩
  have:=h (j+2) u (by simpa[osVals]using hj)
  rwa[show o+2+j=o+(j+2) by omega]
theorem ORow.stk {w:World} {base:Nat} {v:Value} {l:List (ByteArray × Int)} (h:ORow w base v l) (hs:∀x ∈ l,x.1.size≤maxLen) (hl:l.length≤4096):∃A c b,v=.slice A l.length c∧l.length≤c∧(A=some ⟨b,0,none⟩∨(A=none∧c=0))∧OsIn w A b 0 l∧(0<l.length→base≤b):=by
 have hc:=fun g hg=>World.ownsRow.cells h (g:=g) hg
 have hlt:=World.ownsRow.lt h
 obtain ⟨hlen,h⟩:=h
 rcases h with ⟨rfl,h0⟩ | ⟨g,cap,cur,rfl,hb,hg,hn,_⟩
 ·have e:l=[]:=List.length_eq_zero_iff.1 h0
  subst e
  exact ⟨none,0,0,rfl,Nat.le_refl _,Or.inr ⟨rfl,rfl⟩,⟨⟨Nat.zero_le _,fun h=>absurd h (Nat.lt_irrefl _)⟩,trivial⟩,fun h=>absurd h (Nat.lt_irrefl _)⟩
 ·refine ⟨_,cap,g,rfl,hn,Or.inl rfl,⟨⟨by unfold maxLen;omega,fun _=>⟨rfl,Nat.zero_le _,(hlt g rfl).2⟩⟩,osAt_row hs fun j u hj=>?_⟩,fun _=>hb⟩
  have:=hc g rfl j u hj
  rwa[Addr.add_lit]at this
def OpensOut (l:List (ByteArray × Int)) (w:World) (e:Ending) (w':World):Prop:=∃A c b,e=.returned (.slice A l.length c)∧l.length≤c∧(A=some ⟨b,0,none⟩∨(A=none∧c=0))∧OsIn w' A b 0 l∧Below w.heap.size w w'∧(0<l.length→w.heap.size≤b)
theorem osVals_snoc (l:List (ByteArray × Int)) (x:ByteArray × Int):osVals (l++[x])=osVals l++[.string x.1,.int .i64 x.2]:=by
 induction l with
 | nil=>rfl
 | cons y r ih=>simp[osVals,ih]
set_option maxHeartbeats 1000000 in
set_option maxRecDepth 100000 in
theorem opens_any (bb:Nat) (z:Zi) (v v0 pv:Value) (ps:List Value) (bF bl:List Nat) (w:World) (h:BI w bb z v v0 pv ps bF bl):
 Calls Tryz.prog 177 #[.pointer (some ⟨bb,0,none⟩)] w (OpensOut (opensOf z.up) w):=by
 have p1:w.cell? ⟨bb,1,none⟩=some pv:=h.lay.1 1
 have HNth:=Lib.hid h.tr.up.nth
 have hlen:=h.len
 have h10:=h.fit.2.2.1
 have hol:(opensOf z.up).length=ps.length:=by rw[opensOf_len,hlen]
 have hbb:=(h.lt bb (Or.inl rfl)).2
 have hop:=h.op
 have HSM:Hid (∀x ∈ opensOf z.up,x.1.size≤maxLen):=Lib.hid fun x hx=>by
  obtain ⟨i,hi,e⟩:=List.getElem_of_mem hx
  obtain ⟨g,o,n,sp,_,r2,_,_,r5⟩:=h.tr.up.nth i (by omega)
  rw[List.getElem?_eq_getElem hi,e]at r2
  injection r2 with r2
  rw[r2];exact r5
 have hpv:∃C d,pv=.slice C ps.length d∧(0<ps.length→∃gp,C=some ⟨gp,0,none⟩∧gp<w.heap.size∧∀j u,ps[j]?=some u→w.cell? ⟨gp,j,none⟩=some u):=by
  rcases hop.2 with ⟨rfl,h0⟩ | ⟨g,cap,cur,rfl,_,hg,_⟩
  ·exact ⟨none,0,by rw[h0],fun hx=>by omega⟩
  ·refine ⟨_,cap,rfl,fun _=>⟨g,rfl,(Array.getElem?_eq_some_iff.1 hg).1,fun j u hj=>?_⟩⟩
   have:=World.ownsRow.cells hop (g:=g) rfl j u hj
   rwa[Addr.add_lit,Nat.zero_add]at this
 obtain ⟨C,d,rfl,hC⟩:=hpv
 have HC:=Lib.hid hC
 have HOL:=Lib.hid hol
 have hpl:ps.length≤10:=by omega
 clear h hop hC hol hlen h10
 generalize hl:opensOf z.up=l at *
 clear hl
 obtain ⟨i0,hi0,hz0,hz1,hz2⟩:=info_ofO infoOpen
 have HZ:=Lib.hid (And.intro hz0 (And.intro hz1 hz2))
 clear hz0 hz1 hz2
 go_enter Tryz.func177,Tryz.ntmps177
 go_wp2
 go_loopw [3,11] (fun s0 i wr=>∃(j:Nat) (s:Value),s=s0∧j≤ps.length∧i=.int .i64 (j:Int)∧Hid (ORow wr w.heap.size s (l.take j)∧Below w.heap.size w wr)) (fun s i wr=>ps.length-(intOf i).toNat)
 case atStart=>exact ⟨0,_,rfl,Nat.zero_le _,rfl,Lib.hid ⟨World.ownsRow_nil _ _ _ _,Below.refl _ _⟩⟩
 case round=>
  obtain ⟨j,s,rfl,hj,rfl,HH⟩:=hrel
  by_cases hlt:j<ps.length
  ·obtain ⟨g,o,n,sp,r1,r2,r3,r4,r5⟩:=HNth.out j hlt
   obtain ⟨gp,rfl,hgp,hcp⟩:=HC.out (by omega)
   have hB:=HH.out.2
   have hgw:g<w.heap.size:=World.block_lt_of_cell? w ⟨g,o+1,none⟩ r3
   have q0:=(hB.cell (p:=⟨gp,j,none⟩) hgp).trans (hcp j _ r1)
   have q1:=(hB.cell (p:=⟨g,o+1,none⟩) hgw).trans r3
   have q2:=(hB.cell (p:=⟨g,o+2,none⟩) hgw).trans r4
   have hlj:j<l.length:=by have:=HOL.out;omega
   have hx:l[j]=(n,sp):=by rw[List.getElem?_eq_getElem hlj]at r2;injection r2
   have HT:Hid (l.take (j+1)=l.take j++[(n,sp)]∧(l.take j).length=j):=Lib.hid ⟨by rw[List.take_succ_eq_append_getElem hlj,hx],by rw[List.length_take];omega⟩
   have HB:=Lib.hid hB
   have hws:w.heap.size≤wr.heap.size:=hB.size
   have HO:Hid (wr.ownsRow w.heap.size 168 2 s j (osVals (l.take j))):=Lib.hid (by have:=HH.out.1;unfold ORow at this;rw[HT.out.2]at this;exact this)
   clear hB r1 r2 r3 r4 hx hcp HH
   go_wp2_with fail
   go_region_law ((refine step_append_lies _ (by rfl) _ _ _ (by rfl) w.heap.size 168 i0 _ 2 24 Tryz.underlying191 hi0 HZ.out.1 HZ.out.2.1 HZ.out.2.2 rfl (by omega) s j (osVals (l.take j)) (by rfl) (HO.out.alloc _) ⟨wr.heap.size,0,none⟩ 1 1 [.string n,.int .i64 sp] (by rfl) (by rfl) (World.news_of_block (cs:=#[.string n,.int .i64 sp]) (t:=168) (fr:=(0,0)) (heap_alloc_new wr _)) (by simp[Value.oneCell']) (by omega) (by unfold maxLen;omega) (by omega) (by simp;omega) (wr.heap.size+1) (by simp) ?_;intro gg cap w1 hown1 hgrow hat hlt1;have HW:=Lib.hid (And.intro hown1 hgrow);clear hown1 hgrow hat hlt1))
   all_goals
    go_wp2
    go_roundw
    case rel=>exact ⟨j+1,_,rfl,by omega,by go_num,Lib.hid ⟨by
     have h1:=HW.out.1
     unfold ORow
     rw[HT.out.1,List.length_append,HT.out.2,osVals_snoc]
     exact h1,(HB.out.drew.alloc (by exact hws) _).grown HW.out.2 (by simp;omega) fun q hq=>(World.ownsRow.lt HO.out q hq).1⟩⟩
    case measure=>simp[intOf];omega
  ·obtain rfl:j=ps.length:=by omega
   have HF:Hid (ORow wr w.heap.size s l∧Below w.heap.size w wr):=Lib.hid (by have:=HH.out;rw[←HOL.out,List.take_length]at this;exact this)
   obtain ⟨A,c,b,rfl,f1,f2,f3,f4⟩:=HF.out.1.stk HSM.out (by have:=HOL.out;omega)
   have HR:=Lib.hid (And.intro f1 (And.intro f2 (And.intro f3 f4)))
   clear f1 f2 f3 f4 HH
   go_wp2
   go_ret
   exact ⟨A,c,b,rfl,HR.out.1,HR.out.2.1,HR.out.2.2.1,HF.out.2,HR.out.2.2.2⟩
end Go.Proofs.YthdkkpbhijlpaaaGreatDoor
namespace Go.Proofs.YthdkkpbhijlpaaaGreatDoor
open Go.ChangeShapes Go.WideShapes Go.ChangeAt Go.RowKit Go.Deep
theorem end1_any (n nm:ByteArray) (g gq o:Nat) (w:World) (hc:w.cell? ⟨g,0,none⟩=some (.string n)) (hq:w.cell? ⟨gq,o+2,none⟩=some (.string nm)):
 Calls Tryz.prog 181 #[.pointer (some ⟨gq,o,none⟩),.pointer (some ⟨g,0,none⟩)] w fun e w'=>e=.returned (.bool (nm.toList==n.toList))∧Below w.heap.size w w':=by
 go_enter Tryz.func181,Tryz.ntmps181
 go_wp2
 go_quiet (fail)
 go_wp2
 go_ret
 exact ⟨rfl,below_drewN (Below.refl _ _) _⟩
def PtrsTo (w:World) (ps:List Value) (l:List (ByteArray × Int)):Prop:=l.length=ps.length∧∀i,i<ps.length→∃g o n sp,ps[i]?=some (.pointer (some ⟨g,o,none⟩))∧l[i]?=some (n,sp)∧w.cell? ⟨g,o+1,none⟩=some (.int .i64 sp)∧w.cell? ⟨g,o+2,none⟩=some (.string n)∧n.size≤maxLen
def PtrRow (w:World) (C:Option Addr) (ps:List Value):Prop:=0<ps.length→∃gp,C=some ⟨gp,0,none⟩∧gp<w.heap.size∧∀j u,ps[j]?=some u→w.cell? ⟨gp,j,none⟩=some u
theorem BI.ptrs {w:World} {bb:Nat} {z:Zi} {v v0 pv:Value} {ps:List Value} {bF bl:List Nat} (h:BI w bb z v v0 pv ps bF bl):PtrsTo w ps (opensOf z.up)∧∃C d,pv=.slice C ps.length d∧ps.length≤d∧PtrRow w C ps∧(0<ps.length∨C.isSome=true∨d=0):=by
 refine ⟨⟨by rw[opensOf_len,h.len],h.tr.up.nth⟩,?_⟩
 have hop:=h.op
 rcases hop.2 with ⟨rfl,h0⟩ | ⟨g,cap,cur,rfl,_,hg,hn,_⟩
 ·exact ⟨none,0,by rw[h0],by omega,fun hx=>by omega,Or.inr (Or.inr rfl)⟩
 ·refine ⟨_,cap,rfl,hn,fun _=>⟨g,rfl,(Array.getElem?_eq_some_iff.1 hg).1,fun j u hj=>?_⟩,Or.inr (Or.inl rfl)⟩
  have:=World.ownsRow.cells hop (g:=g) rfl j u hj
  rwa[Addr.add_lit,Nat.zero_add]at this
set_option maxRecDepth 100000 in
theorem placeN_any (l:List (ByteArray × Int)) (ps:List Value) (n:ByteArray) (g:Nat) (w:World) (C:Option Addr) (d:Nat) (hl:PtrsTo w ps l) (hC:PtrRow w C ps) (hg:g<w.heap.size) (hc:w.cell? ⟨g,0,none⟩=some (.string n)) (h10:l.length≤100):
 Calls Tryz.prog 180 #[.slice C l.length d,.func (.func 181) #[] #[.pointer (some ⟨g,0,none⟩)]] w fun e w'=>e=.returned (.int .i64 ((cutOf (nameIs n) l:Nat)-1))∧Below w.heap.size w w':=by
 have HL:=Lib.hid (And.intro hl hC)
 have HG:=Lib.hid (And.intro hg hc)
 clear hl hc hg hC
 go_enter Tryz.func180,Tryz.ntmps180
 go_wp2
 go_loopw [5] (fun i wr=>∃z:Int,i=.int .i64 z∧-1≤z∧z<l.length∧Hid (cutTo (nameIs n) l (z+1).toNat=cutOf (nameIs n) l∧Below w.heap.size w wr)) (fun i wr=>(intOf i+1).toNat)
 case atStart=>exact ⟨_,rfl,by omega,by omega,Lib.hid ⟨by rw[show ((l.length:Int)-1+1).toNat=l.length by omega];rfl,Below.refl _ _⟩⟩
 case round=>
  obtain ⟨z,rfl,hz1,hz2,HH⟩:=hrel
  by_cases hz:0≤z
  ·obtain ⟨k,rfl⟩:=Int.eq_ofNat_of_zero_le hz
   have hkl:k<l.length:=by omega
   obtain ⟨gq,o,nm,sp,r1,r2,r3,r4,r5⟩:=HL.out.1.2 k (by rw[←HL.out.1.1];exact hkl)
   obtain ⟨gp,rfl,hgp,hcp⟩:=HL.out.2 (by rw[←HL.out.1.1];omega)
   have t0:=(HH.out.2.cell (p:=⟨gp,k,none⟩) hgp).trans (hcp k _ r1)
   have t2:=(HH.out.2.cell (p:=⟨gq,o+2,none⟩) (World.block_lt_of_cell? w ⟨gq,o+2,none⟩ r4)).trans r4
   have tg:=(HH.out.2.cell (p:=⟨g,0,none⟩) HG.out.1).trans HG.out.2
   have hx:l[k]=(nm,sp):=by rw[List.getElem?_eq_getElem hkl]at r2;injection r2
   have HX:=Lib.hid (show nameIs n l[k]=(nm.toList==n.toList) by rw[hx];rfl)
   clear r1 r2 r3 r4 r5 hx hcp
   by_cases ho:(nm.toList==n.toList)=true
   ·have HO:=Lib.hid ho
    have HC:Hid (k+1=cutOf (nameIs n) l):=Lib.hid (by have:=HH.out.1;rw[show ((k:Int)+1).toNat=k+1 by omega,cutTo_yes hkl (HX.out.trans HO.out)]at this;exact this)
    clear ho
    go_wp2_with (go_at_call 181;refine (end1_any n nm g gq o _ tg t2).mono ?_;rintro e w' ⟨rfl,hB⟩;rw[HO.out];have HB:=Lib.hid hB;clear hB)
    go_ret
    exact ⟨ret_int (by rw[←HC.out];try omega),HH.out.2.trans (HB.out.mono HH.out.2.size)⟩
   ·have ho':(nm.toList==n.toList)=false:=by simpa using ho
    have HO:=Lib.hid ho'
    have HC:Hid (cutTo (nameIs n) l k=cutOf (nameIs n) l):=Lib.hid (by have:=HH.out.1;rw[show ((k:Int)+1).toNat=k+1 by omega,cutTo_no hkl (HX.out.trans HO.out)]at this;exact this)
    clear ho ho'
    go_wp2_with (go_at_call 181;refine (end1_any n nm g gq o _ tg t2).mono ?_;rintro e w' ⟨rfl,hB⟩;rw[HO.out];have HB:=Lib.hid hB;clear hB)
    go_roundw
    case rel=>exact ⟨(k:Int)-1,rfl,by omega,by omega,Lib.hid ⟨by rw[show ((k:Int)-1+1).toNat=k by omega];exact HC.out,HH.out.2.trans (HB.out.mono HH.out.2.size)⟩⟩
    case measure=>(simp[intOf] <;> omega)
  ·obtain rfl:z = -1:=by omega
   go_wp2
   go_ret
   exact ⟨ret_int (by rw[←HH.out.1];rfl),HH.out.2⟩
theorem Tr.pops {w:World} {base:Nat} {v0:Value}:∀(j:Nat) {z:Zi} {v:Value} {ps:List Value} {bF bl:List Nat},Tr w base z.F z.up v v0 ps bF bl→z.fit →
 ∃v' bF' bl',Tr w base (z.pops j).F (z.pops j).up v' v0 (ps.take (ps.length-j)) bF' bl'∧∀k ∈ ownL v'++bF'++bl',k ∈ ownL v++bF++bl
 | 0,z,v,ps,bF,bl,h,_=>⟨v,bF,bl,by rw[Nat.sub_zero,List.take_length];exact h,fun _ hk=>hk⟩
 | j+1,⟨F,[],c⟩,v,ps,bF,bl,h,hf=>by
  have e:ps=[]:=h.up.2.1
  subst e
  obtain ⟨v',bF',bl',r1,r2⟩:=Tr.pops j (z:=⟨F,[],c⟩) h hf
  rw[List.take_nil]at r1
  exact ⟨v',bF',bl',by rw[List.take_nil];exact r1,r2⟩
 | j+1,⟨F,x::up,c⟩,v,ps,bF,bl,h,hf=>by
  have hF:F.len≤maxLen:=by have h1:=hf.1;have h2:=hf.2.1;unfold cntZ at h1;simp only at h1 h2;unfold maxLen;omega
  obtain ⟨v',ps',p,bF',bl',h1,h2,h3⟩:=h.pop hF
  have hfit:=Zi.fit_pop hf
  obtain ⟨v2,bF2,bl2,r1,r2⟩:=Tr.pops j (z:=(⟨F,x::up,c⟩:Zi).pop) h1 hfit
  refine ⟨v2,bF2,bl2,?_,fun k hk=>h3 k (r2 k hk)⟩
  have e:ps.take (ps.length-(j+1))=ps'.take (ps'.length-j):=by
   rw[h2,List.length_append,List.take_append_of_le_length (by simp)]
   congr 1
   simp
  rw[e]
  exact r1
theorem ownsRow_take {w:World} {base g n cap k:Nat} {e:TypeId} {xs:List Value} (h:w.ownsRow base e 1 (.slice (some ⟨g,0,none⟩) n cap) n xs) (hk:k≤n):w.ownsRow base e 1 (.slice (some ⟨g,0,none⟩) k cap) k (xs.take k):=by
 obtain ⟨h1,h2⟩:=h
 rcases h2 with ⟨h2,_⟩ | ⟨g',cap',cur,e1,e2,e3,e4,e5,e6,e7⟩
 ·cases h2
 ·injection e1 with e1 _ e8
  injection e1 with e1
  injection e1 with e1
  subst e1 e8
  refine ⟨by rw[List.length_take];omega,Or.inr ⟨g,cap,cur,rfl,e2,e3,by omega,e5,e6,?_⟩⟩
  rw[←e7,List.take_take]
  congr 1
  omega
theorem slice_ptrs (A:Option Addr) (g n c k:Nat) (hk:k≤c) (hA:A=some ⟨g,0,none⟩∨(A=none∧c=0)) (w:World):(Instr.slice 84 (.slice A n c) none (some (.int .i64 (k:Int))) none).run Tryz.prog w=.ok (.slice A k c) w:=by
 have he:Tryz.prog.elem 84 = 126 := by kernel_rfl
 have ht:Tryz.prog.underlying 84 = some (.slice (Tryz.prog.elem 84)):=by kernel_rfl
 have hs:(sizeOf 126).run Tryz.prog w=.ok 1 w:=by kernel_rfl
 rw[run_slice_h w _ _ _ _ ht .i64 (k:Int) (by omega) (by omega),he,hs]
 show Result.ok (sliced A 0 (k:Int).toNat c 1) w=_
 unfold sliced
 rw[Int.toNat_natCast]
 by_cases e:c=0
 ·subst e
  obtain rfl:k=0:=by omega
  rfl
 ·rw[if_neg e]
  rcases hA with rfl | ⟨rfl,h⟩
  ·simp[Addr.add]
  ·omega
theorem BI.cut {w:World} {bb:Nat} {z:Zi} {v v0:Value} {C:Option Addr} {d:Nat} {ps:List Value} {bF bl:List Nat} (h:BI w bb z v v0 (.slice C ps.length d) ps bF bl) (k:Nat) (hk:k≤z.up.length):
 ∃v' bF' bl',BI (w.setCell ⟨bb,1,none⟩ (.slice C k d)) bb (z.to k) v' v0 (.slice C k d) (ps.take k) bF' bl'∧(∀q,FpI bb v' (.slice C k d) bF' bl' q→FpI bb v (.slice C ps.length d) bF bl q):=by
 have hlen:=h.len
 obtain ⟨v',bF',bl',r1,r2⟩:=h.tr.pops (z.up.length-k) h.fit
 have e:ps.take (ps.length-(z.up.length-k))=ps.take k:=by rw[hlen];congr 1;omega
 rw[e]at r1
 have far:∀q,bb+1≤q→(w.setCell ⟨bb,1,none⟩ (.slice C k d)).heap[q]?=w.heap[q]?:=fun q hq=>Below.heap_setCell w ⟨bb,1,none⟩ _ q (by rintro rfl;exact absurd hq (Nat.not_succ_le_self _))
 have hob:(Value.slice C k d).ownBlock=(Value.slice C ps.length d).ownBlock:=by cases C <;> rfl
 have hol:ownL (.slice C k d)=ownL (.slice C ps.length d):=by unfold ownL;rw[hob]
 have hop:w.ownsRow (bb+1) 126 1 (.slice C k d) (ps.take k).length (ps.take k):=by
  have hl:(ps.take k).length=k:=by rw[List.length_take];omega
  rw[hl]
  rcases h.op.2 with ⟨e1,e2⟩ | ⟨g,cap,cur,e1,_⟩
  ·injection e1 with e1 _ e3
   subst e1 e3
   obtain rfl:k=0:=by omega
   exact World.ownsRow_nil _ _ _ _
  ·injection e1 with e1 _ e3
   subst e1 e3
   exact ownsRow_take h.op (by omega)
 refine ⟨v',bF',bl',⟨r1.same (by simp) fun q hq=>far q (h.tr.lt q (r2 q hq)).1,ownsRow_same hop fun q hq=>far q (World.ownsRow.lt hop q hq).1,fun q hq hm=>h.dis q (by rw[←hol];exact hq) (r2 q hm),?_,Zi.fit_to h.fit k⟩,fun q hq=>?_⟩
 ·have:=h.lay.set 1 (.slice C k d)
  have hc:(z.to k).c=z.c:=Zi.pops_c _ _
  rw[hc]
  simpa using this
 ·rcases hq with hq | hq | hq
  ·exact Or.inl hq
  ·exact Or.inr (Or.inl (by rw[←hol];exact hq))
  ·exact Or.inr (Or.inr (r2 q hq))
def EndI (bb:Nat) (fp:Nat→Prop) (y:Zi) (w:World) (e:Ending) (w':World):Prop:=
 e=.returned (.tuple #[])∧But fp w w'∧∃v v0 pv ps bF bl,BI w' bb y v v0 pv ps bF bl∧∀k,FpI bb v pv bF bl k→fp k∨w.heap.size≤k
set_option maxRecDepth 100000 in
theorem end_any (bb:Nat) (z:Zi) (v v0 pv:Value) (ps:List Value) (bF bl:List Nat) (n:ByteArray) (w:World) (h:BI w bb z v v0 pv ps bF bl):
 Calls Tryz.prog 113 #[.pointer (some ⟨bb,0,none⟩),.string n] w (EndI bb (FpI bb v pv bF bl) (z.close n) w):=by
 have hmf:∀(fn:Fn) (first cap:Array Value) (w:World),(Instr.makeFunc fn first cap).run Tryz.prog w=.ok (.func fn first cap) w:=fun _ _ _ _=>rfl
 obtain ⟨hP,C,d,rfl,hd,hC,hC0⟩:=h.ptrs
 have hlen:=h.len
 have h10:=h.fit.2.2.1
 have hbb:=(h.lt bb (Or.inl rfl)).2
 have p1:w.cell? ⟨bb,1,none⟩=some (.slice C ps.length d):=h.lay.1 1
 have f1:w.frozen? ⟨bb,1,none⟩=false:=h.lay.2 1
 have B1:=Lib.hid ((Below.refl w.heap.size w).alloc (Nat.le_refl _) (.cells #[.string n] 9))
 have H1:=Lib.hid (h.next B1.out)
 have hol:(opensOf z.up).length=ps.length:=hP.1
 have HC:=Lib.hid (placeN_any (opensOf z.up) ps n w.heap.size (w.alloc (.cells #[.string n] 9)) C d (H1.out.ptrs).1 (fun hx=>by obtain ⟨gp,e1,e2,e3⟩:=hC hx;exact ⟨gp,e1,by simp;omega,fun j u hj=>(B1.out.cell (p:=⟨gp,j,none⟩) e2).trans (e3 j u hj)⟩) (by simp) (by rw[World.cell?_alloc_new];rfl) (by omega))
 rw[hol]at HC
 have hA:∃g,C=some ⟨g,0,none⟩∨(C=none∧d=0):=by
  rcases h.op.2 with ⟨e1,_⟩ | ⟨g,cap,cur,e1,_⟩
  ·injection e1 with e1 _ e3;exact ⟨0,Or.inr ⟨e1,e3⟩⟩
  ·injection e1 with e1 _ _;exact ⟨g,Or.inl e1⟩
 obtain ⟨gA,hA⟩:=hA
 have HH:=Lib.hid h
 have hcl:=cutOf_le (nameIs n) (opensOf z.up)
 have hcu:cutOf (nameIs n) (opensOf z.up)≤z.up.length:=by omega
 have hpd:ps.length≤10:=by omega
 have hcp:cutOf (nameIs n) (opensOf z.up)≤ps.length:=by omega
 clear h hP hC hC0 hol hlen hcl
 by_cases hk:0<cutOf (nameIs n) (opensOf z.up)
 ·have HZ:Hid (z.close n=z.to (cutOf (nameIs n) (opensOf z.up)-1)):=Lib.hid (by unfold Zi.close;rw[if_pos hk])
  obtain ⟨k,hkk⟩:∃k,cutOf (nameIs n) (opensOf z.up)=k+1:=⟨_,(Nat.sub_add_cancel hk).symm⟩
  rw[hkk]at HC HZ hcu hcp
  rw[show ((k+1:Nat):Int)-1=(k:Int) by omega]at HC
  have hs:=slice_ptrs C gA ps.length d k (by omega) hA
  have HR:=Lib.hid (show k+1-1=k by omega)
  clear hkk hk hA
  go_enter Tryz.func113,Tryz.ntmps113
  go_wp2_with (go_at_call 180;refine HC.out.mono ?_;rintro e w1 ⟨rfl,hB⟩;have H2:=Lib.hid (H1.out.next hB);have B2:=Lib.hid (B1.out.trans (hB.mono B1.out.size));have q1:w1.cell? ⟨bb,1,none⟩=some (.slice C ps.length d):=H2.out.lay.1 1;have q2:w1.frozen? ⟨bb,1,none⟩=false:=H2.out.lay.2 1;clear hB)
  go_end0
  obtain ⟨v',bF',bl',r1,r2⟩:=H2.out.cut k (by omega)
  rw[HZ.out,HR.out]
  exact ⟨rfl,(But.of_below B2.out).setCell (p:=⟨bb,1,none⟩) (Or.inl (Or.inl rfl)) _,v',v0,_,_,bF',bl',r1,fun q hq=>Or.inl (r2 q hq)⟩
 ·have HZ:Hid (z.close n=z):=Lib.hid (by unfold Zi.close;rw[if_neg hk])
  have h0:cutOf (nameIs n) (opensOf z.up)=0:=by omega
  rw[h0]at HC
  rw[show ((0:Nat):Int)-1 = -1 by decide]at HC
  clear h0 hk hcu hcp hA
  go_enter Tryz.func113,Tryz.ntmps113
  go_wp2_with (go_at_call 180;refine HC.out.mono ?_;rintro e w1 ⟨rfl,hB⟩;have H2:=Lib.hid (H1.out.next hB);have B2:=Lib.hid (B1.out.trans (hB.mono B1.out.size));clear hB)
  go_end0
  rw[HZ.out]
  exact ⟨rfl,But.of_below B2.out,v,v0,_,ps,bF,bl,H2.out,fun q hq=>Or.inl hq⟩
end Go.Proofs.YthdkkpbhijlpaaaGreatDoor
namespace Go.Proofs.YthdkkpbhijlpaaaGreatDoor
open Go.ChangeShapes Go.WideShapes Go.ChangeAt Go.RowKit Go.Deep
theorem staysOpen_any (x:Nd) (b o lo hi:Nat) (w:World) (self:Bool) (h:NdAt w lo hi b o x):
 Calls Tryz.prog 179 #[.pointer (some ⟨b,o,none⟩),.bool self] w fun e w'=>e=.returned (.bool (staysB x.sp x.n self))∧w=w':=by
 have c1:=h.1.2.1
 have H:=Lib.hid h
 clear h
 by_cases hs:x.sp=0
 ·have HC:Hid (∀q,contI x=q→(q != 2)=staysB x.sp x.n self):=Lib.hid fun q hq=>by
   subst hq
   have hv:voidB x=inL voidL x.n:=by simp[voidB,hs]
   unfold contI staysB
   rw[if_pos hs,←hv]
   cases voidB x with
   | true=>simp
   | false=>cases rawB x <;> simp
  rw[hs]at c1
  obtain ⟨q,hq⟩:∃q,contI x=q:=⟨_,rfl⟩
  have HQ:=Lib.hid hq
  have HR:=Lib.hid (HC.out q hq)
  clear hq hs HC
  go_enter Tryz.func179,Tryz.ntmps179
  go_wp2_with (go_at_call 109;refine (contentOf_any x b o lo hi _ H.out).mono ?_;rintro e w' ⟨rfl,rfl⟩;rw[HQ.out])
  go_ret
  exact ⟨ret_bool HR.out,rfl⟩
 ·have hs':(x.sp != 0)=true:=by simpa using hs
  have HR:Hid ((!self)=staysB x.sp x.n self):=Lib.hid (by unfold staysB;rw[if_neg hs])
  clear hs
  go_enter Tryz.func179,Tryz.ntmps179
  go_wp2
  go_ret
  exact ⟨ret_bool HR.out,rfl⟩
theorem GRow.lastNd {w:World} {base:Nat} {v:Value} {P:Fo} {k sp:Int} {n t:ByteArray} {al:List (ByteArray × ByteArray)} {kids:Fo} {bl:List Nat} (h:GRow w base v (P.app (.one k sp n t al kids)) bl):
 ∃g cap,v=.slice (some ⟨g,0,none⟩) (P.len+1) cap∧NdAt w 0 w.heap.size g (P.len*6) ⟨k,sp,n,t,al⟩:=by
 obtain ⟨xs,ho,hv,hn,hb,hg⟩:=h
 obtain ⟨x1,x2,b1,b2,rfl,rfl,i1,i2⟩:=hv.unapp
 obtain ⟨A,K,ca,ck,ba,bk,br,xr,rfl,rfl,hz,h4,h5,⟨rfl,rfl⟩⟩:=i2
 have hln:(P.app (.one k sp n t al kids)).len=P.len+1:=by rw[Fo.len_app];rfl
 rw[hln]at ho
 have hx1:=i1.len
 rcases ho.2 with ⟨_,h0⟩ | ⟨g,cap,cur,rfl,hbs,hblk,hle,_,_,_⟩
 ·omega
 ·have hc:∀j u,j<6→([.int .i64 k,.int .i64 sp,.string n,.string t,.slice A al.length ca,.slice K kids.len ck]:List Value)[j]?=some u→w.cell? ⟨g,P.len*6+j,none⟩=some u:=fun j u hj hu=>by
   rw[ho.cellAt _ (by omega),List.getElem?_append_right (by omega),hx1,Nat.add_sub_cancel_left];exact hu
  refine ⟨g,cap,rfl,⟨⟨hc 0 _ (by omega) rfl,hc 1 _ (by omega) rfl,hc 2 _ (by omega) rfl,hc 3 _ (by omega) rfl,hz.1,hz.2⟩,A,ca,?_⟩⟩
  rcases h4.2.2 with ⟨e1,e2⟩ | ⟨a,e1,e2,e3⟩
  ·rw[e1]at h4 ⊢
   exact ⟨0,0,by have:=hc 4 _ (by omega) rfl;rw[e1]at this;exact this,⟨h4.1,h4.2.1,fun h=>absurd h (Nat.lt_irrefl _)⟩,trivial⟩
  ·have hlt:=hb a (by rw[e2];simp)
   exact ⟨a,0,hc 4 _ (by omega) rfl,⟨h4.1,h4.2.1,fun _=>⟨e1,Nat.zero_le _,hlt.2⟩⟩,e3.at⟩
theorem Tr.opened {w:World} {bb:Nat} {F P:Fo} {up:List Fr} {v v0:Value} {ps:List Value} {bF bl:List Nat} {sp:Int} {n:ByteArray} {al:List (ByteArray × ByteArray)} (h:Tr w (bb+1) F up v v0 ps bF bl) (hF:F=P.app (.one 1 sp n ⟨#[]⟩ al .nil)) (hN:NewAt w bb F v):
 ∃g cap bl',v=.slice (some ⟨g,0,none⟩) (P.len+1) cap∧Tr w (bb+1) .nil (⟨sp,n,al,P⟩::up) (.slice none 0 0) v0 (ps++[.pointer (some ⟨g,P.len*6,none⟩)]) [] bl'∧∀q ∈ bl',q ∈ ownL v++bF++bl:=by
 obtain ⟨hrow,hup,hnd⟩:=h
 have hln:F.len=P.len+1:=by rw[hF,Fo.len_app];rfl
 have hlt:=hrow.lt
 obtain ⟨g,cap,rfl,_,_,hc5⟩:=hN
 rw[hln]at hc5 hnd hup hlt ⊢
 rw[Nat.add_sub_cancel]at hc5
 obtain ⟨xs,ho,hv,hn,hb,hg⟩:=hrow
 rw[hF]at hv
 obtain ⟨x1,x2,b1,b2,rfl,rfl,i1,i2⟩:=hv.unapp
 obtain ⟨A,K,ca,ck,ba,bk,br,xr,rfl,rfl,hz,h4,h5,⟨rfl,rfl⟩⟩:=i2
 have hx1:=i1.len
 rw[hln]at ho
 have hc:w.cell? ⟨g,P.len*6+5,none⟩=some (.slice K Fo.nil.len ck):=by
  rw[ho.cellAt _ (by omega),List.getElem?_append_right (by omega),hx1,Nat.add_sub_cancel_left];rfl
 rw[hc5]at hc
 injection hc with hc
 injection hc with hc1 _ hc3
 subst hc1 hc3
 have hbk:bk=[]:=by
  rcases h5.2.2 with ⟨_,e⟩ | ⟨c,b',e,_⟩
  ·exact e
  ·cases e
 subst hbk
 simp only[List.append_nil]at hnd hb hn hg hlt
 obtain ⟨n1,n2,n3⟩:=List.nodup_append.1 hnd
 obtain ⟨n4,n5,n6⟩:=List.nodup_append.1 n1
 have hgm:g ∈ ownL (.slice (some ⟨g,0,none⟩) (P.len+1) cap):=mem_ownL.2 rfl
 refine ⟨g,cap,g::(b1++ba++bl),rfl,⟨GRow.nil w _,⟨g,cap,x1,b1,ba,A,ca,ps,bl,ho,i1,⟨hz.1,h4⟩,rfl,hup,rfl,fun q hq=>hb q hq⟩,?_⟩,fun q hq=>?_⟩
 ·show ([]++[]++(g::(b1++ba++bl))).Nodup
  rw[List.nil_append,List.nil_append]
  refine List.nodup_cons.2 ⟨fun hm=>?_,List.nodup_append.2 ⟨n5,n2,fun a ha b hb e=>n3 a (List.mem_append.2 (Or.inr ha)) b hb e⟩⟩
  rcases List.mem_append.1 hm with hm | hm
  ·exact n6 g hgm g hm rfl
  ·exact n3 g (List.mem_append.2 (Or.inl hgm)) g hm rfl
 ·simp only[List.append_nil]
  rcases List.mem_cons.1 hq with rfl | hq
  ·exact List.mem_append.2 (Or.inl (List.mem_append.2 (Or.inl hgm)))
  ·rcases List.mem_append.1 hq with hq | hq
   ·exact List.mem_append.2 (Or.inl (List.mem_append.2 (Or.inr hq)))
   ·exact List.mem_append.2 (Or.inr hq)
theorem infoPtr:(Tryz.prog.info? 126).map (fun i=>(i.zero,i.size,i.bytes))=some (some (.pointer none),1,8):=by kernel_rfl
theorem BI.opened {w w1:World} {bb:Nat} {z:Zi} {v v0 pv pv':Value} {ps:List Value} {bF bl:List Nat} {P:Fo} {sp:Int} {n:ByteArray} {al:List (ByteArray × ByteArray)} {g cap:Nat} (h:BI w bb z v v0 pv ps bF bl) (hF:z.F=P.app (.one 1 sp n ⟨#[]⟩ al .nil)) (hN:NewAt w bb z.F v) (hv:v=.slice (some ⟨g,0,none⟩) (P.len+1) cap)
 (hs:w.heap.size≤w1.heap.size) (hk:∀q,q<w.heap.size→pv.ownBlock≠some q→w1.heap[q]?=w.heap[q]?) (hown:w1.ownsRow (bb+1) 126 1 pv' (ps.length+1) (ps++[.pointer (some ⟨g,P.len*6,none⟩)])) (hat:pv'.ownBlock=pv.ownBlock∨∃q,pv'.ownBlock=some q∧w.heap.size≤q)
 (y:Zi) (hy:y=⟨.nil,⟨sp,n,al,P⟩::z.up,z.c⟩) (hfit:y.fit):
 ∃bl',BI (w1.setCell ⟨bb,1,none⟩ pv') bb y (.slice none 0 0) v0 pv' (ps++[.pointer (some ⟨g,P.len*6,none⟩)]) [] bl'∧∀q,FpI bb (.slice none 0 0) pv' [] bl' q→FpI bb v pv bF bl q∨w.heap.size≤q:=by
 obtain ⟨g',cap',bl',e1,r1,r2⟩:=h.tr.opened hF hN
 obtain ⟨rfl,rfl⟩:g'=g∧cap'=cap:=by
  rw[e1]at hv
  injection hv with a _ b
  injection a with a
  injection a with a
  exact ⟨a,b⟩
 subst hy
 have hlt:=h.tr.lt
 have hbb:=(h.lt bb (Or.inl rfl)).2
 have far:∀q,bb+1≤q→(w1.setCell ⟨bb,1,none⟩ pv').heap[q]?=w1.heap[q]?:=fun q hq=>Below.heap_setCell w1 ⟨bb,1,none⟩ _ q (by rintro rfl;exact absurd hq (Nat.not_succ_le_self _))
 have hpn:∀q ∈ bl',pv.ownBlock≠some q:=fun q hq e=>h.dis q (mem_ownL.2 e) (r2 q hq)
 have hfl:∀q ∈ ownL (.slice none 0 0)++[]++bl',q ∈ bl':=fun q hq=>by simpa[ownL,Value.ownBlock]using hq
 refine ⟨bl',⟨r1.same (by simpa using hs) fun q hq=>?_,?_,fun q hq hm=>?_,?_,hfit⟩,fun q hq=>?_⟩
 ·have hq:=hfl q hq
  rw[far q (hlt q (r2 q hq)).1,hk q (hlt q (r2 q hq)).2 (hpn q hq)]
 ·rw[List.length_append]
  exact ownsRow_same hown fun q hq=>far q (World.ownsRow.lt hown q hq).1
 ·have hm:=hfl q hm
  rcases hat with e | ⟨q',e,e'⟩
  ·exact hpn q hm (by rw[←e];exact mem_ownL.1 hq)
  ·have:=mem_ownL.1 hq
   rw[e]at this
   injection this with this
   have:=hlt q (r2 q hm)
   omega
 ·have h0:Lay w1 bb #[v0,pv,.int .i64 (z.c:Int)]:=lay_same h.lay (hk bb hbb fun e=>by have:=World.ownsRow.lt h.op bb e;omega)
  have:=h0.set 1 pv'
  simpa using this
 ·rcases hq with hq | hq | hq
  ·exact Or.inl (Or.inl hq)
  ·rcases hat with e | ⟨q',e,e'⟩
   ·exact Or.inl (Or.inr (Or.inl (mem_ownL.2 (by rw[←e];exact mem_ownL.1 hq))))
   ·have:=mem_ownL.1 hq
    rw[e]at this
    injection this with this
    exact Or.inr (by omega)
  ·exact Or.inl (Or.inr (Or.inr (r2 q (hfl q hq))))
end Go.Proofs.YthdkkpbhijlpaaaGreatDoor
