import Derived.Deep.AppendLies
import Derived.Deep.RegionLaw
import Derived.Test.YthdkkpbhijlpaaaGreatDoorQ20
import Derived.Test.YthdkkpbhijlpaaaGreatDoorQ12
set_option linter.unusedVariables false
namespace Go.Proofs.YthdkkpbhijlpaaaGreatDoor
open Go.ChangeShapes Go.WideShapes Go.ChangeAt Go.RowKit Go.Deep
theorem ownsRow_same {w w':World} {base:Nat} {e:TypeId} {s:Nat} {v:Value} {n:Nat} {xs:List Value} (h:w.ownsRow base e s v n xs) (hb:∀k,v.ownBlock=some k→w'.heap[k]?=w.heap[k]?):w'.ownsRow base e s v n xs:=by
 obtain ⟨h1,h2⟩:=h
 refine ⟨h1,?_⟩
 rcases h2 with h2 | ⟨g,cap,cur,e1,e2,e3,e4⟩
 ·exact Or.inl h2
 ·subst e1;exact Or.inr ⟨g,cap,cur,rfl,e2,(hb g rfl).trans e3,e4⟩
def ownL (v:Value):List Nat:=v.ownBlock.toList
theorem mem_ownL {v:Value} {k:Nat}:k ∈ ownL v↔v.ownBlock=some k:=by simp[ownL]
theorem GRow.sameB {w w':World} {base:Nat} {v:Value} {F:Fo} {bl:List Nat} (h:GRow w base v F bl) (hs:w.heap.size≤w'.heap.size) (hb:∀k,k ∈ ownL v++bl→w'.heap[k]?=w.heap[k]?):GRow w' base v F bl:=by
 obtain ⟨xs,ho,hv,hn,hbl,hg⟩:=h
 exact ⟨xs,ownsRow_same ho fun k hk=>hb k (List.mem_append.2 (Or.inl (mem_ownL.2 hk))),hv.same fun k hk=>hb k (List.mem_append.2 (Or.inr hk)),hn,fun k hk=>⟨(hbl k hk).1,Nat.lt_of_lt_of_le (hbl k hk).2 hs⟩,hg⟩
theorem GRow.lt {w:World} {base:Nat} {v:Value} {F:Fo} {bl:List Nat} (h:GRow w base v F bl):∀k,k ∈ ownL v++bl→base≤k∧k<w.heap.size:=by
 obtain ⟨xs,ho,hv,hn,hbl,hg⟩:=h
 intro k hk
 rcases List.mem_append.1 hk with hk | hk
 ·exact World.ownsRow.lt ho k (mem_ownL.1 hk)
 ·exact hbl k hk
theorem GRow.kids {w:World} {base:Nat} {v:Value} {F:Fo} {bl:List Nat} (h:GRow w base v F bl):∃A c bs,v=.slice A F.len c∧F.len≤c∧KRow w A F bs∧bs.Nodup∧∀k ∈ bs,k ∈ ownL v++bl:=by
 obtain ⟨xs,ho,hv,hn,hb,hg⟩:=h
 have hc:=fun g hg=>World.ownsRow.cells ho (g:=g) hg
 obtain ⟨hl,ho⟩:=ho
 rcases ho with ⟨rfl,h0⟩ | ⟨g,cap,cur,rfl,hbs,hblk,hle,_,_,_⟩
 ·exact ⟨none,0,[],by rw[h0],by omega,Or.inl ⟨h0,rfl⟩,List.nodup_nil,by simp⟩
 ·refine ⟨_,cap,g::bl,rfl,hle,Or.inr ⟨g,bl,rfl,rfl,hv.lay fun j hj=>⟨?_,?_⟩⟩,List.nodup_cons.2 ⟨hg g rfl,hn⟩,fun k hk=>?_⟩
  ·have:=hc g rfl j xs[j] (by simp[hj])
   rw[Addr.add_lit,Nat.zero_add]at this
   rw[Nat.zero_add]
   exact this
  ·simp[World.frozen?,hblk]
  ·rcases List.mem_cons.1 hk with rfl | hk
   ·exact List.mem_append.2 (Or.inl (mem_ownL.2 rfl))
   ·exact List.mem_append.2 (Or.inr hk)
def elV (sp:Int) (n:ByteArray) (al:List (ByteArray × ByteArray)) (A:Option Addr) (ca:Nat) (v:Value):List Value:=[.int .i64 1,.int .i64 sp,.string n,.string ⟨#[]⟩,.slice A al.length ca,v]
theorem FoVals.elem {w:World} {sp:Int} {n:ByteArray} {al:List (ByteArray × ByteArray)} {A K:Option Addr} {ca c:Nat} {F:Fo} {ba bs:List Nat} (hz:n.size≤maxLen) (ha:al.length≤ca∧al.length≤maxLen∧AlRow w A al ba) (hk:F.len≤c∧F.len≤maxLen∧KRow w K F bs):
 FoVals w (elV sp n al A ca (.slice K F.len c)) (.one 1 sp n ⟨#[]⟩ al F) (ba++bs):=
 ⟨A,K,ca,c,ba,bs,[],[],rfl,by simp,⟨hz,by decide⟩,ha,hk,rfl,rfl⟩
def UpI (w:World) (base:Nat):List Fr→Value→Value→List Value→List Nat→Prop
 | [],v,v0,ps,bl=>v=v0∧ps=[]∧bl=[]
 | x::up,v,v0,ps,bl=>∃(g cap:Nat) (xs:List Value) (b1 ba:List Nat) (A:Option Addr) (ca:Nat) (ps':List Value) (bl':List Nat),
  w.ownsRow base 56 6 (.slice (some ⟨g,0,none⟩) (x.P.len+1) cap) (x.P.len+1) (xs++elV x.sp x.n x.al A ca v)∧FoVals w xs x.P b1 ∧
  (x.n.size≤maxLen∧x.al.length≤ca∧x.al.length≤maxLen∧AlRow w A x.al ba)∧ps=ps'++[.pointer (some ⟨g,x.P.len*6,none⟩)] ∧
  UpI w base up (.slice (some ⟨g,0,none⟩) (x.P.len+1) cap) v0 ps' bl'∧bl=g::(b1++ba++bl')∧∀k ∈ b1++ba,base≤k∧k<w.heap.size
theorem UpI.same {w w':World} {base:Nat} (hs:w.heap.size≤w'.heap.size):∀{up:List Fr} {v v0:Value} {ps:List Value} {bl:List Nat},UpI w base up v v0 ps bl→(∀k ∈ bl,w'.heap[k]?=w.heap[k]?)→UpI w' base up v v0 ps bl
 | [],_,_,_,_,h,_=>h
 | x::up,v,v0,ps,bl,⟨g,cap,xs,b1,ba,A,ca,ps',bl',h1,h2,⟨h3,h4,h5,h6⟩,h7,h8,h9,h10⟩,hb=>by
  subst h9
  refine ⟨g,cap,xs,b1,ba,A,ca,ps',bl',ownsRow_same h1 fun k hk=>?_,h2.same fun k hk=>hb k (by simp[hk]),⟨h3,h4,h5,h6.same fun k hk=>hb k (by simp[hk])⟩,h7,UpI.same hs h8 fun k hk=>hb k (by simp[hk]),rfl,fun k hk=>⟨(h10 k hk).1,Nat.lt_of_lt_of_le (h10 k hk).2 hs⟩⟩
  injection hk with hk
  subst hk
  exact hb g (by simp)
theorem UpI.lt {w:World} {base:Nat}:∀{up:List Fr} {v v0:Value} {ps:List Value} {bl:List Nat},UpI w base up v v0 ps bl→∀k ∈ bl,base≤k∧k<w.heap.size
 | [],_,_,_,_,h,k,hk=>by rw[h.2.2]at hk;simp at hk
 | x::up,v,v0,ps,bl,⟨g,cap,xs,b1,ba,A,ca,ps',bl',h1,h2,_,h7,h8,h9,h10⟩,k,hk=>by
  subst h9
  rcases List.mem_cons.1 hk with rfl | hk
  ·exact World.ownsRow.lt h1 k rfl
  ·rcases List.mem_append.1 hk with hk | hk
   ·exact h10 k hk
   ·exact UpI.lt h8 k hk
theorem UpI.len {w:World} {base:Nat}:∀{up:List Fr} {v v0:Value} {ps:List Value} {bl:List Nat},UpI w base up v v0 ps bl→ps.length=up.length
 | [],_,_,_,_,h=>by rw[h.2.1];rfl
 | x::up,v,v0,ps,bl,⟨g,cap,xs,b1,ba,A,ca,ps',bl',h1,h2,_,h7,h8,h9,h10⟩=>by
  rw[h7];simp[UpI.len h8]
structure Tr (w:World) (base:Nat) (F:Fo) (up:List Fr) (v v0:Value) (ps:List Value) (bF bl:List Nat):Prop where
 row:GRow w base v F bF
 up:UpI w base up v v0 ps bl
 nd:(ownL v++bF++bl).Nodup
theorem Tr.lt {w:World} {base:Nat} {F:Fo} {up:List Fr} {v v0:Value} {ps:List Value} {bF bl:List Nat} (h:Tr w base F up v v0 ps bF bl):∀k ∈ ownL v++bF++bl,base≤k∧k<w.heap.size:=by
 intro k hk
 rcases List.mem_append.1 hk with hk | hk
 ·exact h.row.lt k hk
 ·exact h.up.lt k hk
theorem Tr.same {w w':World} {base:Nat} {F:Fo} {up:List Fr} {v v0:Value} {ps:List Value} {bF bl:List Nat} (h:Tr w base F up v v0 ps bF bl) (hs:w.heap.size≤w'.heap.size) (hb:∀k ∈ ownL v++bF++bl,w'.heap[k]?=w.heap[k]?):Tr w' base F up v v0 ps bF bl:=
 ⟨h.row.sameB hs fun k hk=>hb k (List.mem_append.2 (Or.inl hk)),h.up.same hs fun k hk=>hb k (List.mem_append.2 (Or.inr hk)),h.nd⟩
theorem Tr.pop {w:World} {base:Nat} {F:Fo} {x:Fr} {up:List Fr} {v v0:Value} {ps:List Value} {bF bl:List Nat} (h:Tr w base F (x::up) v v0 ps bF bl) (hF:F.len≤maxLen):
 ∃v' ps' p bF' bl',Tr w base (x.P.app (.one 1 x.sp x.n ⟨#[]⟩ x.al F)) up v' v0 ps' bF' bl'∧ps=ps'++[p]∧∀k ∈ ownL v'++bF'++bl',k ∈ ownL v++bF++bl:=by
 obtain ⟨hG,⟨g,cap,xs,b1,ba,A,ca,ps',bl',h1,h2,⟨h3,h4,h5,h6⟩,h7,h8,h9,h10⟩,hnd⟩:=h
 obtain ⟨K,c,bs,hv,hc,hK,hbn,hbs⟩:=hG.kids
 have hlt:=hG.lt
 subst h9
 rw[hv]at h1
 have hsub:∀k ∈ ownL (.slice (some ⟨g,0,none⟩) (x.P.len+1) cap)++(b1++(ba++bs))++bl',k ∈ ownL v++bF++(g::(b1++ba++bl')):=by
  intro k hk
  simp only[List.mem_append,List.mem_cons,mem_ownL]at hk ⊢
  rcases hk with (hk | hk | hk | hk) | hk
  ·injection hk with hk;exact Or.inr (Or.inl hk.symm)
  ·exact Or.inr (Or.inr (Or.inl (Or.inl hk)))
  ·exact Or.inr (Or.inr (Or.inl (Or.inr hk)))
  ·have:=hbs k hk
   simp only[List.mem_append,mem_ownL]at this
   exact Or.inl this
  ·exact Or.inr (Or.inr (Or.inr hk))
 have hnd':=List.nodup_append.1 hnd
 obtain ⟨hA,hB,hAB⟩:=hnd'
 obtain ⟨hg,hB2⟩:=List.nodup_cons.1 hB
 obtain ⟨hB3,hB4,hB5⟩:=List.nodup_append.1 hB2
 obtain ⟨hB6,hB7,hB8⟩:=List.nodup_append.1 hB3
 have nd1:(b1++(ba++bs)).Nodup:=by
  refine List.nodup_append.2 ⟨hB6,List.nodup_append.2 ⟨hB7,hbn,fun a ha b hb e=>?_⟩,fun a ha b hb e=>?_⟩
  ·subst e;exact hAB a (hbs a hb) a (by simp[ha]) rfl
  ·subst e
   rcases List.mem_append.1 hb with hb | hb
   ·exact hB8 a ha a hb rfl
   ·exact hAB a (hbs a hb) a (by simp[ha]) rfl
 have gn:g ∉ b1++(ba++bs):=fun hm=>by
  rcases List.mem_append.1 hm with hm | hm
  ·exact hg (by simp[hm])
  ·rcases List.mem_append.1 hm with hm | hm
   ·exact hg (by simp[hm])
   ·exact hAB g (hbs g hm) g (by simp) rfl
 refine ⟨.slice (some ⟨g,0,none⟩) (x.P.len+1) cap,ps',_,b1++(ba++bs),bl',⟨⟨_,by rw[Fo.len_app];exact h1,h2.app (FoVals.elem h3 ⟨h4,h5,h6⟩ ⟨hc,hF,hK⟩),nd1,fun k hk=>?_,fun k hk=>?_⟩,h8,?_⟩,h7,hsub⟩
 ·rcases List.mem_append.1 hk with hk | hk
  ·exact h10 k (by simp[hk])
  ·rcases List.mem_append.1 hk with hk | hk
   ·exact h10 k (by simp[hk])
   ·exact hlt k (hbs k hk)
 ·injection hk with hk;subst hk;exact gn
 ·refine List.nodup_append.2 ⟨List.nodup_append.2 ⟨by simp[ownL,Value.ownBlock],nd1,fun a ha b hb e=>?_⟩,hB4,fun a ha b hb e=>?_⟩
  ·subst e
   have:=mem_ownL.1 ha
   injection this with this
   subst this
   exact gn hb
  ·subst e
   rcases List.mem_append.1 ha with ha | ha
   ·have:=mem_ownL.1 ha
    injection this with this
    subst this
    exact hg (by simp[hb])
   ·rcases List.mem_append.1 ha with ha | ha
    ·exact hB5 a (by simp[ha]) a hb rfl
    ·rcases List.mem_append.1 ha with ha | ha
     ·exact hB5 a (by simp[ha]) a hb rfl
     ·exact hAB a (hbs a ha) a (by simp[hb]) rfl
end Go.Proofs.YthdkkpbhijlpaaaGreatDoor
namespace Go.Proofs.YthdkkpbhijlpaaaGreatDoor
open Go.ChangeShapes Go.WideShapes Go.ChangeAt Go.RowKit Go.Deep
def contI (x:Nd):Int:=if voidB x=true then 2 else if rawB x=true then 1 else 0
theorem contentOf_any (x:Nd) (b o lo hi:Nat) (w:World) (h:NdAt w lo hi b o x):
 Calls Tryz.prog 109 #[.pointer (some ⟨b,o,none⟩)] w fun e w'=>e=.returned (.int .i64 (contI x))∧w=w':=by
 have H:=Lib.hid h
 clear h
 cases hv:voidB x with
 | true=>
  have HV:=Lib.hid hv
  have HE:=Lib.hid (show contI x=2 by simp[contI,hv])
  clear hv
  go_enter Tryz.func109,Tryz.ntmps109
  go_wp2_with (go_at_call 165;refine (isVoid_any x b o lo hi _ H.out).mono ?_;rintro e w' ⟨rfl,rfl⟩;rw[HV.out])
  go_ret
  exact ⟨by rw[HE.out];rfl,rfl⟩
 | false=>
  have HV:=Lib.hid hv
  cases hr:rawB x with
  | true=>
   have HR:=Lib.hid hr
   have HE:=Lib.hid (show contI x=1 by simp[contI,hv,hr])
   clear hv hr
   go_enter Tryz.func109,Tryz.ntmps109
   go_wp2_with (first | (go_at_call 165;refine (isVoid_any x b o lo hi _ H.out).mono ?_;rintro e w' ⟨rfl,rfl⟩;rw[HV.out]) | (go_at_call 153;refine (isRaw_any x b o lo hi _ H.out).mono ?_;rintro e w' ⟨rfl,rfl⟩;rw[HR.out]))
   go_ret
   exact ⟨by rw[HE.out];rfl,rfl⟩
  | false=>
   have HR:=Lib.hid hr
   have HE:=Lib.hid (show contI x=0 by simp[contI,hv,hr])
   clear hv hr
   go_enter Tryz.func109,Tryz.ntmps109
   go_wp2_with (first | (go_at_call 165;refine (isVoid_any x b o lo hi _ H.out).mono ?_;rintro e w' ⟨rfl,rfl⟩;rw[HV.out]) | (go_at_call 153;refine (isRaw_any x b o lo hi _ H.out).mono ?_;rintro e w' ⟨rfl,rfl⟩;rw[HR.out]))
   go_ret
   exact ⟨by rw[HE.out];rfl,rfl⟩
end Go.Proofs.YthdkkpbhijlpaaaGreatDoor
namespace Go.Proofs.YthdkkpbhijlpaaaGreatDoor
open Go.ChangeShapes Go.WideShapes Go.ChangeAt Go.RowKit Go.Deep
def cntZ (z:Zi):Nat:=z.F.len+(z.up.map fun x=>x.P.len+1).sum
def Zi.fit (z:Zi):Prop:=cntZ z≤z.c∧z.c≤60∧z.up.length≤10∧∀x,z.F.last=some x→x.2.size≤120
theorem Zi.fit_pop {z:Zi} (h:z.fit):z.pop.fit:=by
 obtain ⟨F,up,c⟩:=z
 cases up with
 | nil=>exact h
 | cons x up=>
  obtain ⟨h1,h2,h3,h4⟩:=h
  simp only[cntZ,List.map_cons,List.sum_cons,List.length_cons]at h1 h3
  refine ⟨?_,h2,by simp only[Zi.pop];omega,fun y hy=>?_⟩
  ·simp only[Zi.pop,cntZ,Fo.len_app]
   show x.P.len+1+_≤c
   omega
  ·simp only[Zi.pop,Fo.last_snoc]at hy
   injection hy with hy
   rw[←hy];decide
theorem Zi.fit_pops:∀(k:Nat) {z:Zi},z.fit→(z.pops k).fit
 | 0,_,h=>h
 | k+1,_,h=>Zi.fit_pops k (Zi.fit_pop h)
theorem Zi.fit_to {z:Zi} (h:z.fit) (k:Nat):(z.to k).fit:=Zi.fit_pops _ h
theorem Zi.fit_add {z:Zi} (h:z.fit) {k sp:Int} {n t:ByteArray} {al:List (ByteArray × ByteArray)} {y:Zi} (hy:z.add k sp n t al=.ok y):y.fit:=by
 unfold Zi.add at hy
 split at hy
 ·cases hy
 ·split at hy
  ·cases hy
  ·split at hy
   ·cases hy
   ·injection hy with hy
    subst hy
    obtain ⟨h1,h2,h3,h4⟩:=h
    refine ⟨?_,by simp only;omega,h3,fun x hx=>?_⟩
    ·simp only[cntZ,Fo.len_app]at h1 ⊢
     show z.F.len+1+_≤_
     omega
    ·simp only[Fo.last_snoc]at hx
     injection hx with hx
     rw[←hx]
     simp only;omega
theorem Fo.addText_last (u:ByteArray):∀(F:Fo) (x:Int × ByteArray),F.last=some x→(F.addText u).last=some (x.1,x.2++u):=by
 intro F x hx
 rcases Fo.snoc_or F with rfl | ⟨P,k,sp,n,t,al,kids,rfl⟩
 ·simp[Fo.last]at hx
 ·rw[Fo.last_snoc]at hx
  injection hx with hx
  subst hx
  rw[Fo.addText_snoc,Fo.last_snoc]
theorem Zi.fit_words {z:Zi} (h:z.fit) {t:ByteArray} {y:Zi} (hy:z.words t=.ok y):y.fit:=by
 unfold Zi.words at hy
 split at hy
 ·rename_i k' t' hl
  split at hy
  ·split at hy
   ·cases hy
   ·injection hy with hy
    subst hy
    obtain ⟨h1,h2,h3,h4⟩:=h
    refine ⟨by simp only[cntZ,Fo.addText_len]at h1 ⊢;exact h1,h2,h3,fun x hx=>?_⟩
    simp only[Fo.addText_last t z.F _ hl]at hx
    injection hx with hx
    rw[←hx]
    simp only[ByteArray.size_append]
    omega
  ·exact Zi.fit_add h hy
 ·exact Zi.fit_add h hy
theorem Zi.fit_begin {z:Zi} (h:z.fit) {T:Tk} {y:Zi} (hy:z.begin T=.ok y):y.fit:=by
 have hk:=Zi.fit_to h (leftOf (opensOf z.up) T.n)
 unfold Zi.begin at hy
 dsimp only at hy
 generalize z.to (leftOf (opensOf z.up) T.n)=q at hy hk
 obtain ⟨h1,h2,h3,h4⟩:=hk
 split at hy
 ·cases hy
 ·split at hy
  ·cases hy
  ·split at hy
   ·injection hy with hy
    subst hy
    refine ⟨?_,by simp only;omega,by simp only[List.length_cons];omega,fun x hx=>by simp[Fo.last]at hx⟩
    simp only[cntZ,List.map_cons,List.sum_cons,Fo.len]at h1 ⊢
    omega
   ·injection hy with hy
    subst hy
    refine ⟨?_,by simp only;omega,h3,fun x hx=>?_⟩
    ·simp only[cntZ,Fo.len_app]at h1 ⊢
     show q.F.len+1+_≤_
     omega
    ·simp only[Fo.last_snoc]at hx
     injection hx with hx
     rw[←hx];decide
structure BI (w:World) (bb:Nat) (z:Zi) (v v0 pv:Value) (ps:List Value) (bF bl:List Nat):Prop where
 tr:Tr w (bb+1) z.F z.up v v0 ps bF bl
 op:w.ownsRow (bb+1) 126 1 pv ps.length ps
 dis:∀k ∈ ownL pv,k ∉ ownL v++bF++bl
 lay:Lay w bb #[v0,pv,.int .i64 (z.c:Int)]
 fit:z.fit
def FpI (bb:Nat) (v pv:Value) (bF bl:List Nat) (k:Nat):Prop:=k=bb∨k ∈ ownL pv∨k ∈ ownL v++bF++bl
theorem BI.lt {w:World} {bb:Nat} {z:Zi} {v v0 pv:Value} {ps:List Value} {bF bl:List Nat} (h:BI w bb z v v0 pv ps bF bl):∀k,FpI bb v pv bF bl k→bb≤k∧k<w.heap.size:=by
 intro k hk
 rcases hk with rfl | hk | hk
 ·exact ⟨Nat.le_refl _,World.block_lt_of_cell? w ⟨k,0,none⟩ (h.lay.1 0)⟩
 ·have:=World.ownsRow.lt h.op k (mem_ownL.1 hk);omega
 ·have:=h.tr.lt k hk;omega
theorem lay_same {w w':World} {g:Nat} {cs:Array Value} (h:Lay w g cs) (hb:w'.heap[g]?=w.heap[g]?):Lay w' g cs:=
 ⟨fun j=>(World.cell?_of_block (w:=w) (a:=⟨g,j,none⟩) hb).trans (h.1 j),fun j=>(World.frozen?_of_block (w:=w) (a:=⟨g,j,none⟩) hb).trans (h.2 j)⟩
theorem BI.same {w w':World} {bb:Nat} {z:Zi} {v v0 pv:Value} {ps:List Value} {bF bl:List Nat} (h:BI w bb z v v0 pv ps bF bl) (hs:w.heap.size≤w'.heap.size) (hb:∀k,FpI bb v pv bF bl k→w'.heap[k]?=w.heap[k]?):BI w' bb z v v0 pv ps bF bl:=
 ⟨h.tr.same hs fun k hk=>hb k (Or.inr (Or.inr hk)),ownsRow_same h.op fun k hk=>hb k (Or.inr (Or.inl (mem_ownL.2 hk))),h.dis,lay_same h.lay (hb bb (Or.inl rfl)),h.fit⟩
theorem BI.next {w w':World} {bb:Nat} {z:Zi} {v v0 pv:Value} {ps:List Value} {bF bl:List Nat} (h:BI w bb z v v0 pv ps bF bl) (hB:Below w.heap.size w w'):BI w' bb z v v0 pv ps bF bl:=
 h.same hB.size fun k hk=>hB.block k (h.lt k hk).2
theorem BI.len {w:World} {bb:Nat} {z:Zi} {v v0 pv:Value} {ps:List Value} {bF bl:List Nat} (h:BI w bb z v v0 pv ps bF bl):ps.length=z.up.length:=h.tr.up.len
def holdA (bb:Nat) (ps:List Value):Addr:=match ps.getLast? with
 | some (.pointer (some a))=>⟨a.block,a.off+5,none⟩
 | _=>⟨bb,0,none⟩
theorem BI.held {w:World} {bb:Nat} {z:Zi} {v v0 pv:Value} {ps:List Value} {bF bl:List Nat} (h:BI w bb z v v0 pv ps bF bl):∃hb ho,holdA bb ps=⟨hb,ho,none⟩∧CellW w hb ho v∧(hb=bb∨hb ∈ bl):=by
 obtain ⟨F,up,c⟩:=z
 cases up with
 | nil=>
  obtain ⟨e1,e2,e3⟩:=h.tr.up
  subst e2
  refine ⟨bb,0,rfl,⟨?_,h.lay.2 0⟩,Or.inl rfl⟩
  rw[e1];exact h.lay.1 0
 | cons x up=>
  obtain ⟨g,cap,xs,b1,ba,A,ca,ps',bl',h1,h2,_,h7,_,h9,_⟩:=h.tr.up
  refine ⟨g,x.P.len*6+5,by rw[h7];simp[holdA],⟨?_,h1.frozenAt _⟩,Or.inr (by rw[h9];simp)⟩
  rw[h1.cellAt _ (by omega),List.getElem?_append_right (by rw[h2.len];omega),h2.len,Nat.add_sub_cancel_left]
  rfl
end Go.Proofs.YthdkkpbhijlpaaaGreatDoor
namespace Go.Proofs.YthdkkpbhijlpaaaGreatDoor
open Go.ChangeShapes Go.WideShapes Go.ChangeAt Go.RowKit Go.Deep
theorem last_getD {ps:List Value} (h:0<ps.length):ps.getLast?.getD (.pointer none)=ps[ps.length-1]:=by
 rw[List.getLast?_eq_getElem?,List.getElem?_eq_getElem (by omega)];rfl
theorem innermostN_any (pv:Value) (ps:List Value) (base:Nat) (w:World) (ho:w.ownsRow base 126 1 pv ps.length ps) (hl:ps.length≤100):
 Calls Tryz.prog 108 #[pv] w fun e w'=>e=.returned (ps.getLast?.getD (.pointer none))∧w=w':=by
 by_cases h0:ps.length=0
 ·have e:ps=[]:=List.length_eq_zero_iff.1 h0
  subst e
  obtain ⟨A,c,rfl⟩:∃A c,pv=.slice A 0 c:=by
   rcases ho.2 with ⟨rfl,_⟩ | ⟨g,cap,cur,rfl,_⟩
   ·exact ⟨_,_,rfl⟩
   ·exact ⟨_,_,rfl⟩
  clear ho
  go_enter Tryz.func108,Tryz.ntmps108
  go_wp2
  go_ret
  exact ⟨rfl,rfl⟩
 ·obtain ⟨g,cap,rfl⟩:∃g cap,pv=.slice (some ⟨g,0,none⟩) ps.length cap:=by
   rcases ho.2 with ⟨_,h⟩ | ⟨g,cap,cur,rfl,_⟩
   ·exact absurd h h0
   ·exact ⟨_,_,rfl⟩
  have hc:=ho.cellAt (ps.length-1) (by omega)
  rw[List.getElem?_eq_getElem (by omega)]at hc
  have HE:=Lib.hid (last_getD (ps:=ps) (by omega))
  clear ho
  generalize ps[ps.length-1]'(by omega)=p at *
  generalize ps.getLast?.getD (.pointer none)=q at *
  generalize hn:ps.length=n at *
  clear hn
  have h0':((n:Int)==0)=false:=by simp;omega
  have hpos:0<n:=by omega
  clear h0
  go_enter Tryz.func108,Tryz.ntmps108
  go_wp2
  go_ret
  exact ⟨by rw[HE.out];rfl,rfl⟩
theorem UpI.top {w:World} {base:Nat} {x:Fr} {up:List Fr} {v v0:Value} {ps:List Value} {bl:List Nat} (h:UpI w base (x::up) v v0 ps bl):
 ∃g,ps.getLast?=some (.pointer (some ⟨g,x.P.len*6,none⟩))∧g ∈ bl∧NdAt w 0 w.heap.size g (x.P.len*6) ⟨1,x.sp,x.n,⟨#[]⟩,x.al⟩∧w.cell? ⟨g,x.P.len*6+5,none⟩=some v:=by
 obtain ⟨g,cap,xs,b1,ba,A,ca,ps',bl',h1,h2,⟨h3,h4,h5,h6⟩,h7,_,h9,h10⟩:=h
 have hx:=h2.len
 have hc:∀j u,j<6→(elV x.sp x.n x.al A ca v)[j]?=some u→w.cell? ⟨g,x.P.len*6+j,none⟩=some u:=fun j u hj hu=>by
  rw[h1.cellAt _ (by omega),List.getElem?_append_right (by omega),hx,Nat.add_sub_cancel_left];exact hu
 refine ⟨g,by rw[h7];simp,by rw[h9];simp,⟨⟨hc 0 _ (by omega) rfl,hc 1 _ (by omega) rfl,hc 2 _ (by omega) rfl,hc 3 _ (by omega) rfl,h3,Nat.zero_le _⟩,A,ca,?_⟩,hc 5 _ (by omega) rfl⟩
 rcases h6 with ⟨e1,e2⟩ | ⟨a,e1,e2,e3⟩
 ·rw[e1]at h4 h5 ⊢
  exact ⟨0,0,by have:=hc 4 _ (by omega) rfl;rw[e1]at this;exact this,⟨h4,h5,fun h=>absurd h (Nat.lt_irrefl _)⟩,trivial⟩
 ·have hlt:=h10 a (by rw[e2];simp)
  exact ⟨a,0,hc 4 _ (by omega) rfl,⟨h4,h5,fun _=>⟨e1,Nat.zero_le _,hlt.2⟩⟩,e3.at⟩
theorem topOf_cons (x:Fr) (up:List Fr):topOf (opensOf (x::up))=(x.n,x.sp):=by rw[opensOf_cons];simp[topOf]
theorem raw_void {n:ByteArray} (h:inL rawL n=true):inL voidL n=false:=by
 obtain ⟨l,hl,rfl⟩:=raw_cases h
 simp only[rawL,List.mem_cons,List.not_mem_nil,or_false]at hl
 rcases hl with rfl | rfl | rfl | rfl <;> (simp only[inL,ByteArray.toList_eq];decide)
set_option maxRecDepth 100000 in
theorem kids_any (bb:Nat) (z:Zi) (v v0 pv:Value) (ps:List Value) (bF bl:List Nat) (w:World) (h:BI w bb z v v0 pv ps bF bl):
 Calls Tryz.prog 175 #[.pointer (some ⟨bb,0,none⟩)] w fun e w'=>e=.returned (.pointer (some (holdA bb ps)))∧w=w':=by
 have p1:w.cell? ⟨bb,1,none⟩=some pv:=h.lay.1 1
 have HO:=Lib.hid (And.intro h.op (show ps.length≤100 by have:=h.len;have:=h.fit.2.2.1;omega))
 have HH:Hid ((ps.getLast?.getD (.pointer none)=.pointer none∧holdA bb ps=⟨bb,0,none⟩)∨∃g o,ps.getLast?.getD (.pointer none)=.pointer (some ⟨g,o,none⟩)∧holdA bb ps=⟨g,o+5,none⟩):=Lib.hid (by
  obtain ⟨F,up,c⟩:=z
  cases up with
  | nil=>
   obtain ⟨_,e2,_⟩:=h.tr.up
   subst e2
   exact Or.inl ⟨rfl,rfl⟩
  | cons x up=>
   obtain ⟨g,e,_⟩:=h.tr.up.top
   exact Or.inr ⟨g,x.P.len*6,by rw[e];rfl,by simp[holdA,e]⟩)
 clear h
 rcases HH.out with ⟨e1,e2⟩ | ⟨g,o,e1,e2⟩
 ·have E:=Lib.hid (And.intro e1 e2)
  clear e1 e2 HH
  go_enter Tryz.func175,Tryz.ntmps175
  go_wp2_with (go_at_call 108;refine (innermostN_any pv ps (bb+1) _ HO.out.1 HO.out.2).mono ?_;rintro e w' ⟨rfl,rfl⟩;rw[E.out.1])
  go_ret
  exact ⟨by rw[E.out.2];rfl,rfl⟩
 ·have E:=Lib.hid (And.intro e1 e2)
  clear e1 e2 HH
  go_enter Tryz.func175,Tryz.ntmps175
  go_wp2_with (go_at_call 108;refine (innermostN_any pv ps (bb+1) _ HO.out.1 HO.out.2).mono ?_;rintro e w' ⟨rfl,rfl⟩;rw[E.out.1])
  go_ret
  exact ⟨by rw[E.out.2];rfl,rfl⟩
set_option maxRecDepth 100000 in
theorem last_nil (bb:Nat) (z:Zi) (v v0 pv:Value) (ps:List Value) (bF bl:List Nat) (w:World) (h:BI w bb z v v0 pv ps bF bl) (hF:z.F=.nil):
 Calls Tryz.prog 174 #[.pointer (some ⟨bb,0,none⟩)] w fun e w'=>e=.returned (.pointer none)∧w=w':=by
 obtain ⟨hb,ho,e1,e2,e3⟩:=h.held
 obtain ⟨A,c,bs,hv,e4⟩:=h.tr.row.kids
 clear e3 e4
 rw[hF,show Fo.nil.len=0 from rfl]at hv
 have HK:=Lib.hid (kids_any bb z v v0 pv ps bF bl w h)
 rw[e1]at HK
 subst hv
 have q:=e2.1
 clear h e2 e1 hF
 go_enter Tryz.func174,Tryz.ntmps174
 go_wp2_with (go_at_call 175;refine HK.out.mono ?_;rintro e w' ⟨rfl,rfl⟩)
 go_ret
 exact ⟨rfl,rfl⟩
set_option maxRecDepth 100000 in
theorem last_some (bb:Nat) (z:Zi) (v0 pv:Value) (ps:List Value) (bF bl:List Nat) (g n cap:Nat) (w:World) (h:BI w bb z (.slice (some ⟨g,0,none⟩) n cap) v0 pv ps bF bl) (hn:0<n) (hn2:n≤100):
 Calls Tryz.prog 174 #[.pointer (some ⟨bb,0,none⟩)] w fun e w'=>e=.returned (.pointer (some ⟨g,(n-1)*6,none⟩))∧w=w':=by
 obtain ⟨hb,ho,e1,e2,e3⟩:=h.held
 clear e3
 have HK:=Lib.hid (kids_any bb z _ v0 pv ps bF bl w h)
 rw[e1]at HK
 have q:=e2.1
 have h0':((n:Int)==0)=false:=by simp;omega
 clear h e2 e1
 go_enter Tryz.func174,Tryz.ntmps174
 go_wp2_with (go_at_call 175;refine HK.out.mono ?_;rintro e w' ⟨rfl,rfl⟩)
 go_ret
 exact ⟨rfl,rfl⟩
end Go.Proofs.YthdkkpbhijlpaaaGreatDoor
namespace Go.Proofs.YthdkkpbhijlpaaaGreatDoor
open Go.ChangeShapes Go.WideShapes Go.ChangeAt Go.RowKit Go.Deep
def OutI (bb:Nat) (fp:Nat→Prop) (ex:List Nat) (r:Rs) (w:World) (e:Ending) (w':World):Prop:=
 match r with
 | .bad c=>e=.returned (.int .i64 c)∧Below bb w w'
 | .ok y=>e=.returned (.int .i64 0)∧But fp w w'∧∃v v0 pv ps bF bl,BI w' bb y v v0 pv ps bF bl∧∀k,FpI bb v pv bF bl k→fp k∨k ∈ ex∨w.heap.size≤k
theorem add_bad (bb:Nat) (z:Zi) (v v0 pv:Value) (ps:List Value) (bF bl:List Nat) (k sp:Int) (n t:ByteArray) (al:List (ByteArray × ByteArray)) (A:Option Addr) (ca:Nat) (w:World) (c:Int) (ht:t.size≤maxLen)
 (h:BI w bb z v v0 pv ps bF bl) (hbad:z.add k sp n t al=.bad c):
 Calls Tryz.prog 111 #[.pointer (some ⟨bb,0,none⟩),.agg #[.int .i64 k,.int .i64 sp,.string n,.string t,.slice A al.length ca,.slice none 0 0]] w fun e w'=>e=.returned (.int .i64 c)∧Below w.heap.size w w':=by
 obtain ⟨C,d,bs,hpv,_⟩:∃(C:Option Addr) (d:Nat) (bs:Nat),pv=.slice C ps.length d∧True:=by
  rcases h.op.2 with ⟨rfl,h0⟩ | ⟨g,cap,cur,rfl,_⟩
  ·exact ⟨_,_,0,by rw[h0],trivial⟩
  ·exact ⟨_,_,0,rfl,trivial⟩
 have p1:w.cell? ⟨bb,1,none⟩=some pv:=h.lay.1 1
 have p2:w.cell? ⟨bb,2,none⟩=some (.int .i64 (z.c:Int)):=h.lay.1 2
 have hlen:=h.len
 have hbb:bb<w.heap.size:=World.block_lt_of_cell? w ⟨bb,1,none⟩ p1
 have hfit:=h.fit
 have hc60:=h.fit.2.1
 have h10:=h.fit.2.2.1
 unfold maxLen at ht
 rw[hpv]at p1
 clear h hpv
 unfold Zi.add at hbad
 rw[←hlen]at hbad h10
 have HB:=Lib.hid hbad
 clear hbad hlen hfit
 have B1:=Lib.hid ((Below.refl w.heap.size w).alloc (Nat.le_refl _) (.cells #[.int .i64 k,.int .i64 sp,.string n,.string t,.slice A al.length ca,.slice none 0 0] 56))
 by_cases g1:10≤ps.length
 ·have e:c=11:=by have:=HB.out;rw[if_pos g1]at this;injection this with this;exact this.symm
  subst e
  clear HB
  go_enter Tryz.func111,Tryz.ntmps111
  go_wp2
  go_ret
  exact ⟨rfl,B1.out⟩
 ·by_cases g2:60≤z.c
  ·have e:c=6:=by have:=HB.out;rw[if_neg g1,if_pos g2]at this;injection this with this;exact this.symm
   subst e
   clear HB
   go_enter Tryz.func111,Tryz.ntmps111
   go_wp2
   go_ret
   exact ⟨rfl,B1.out⟩
  ·by_cases g3:120<t.size
   ·have e:c=8:=by have:=HB.out;rw[if_neg g1,if_neg g2,if_pos g3]at this;injection this with this;exact this.symm
    subst e
    clear HB
    go_enter Tryz.func111,Tryz.ntmps111
    go_wp2
    go_ret
    exact ⟨rfl,B1.out⟩
   ·have:=HB.out
    rw[if_neg g1,if_neg g2,if_neg g3]at this
    cases this
end Go.Proofs.YthdkkpbhijlpaaaGreatDoor
namespace Go.Proofs.YthdkkpbhijlpaaaGreatDoor
open Go.ChangeShapes Go.WideShapes Go.ChangeAt Go.RowKit Go.Deep
theorem setCell_comm (w:World) (a b:Addr) (u v:Value) (h:a.block≠b.block):(w.setCell a u).setCell b v=(w.setCell b v).setCell a u:=by
 unfold World.setCell
 simp only
 congr 1
 apply Array.ext
 ·simp
 ·intro i h1 h2
  simp only[Array.getElem_modify]
  by_cases e1:a.block=i <;> by_cases e2:b.block=i
  ·exact absurd (e1.trans e2.symm) h
  ·simp[e1,e2]
  ·simp[e1,e2]
  ·simp[e1,e2]
theorem setCell_block {w w':World} {g o:Nat} {u:Value} (h:w'.heap[g]?=w.heap[g]?):(w'.setCell ⟨g,o,none⟩ u).heap[g]?=(w.setCell ⟨g,o,none⟩ u).heap[g]?:=by
 simp only[World.setCell,Array.getElem?_modify,if_true,h]
def six (w:World) (g o:Nat) (a b c d e f:Value):World:=(((((w.setCell ⟨g,o,none⟩ a).setCell ⟨g,o+1,none⟩ b).setCell ⟨g,o+2,none⟩ c).setCell ⟨g,o+3,none⟩ d).setCell ⟨g,o+4,none⟩ e).setCell ⟨g,o+5,none⟩ f
theorem six_comm (w:World) (g o hb ho:Nat) (a b c d e f u:Value) (h:hb≠g):six (w.setCell ⟨hb,ho,none⟩ u) g o a b c d e f=(six w g o a b c d e f).setCell ⟨hb,ho,none⟩ u:=by
 unfold six
 rw[setCell_comm w ⟨hb,ho,none⟩ ⟨g,o,none⟩ u a h,setCell_comm _ ⟨hb,ho,none⟩ ⟨g,o+1,none⟩ u b h,setCell_comm _ ⟨hb,ho,none⟩ ⟨g,o+2,none⟩ u c h,setCell_comm _ ⟨hb,ho,none⟩ ⟨g,o+3,none⟩ u d h,setCell_comm _ ⟨hb,ho,none⟩ ⟨g,o+4,none⟩ u e h,setCell_comm _ ⟨hb,ho,none⟩ ⟨g,o+5,none⟩ u f h]
theorem six_heap {w:World} {g o q:Nat} {a b c d e f:Value} (h:q≠g):(six w g o a b c d e f).heap[q]?=w.heap[q]?:=by
 have k:∀(w:World) (j:Nat) (u:Value),(w.setCell ⟨g,j,none⟩ u).heap[q]?=w.heap[q]?:=fun w j u=>Below.heap_setCell w ⟨g,j,none⟩ u q (by rintro rfl;exact h rfl)
 unfold six
 rw[k,k,k,k,k,k]
theorem six_size {w:World} {g o:Nat} {a b c d e f:Value}:(six w g o a b c d e f).heap.size=w.heap.size:=by
 unfold six
 simp only[World.size_setCell]
def zeros6:List Value:=[.int .i64 0,.int .i64 0,.string ⟨#[]⟩,.string ⟨#[]⟩,.slice none 0 0,.slice none 0 0]
theorem own_six {w:World} {base g n cap:Nat} {xs:List Value} (ho:w.ownsRow base 56 6 (.slice (some ⟨g,0,none⟩) (n+1) cap) (n+1) (xs++zeros6)) (hx:xs.length=n*6) (a b c d e f:Value):
 (six w g (n*6) a b c d e f).ownsRow base 56 6 (.slice (some ⟨g,0,none⟩) (n+1) cap) (n+1) (xs++[a,b,c,d,e,f]):=by
 have e0:=(ho.stored (n*6) a).1
 have e1:=(e0.stored (n*6+1) b).1
 have e2:=(e1.stored (n*6+2) c).1
 have e3:=(e2.stored (n*6+3) d).1
 have e4:=(e3.stored (n*6+4) e).1
 have e5:=(e4.stored (n*6+5) f).1
 have hl:((((((xs++zeros6).set (n*6) a).set (n*6+1) b).set (n*6+2) c).set (n*6+3) d).set (n*6+4) e).set (n*6+5) f=xs++[a,b,c,d,e,f]:=by
  rw[List.set_append_right _ _ (by omega),List.set_append_right _ _ (by omega),List.set_append_right _ _ (by omega),List.set_append_right _ _ (by omega),List.set_append_right _ _ (by omega),List.set_append_right _ _ (by omega),hx]
  simp only[Nat.sub_self,Nat.add_sub_cancel_left]
  rfl
 rw[hl]at e5
 exact e5
structure BH (w:World) (bb:Nat) (F:Fo) (up:List Fr) (c:Nat) (v v0 pv:Value) (ps:List Value) (bF bl:List Nat):Prop where
 tr:Tr w (bb+1) F up v v0 ps bF bl
 op:w.ownsRow (bb+1) 126 1 pv ps.length ps
 dis:∀k ∈ ownL pv,k ∉ ownL v++bF++bl
 lay:Lay w bb #[v0,pv,.int .i64 (c:Int)]
theorem BI.toBH {w:World} {bb:Nat} {z:Zi} {v v0 pv:Value} {ps:List Value} {bF bl:List Nat} (h:BI w bb z v v0 pv ps bF bl):BH w bb z.F z.up z.c v v0 pv ps bF bl:=⟨h.tr,h.op,h.dis,h.lay⟩
theorem BH.put {w W0:World} {bb:Nat} {F F':Fo} {up:List Fr} {c:Nat} {v v' v0 pv:Value} {ps:List Value} {bF bF' bl:List Nat} {hb ho:Nat} (h:BH w bb F up c v v0 pv ps bF bl) (hA:holdA bb ps=⟨hb,ho,none⟩)
 (hs:w.heap.size≤W0.heap.size) (hk:∀q,q<w.heap.size→v.ownBlock≠some q→W0.heap[q]?=w.heap[q]?)
 (hG:GRow W0 (bb+1) v' F' bF') (hn:(ownL v'++bF').Nodup) (hd:∀q ∈ ownL v'++bF',q≠bb∧q ∉ bl∧q ∉ ownL pv):
 ∃v0',BH (W0.setCell ⟨hb,ho,none⟩ v') bb F' up c v' v0' pv ps bF' bl∧(∀q,q<w.heap.size→v.ownBlock≠some q→q≠hb→(W0.setCell ⟨hb,ho,none⟩ v').heap[q]?=w.heap[q]?)∧(hb=bb∨hb ∈ bl):=by
 obtain ⟨⟨hrow,hup,hnd⟩,hop,hdis,hlay⟩:=h
 have hbb:bb<w.heap.size:=World.block_lt_of_cell? w ⟨bb,0,none⟩ (hlay.1 0)
 have hlt:∀k ∈ ownL v++bF++bl,bb+1≤k∧k<w.heap.size:=fun k hk=>by
  rcases List.mem_append.1 hk with hk | hk
  ·exact hrow.lt k hk
  ·exact hup.lt k hk
 have hplt:∀k ∈ ownL pv,bb+1≤k∧k<w.heap.size:=fun k hk=>World.ownsRow.lt hop k (mem_ownL.1 hk)
 obtain ⟨hn1,hn2,hn3⟩:=List.nodup_append.1 hnd
 have own_ne:∀q,q ∈ bl∨q ∈ ownL pv∨q=bb→v.ownBlock≠some q:=fun q hq e=>by
  have hm:=mem_ownL.2 e
  rcases hq with hq | hq | hq
  ·exact hn3 q (by simp[hm]) q hq rfl
  ·exact hdis q hq (by simp[hm])
  ·have:=hlt q (by simp[hm]);omega
 have far:∀q,q≠hb→(W0.setCell ⟨hb,ho,none⟩ v').heap[q]?=W0.heap[q]?:=fun q hq=>Below.heap_setCell W0 ⟨hb,ho,none⟩ v' q (by rintro rfl;exact hq rfl)
 have hG':∀hbx:hb=bb∨hb ∈ bl,GRow (W0.setCell ⟨hb,ho,none⟩ v') (bb+1) v' F' bF':=fun hbx=>hG.sameB (by simp) fun k hk=>far k (by
  rintro rfl
  have:=hd k hk
  rcases hbx with e | e
  ·exact this.1 e
  ·exact this.2.1 e)
 have hnd':∀{bl':List Nat},bl'=bl→(ownL v'++bF'++bl').Nodup:=fun e=>by
  subst e
  exact List.nodup_append.2 ⟨hn,hn2,fun a ha b hb e=>by subst e;exact (hd a ha).2.1 hb⟩
 have hop':∀hbx:hb=bb∨hb ∈ bl,(W0.setCell ⟨hb,ho,none⟩ v').ownsRow (bb+1) 126 1 pv ps.length ps:=fun hbx=>ownsRow_same hop fun k hk'=>by
  have hm:=mem_ownL.2 hk'
  rw[far k (by
   rintro rfl
   rcases hbx with e | e
   ·have:=hplt k hm;omega
   ·exact hdis k hm (by simp[e])),hk k (hplt k hm).2 (own_ne k (Or.inr (Or.inl hm)))]
 have hdis':∀k ∈ ownL pv,k ∉ ownL v'++bF'++bl:=fun k hk hm=>by
  rcases List.mem_append.1 hm with hm | hm
  ·exact (hd k hm).2.2 hk
  ·exact hdis k hk (by simp[hm])
 cases up with
 | nil=>
  obtain ⟨e1,e2,e3⟩:=hup
  subst e2 e3 e1
  obtain ⟨rfl,rfl⟩:bb=hb∧0=ho:=by
   have:(⟨bb,0,none⟩:Addr)=⟨hb,ho,none⟩:=hA
   injection this with a b _
   exact ⟨a,b⟩
  refine ⟨v',⟨⟨hG' (Or.inl rfl),⟨rfl,rfl,rfl⟩,hnd' rfl⟩,hop' (Or.inl rfl),hdis',?_⟩,fun q h1 h2 h3=>(far q h3).trans (hk q h1 h2),Or.inl rfl⟩
  have h0:Lay W0 bb #[v,pv,.int .i64 (c:Int)]:=lay_same hlay (hk bb hbb (own_ne bb (Or.inr (Or.inr rfl))))
  have:=h0.set 0 v'
  simpa using this
 | cons x up=>
  obtain ⟨g,cap,xs,b1,ba,A,ca,ps',bl',h1,h2,h3,h7,h8,h9,h10⟩:=hup
  obtain ⟨rfl,rfl⟩:g=hb∧x.P.len*6+5=ho:=by
   have:(⟨g,x.P.len*6+5,none⟩:Addr)=⟨hb,ho,none⟩:=by rw[←hA,h7];simp[holdA]
   injection this with a b _
   exact ⟨a,b⟩
  subst h9
  obtain ⟨hg,hB2⟩:=List.nodup_cons.1 hn2
  have hgm:g ∈ g::(b1++ba++bl'):=by simp
  have hglt:=hlt g (by simp)
  have same:∀q ∈ b1++ba++bl',(W0.setCell ⟨g,x.P.len*6+5,none⟩ v').heap[q]?=w.heap[q]?:=fun q hq=>by
   rw[far q (by rintro rfl;exact hg hq),hk q (hlt q (by simp only[List.mem_append,List.mem_cons]at hq ⊢;exact Or.inr (Or.inr hq))).2 (own_ne q (Or.inl (List.mem_cons.2 (Or.inr hq))))]
  have hgs:(W0.setCell ⟨g,x.P.len*6+5,none⟩ v').heap[g]?=(w.setCell ⟨g,x.P.len*6+5,none⟩ v').heap[g]?:=setCell_block (hk g hglt.2 (own_ne g (Or.inl hgm)))
  have hst:=(h1.stored (x.P.len*6+5) v').1
  have hset:(xs++elV x.sp x.n x.al A ca v).set (x.P.len*6+5) v'=xs++elV x.sp x.n x.al A ca v':=by
   rw[List.set_append_right _ _ (by rw[h2.len];omega),h2.len,Nat.add_sub_cancel_left];rfl
  rw[hset]at hst
  refine ⟨v0,⟨⟨hG' (Or.inr hgm),⟨g,cap,xs,b1,ba,A,ca,ps',bl',ownsRow_same hst fun k hk'=>?_,h2.same fun k hk'=>same k (by simp[hk']),⟨h3.1,h3.2.1,h3.2.2.1,h3.2.2.2.same fun k hk'=>same k (by simp[hk'])⟩,h7,h8.same (by simpa using hs) fun k hk'=>same k (by simp[hk']),rfl,fun k hk'=>⟨(h10 k hk').1,by rw[World.size_setCell];exact Nat.lt_of_lt_of_le (h10 k hk').2 hs⟩⟩,hnd' rfl⟩,hop' (Or.inr hgm),hdis',?_⟩,fun q h1 h2 h3=>(far q h3).trans (hk q h1 h2),Or.inr hgm⟩
  ·injection hk' with hk'
   subst hk'
   exact hgs
  ·exact lay_same hlay ((far bb (by omega)).trans (hk bb hbb (own_ne bb (Or.inr (Or.inr rfl)))))
end Go.Proofs.YthdkkpbhijlpaaaGreatDoor
