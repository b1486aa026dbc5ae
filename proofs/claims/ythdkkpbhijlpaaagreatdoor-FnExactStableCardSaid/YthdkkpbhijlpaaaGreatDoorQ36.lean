import Derived.Deep.RegionHeld3
import Derived.Test.YthdkkpbhijlpaaaGreatDoorQ35
import Derived.Test.YthdkkpbhijlpaaaGreatDoorQ16
import Derived.Test.YthdkkpbhijlpaaaGreatDoorQ21
set_option linter.unusedVariables false
namespace Go.Proofs.YthdkkpbhijlpaaaGreatDoor
open Go.ChangeShapes Go.WideShapes Go.ChangeAt Go.RowKit Go.Deep
def Fo.sm:Fo→Prop
 | .nil=>True
 | .cons _ _ _ t al kids rest=>t.size≤65536∧AlSm al∧kids.sm∧rest.sm
theorem alSm_of {al:List (ByteArray × ByteArray)} (h:AlOK al):AlSm al:=by
 intro x hx
 obtain ⟨i,hi,e⟩:=List.getElem_of_mem hx
 obtain ⟨⟨h1,h2⟩,_⟩:=h.2 i hi hi
 rw[e]at h1 h2
 obtain ⟨_,hn,_⟩:Named small tagB x.1:=by simpa[namedB]using h1
 omega
theorem Fo.sm_of:∀(F:Fo),SFine F→F.sm
 | .nil,_=>trivial
 | .cons k sp n t al kids rest,⟨h1,_,h3,h4⟩=>by
  refine ⟨?_,?_,Fo.sm_of kids h3,Fo.sm_of rest h4⟩
  ·rcases h1 with ⟨_,h⟩ | ⟨_,_,h⟩ | ⟨_,h⟩
   ·have:=h.2.2.2.1;simp only at this;omega
   ·have:=h.1;simp only at this;omega
   ·have:=h.1;simp only at this;omega
  ·rcases h1 with ⟨_,h⟩ | ⟨_,_,h⟩ | ⟨_,h⟩
   ·exact alSm_of h.2.2.2.2
   ·have e:=List.length_eq_zero_iff.1 h.2.2.2;simp only at e;subst e;intro x hx;simp at hx
   ·have e:=List.length_eq_zero_iff.1 h.2.2.2;simp only at e;subst e;intro x hx;simp at hx
def nodeText (raw:Bool) (k sp:Int) (n t:ByteArray) (al:List (ByteArray × ByteArray)) (kids:Fo):List UInt8:=
 if k=2 then wordsText raw t else if k=3 then noteText t else tagText n al++(if hasEnd sp n=true then kids.ser (asIs sp n)++endText n else [])
theorem ser_cons (raw:Bool) (k sp:Int) (n t:ByteArray) (al:List (ByteArray × ByteArray)) (kids rest:Fo):(Fo.cons k sp n t al kids rest).ser raw=nodeText raw k sp n t al kids++rest.ser raw:=rfl
def SerOK (F:Fo):Prop:=∀(raw:Bool) (w:World) (A:Option Addr) (c b o lo hi:Nat),F.nodes≤1048576→F.len+F.size≤1048576*64→F.sm→hi≤w.heap.size→RowAt lo hi A F.len b o→FoAt w lo hi b o F →
 Calls Tryz.prog 44 #[.slice A F.len c,.bool raw] w fun e w'=>e=.returned (.string ⟨(F.ser raw).toArray⟩)∧Below w.heap.size w w'
set_option maxHeartbeats 4000000 in
theorem l06Tree_lt:∀(N:Nat) (F:Fo),F.nodes<N→SerOK F:=by
 intro N
 induction N with
 | zero=>intro F hF;omega
 | succ N IH=>
 intro F hF raw w A c b o lo hi hnd hsz hsm hh hA hFo
 have hlen:=hA.1
 unfold maxLen at hlen
 have hln:=Fo.len_le_nodes F
 have HA:=Lib.hid hA
 have HS:=Lib.hid hFo
 have HF:=Lib.hid hF
 have HI:=Lib.hid IH
 have HM:=Lib.hid hsm
 clear hA hFo hF IH hsm
 go_enter Tryz.func44,Tryz.ntmps44
 go_wp2
 go_loopw [5,6] (fun x i wr=>∃(k:Nat) (m:List UInt8) (suf:Fo),x=.string ⟨m.toArray⟩∧i=.int .i64 (k:Int)∧k+suf.len=F.len∧Hid (FoAt w lo hi b (o+k*6) suf∧Below w.heap.size w wr∧suf.nodes<N+1∧suf.nodes≤1048576∧suf.sm∧m.length+8*(suf.len+suf.size)≤1048576*512∧m++suf.ser raw=F.ser raw)) (fun x i wr=>F.len-(intOf i).toNat)
 case atStart=>exact ⟨0,[],F,rfl,rfl,by omega,Lib.hid ⟨by simpa using HS.out,Below.refl _ _,HF.out,hnd,HM.out,by simp;omega,rfl⟩⟩
 case round=>
  obtain ⟨k,m,suf,rfl,rfl,hk,HH⟩:=hrel
  cases suf with
  | nil=>
   have hkl:k=F.len:=by simpa[Fo.len]using hk
   clear hk
   subst hkl
   go_wp2
   go_ret
   exact ⟨by rw[show F.ser raw=m by have:=HH.out.2.2.2.2.2.2;simpa[Fo.ser]using this.symm];rfl,HH.out.2.1⟩
  | cons xk xs xn xt xa kids r=>
   obtain ⟨⟨⟨s0,s1,s2,s3,z2,z3⟩,⟨A4,c4,b4,o4,s4,r4,a4⟩,⟨A5,c5,b5,o5,s5,r5,a5⟩,sr⟩,hB,hT1,hT2,hT3,hT4,hT5⟩:=HH.out
   obtain ⟨rfl,hlo,hhi⟩:=HA.out.2 (by simp[Fo.len]at hk;omega)
   have hkl:k<F.len:=by simp[Fo.len]at hk;omega
   have hb:b<w.heap.size:=by omega
   have t0:=(hB.cell (p:=⟨b,_,none⟩) hb).trans s0
   have t1:=(hB.cell (p:=⟨b,_,none⟩) hb).trans s1
   have t2:=(hB.cell (p:=⟨b,_,none⟩) hb).trans s2
   have t3:=(hB.cell (p:=⟨b,_,none⟩) hb).trans s3
   have t4:=(hB.cell (p:=⟨b,_,none⟩) hb).trans s4
   have t5:=(hB.cell (p:=⟨b,_,none⟩) hb).trans s5
   have HB:=Lib.hid hB
   have HR:=Lib.hid sr
   have H4:=Lib.hid (And.intro r4.2 a4)
   have H5:=Lib.hid (And.intro r5.2 a5)
   rw[ser_cons]at hT5
   have HT5:=Lib.hid hT5
   have HT:=Lib.hid (And.intro hT1 (And.intro hT2 hT3))
   have hkn:kids.nodes≤1048576∧r.nodes≤1048576∧kids.nodes<N∧r.nodes<N+1:=by simp[Fo.nodes]at hT2 hT1;omega
   have hsm4:xt.size≤65536∧kids.sm∧r.sm:=⟨hT3.1,hT3.2.2.1,hT3.2.2.2⟩
   have HSA:=Lib.hid hT3.2.1
   simp only[Fo.len,Fo.size]at hT4
   have hkl1:k+1+r.len=F.len:=by simp[Fo.len]at hk;omega
   clear HH s0 s1 s2 s3 s4 s5 sr hB hT1 hT2 hT3 r4 a4 a5 r5 hT5 hk z2 z3
   have L0:=Lib.hid (Lay.new wr #[.int .i64 xk,.int .i64 xs,.string xn,.string xt,.slice A4 xa.length c4,.slice A5 kids.len c5] 56)
   have B0:Hid (Below w.heap.size w (wr.alloc (.cells #[.int .i64 xk,.int .i64 xs,.string xn,.string xt,.slice A4 xa.length c4,.slice A5 kids.len c5] 56))):=Lib.hid (HB.out.alloc HB.out.size _)
   have hwl:wr.heap.size<(wr.alloc (.cells #[.int .i64 xk,.int .i64 xs,.string xn,.string xt,.slice A4 xa.length c4,.slice A5 kids.len c5] 56)).heap.size:=by simp
   have hbt:=baLen xt
   by_cases h2:xk=2
   ·subst h2
    cases raw with
    | true=>
     obtain ⟨L,⟨e1,g1⟩,a1⟩:=add_lx m xt (by omega)
     have HL:Hid (L++r.ser true=m++(nodeText true 2 xs xn xt xa kids++r.ser true)∧L.length+8*(r.len+r.size)≤1048576*512):=Lib.hid ⟨by rw[e1,show nodeText true 2 xs xn xt xa kids=xt.data.toList from rfl];simp,by omega⟩
     clear e1 g1
     go_wp2
     go_roundw
     case rel=>exact ⟨k+1,L,r,rfl,by go_num,hkl1,Lib.hid ⟨by rw[show o+(k+1)*6=o+k*6+6 by omega];exact HR.out,B0.out,hkn.2.2.2,hkn.2.1,hsm4.2.2,HL.out.2,by rw[HL.out.1];exact HT5.out⟩⟩
     case measure=>simp[intOf];omega
    | false=>
     have hz:=escT_le xt
     obtain ⟨L,⟨e1,g1⟩,a1⟩:=add_lx m ⟨(escL escT xt.data.toList).toArray⟩ (by rw[sizeL];omega)
     rw[sizeL]at g1
     have HL:Hid (L++r.ser false=m++(nodeText false 2 xs xn xt xa kids++r.ser false)∧L.length+8*(r.len+r.size)≤1048576*512):=Lib.hid ⟨by rw[e1,show nodeText false 2 xs xn xt xa kids=escL escT xt.data.toList from rfl];simp,by omega⟩
     have HV:Hid (∀(W:World),Calls Tryz.prog 77 #[.string xt] W fun e w'=>e=.returned (.string ⟨(escL escT xt.data.toList).toArray⟩)∧W=w'):=Lib.hid fun W=>(l02Text_any xt W hsm4.1).mono fun e w' h=>⟨by rw[h.1,escS_all],h.2⟩
     clear hbt e1 g1 hz
     go_wp2_with (go_at_call 77;refine (HV.out _).mono ?_;rintro e w' ⟨rfl,rfl⟩)
     go_roundw
     case rel=>exact ⟨k+1,L,r,rfl,by go_num,hkl1,Lib.hid ⟨by rw[show o+(k+1)*6=o+k*6+6 by omega];exact HR.out,B0.out,hkn.2.2.2,hkn.2.1,hsm4.2.2,HL.out.2,by rw[HL.out.1];exact HT5.out⟩⟩
     case measure=>simp[intOf];omega
   ·have h2':(xk==2)=false:=by simpa using h2
    by_cases h3:xk=3
    ·subst h3
     obtain ⟨L1,⟨e1,g1⟩,a1⟩:=add_lx [60,33,45,45] xt (by simp;omega)
     obtain ⟨L2,⟨e2,g2⟩,a2⟩:=add_lx L1 ⟨#[45,45,62]⟩ (by simp at g1;show _+3≤_;omega)
     change _=_+3 at g2
     simp at g1
     obtain ⟨L,⟨e3,g3⟩,a3⟩:=add_lx m ⟨L2.toArray⟩ (by rw[sizeL];omega)
     rw[sizeL]at g3
     have HL:Hid (L++r.ser raw=m++(nodeText raw 3 xs xn xt xa kids++r.ser raw)∧L.length+8*(r.len+r.size)≤1048576*512):=Lib.hid ⟨by rw[e3,e2,e1,show nodeText raw 3 xs xn xt xa kids=noteText xt from rfl,noteText];simp,by omega⟩
     clear h2 e1 e2 e3 g1 g2 g3
     go_wp2
     go_roundw
     case rel=>exact ⟨k+1,L,r,rfl,by go_num,hkl1,Lib.hid ⟨by rw[show o+(k+1)*6=o+k*6+6 by omega];exact HR.out,B0.out,hkn.2.2.2,hkn.2.1,hsm4.2.2,HL.out.2,by rw[HL.out.1];exact HT5.out⟩⟩
     case measure=>simp[intOf];omega
    ·have h3':(xk==3)=false:=by simpa using h3
     have HK:=Lib.hid (And.intro h2 h3)
     have hz3:=tagText_len xn xa
     obtain ⟨L1,⟨e1,g1⟩,a1⟩:=add_lx m ⟨(tagText xn xa).toArray⟩ (by rw[sizeL];omega)
     rw[sizeL]at g1
     clear h2 h3
     by_cases hs0:xs=0
     ·subst hs0
      cases hv:inL voidL xn with
      | true=>
       have HL:Hid (L1++r.ser raw=m++(nodeText raw xk 0 xn xt xa kids++r.ser raw)∧L1.length+8*(r.len+r.size)≤1048576*512):=Lib.hid ⟨by rw[e1,nodeText,if_neg HK.out.1,if_neg HK.out.2,show hasEnd 0 xn=false by simp[hasEnd,hv]];simp,by omega⟩
       have HV:=Lib.hid hv
       clear e1 g1 hz3 hv
       go_wp2_with (first | (go_at_call 78;refine (l06Start_any xk 0 xn xt xa _ A4 A5 c4 kids.len c5 b4 o4 lo hi HSA.out (by omega) H4.out.1 (AsAt.but H4.out.1 H4.out.2 (But.of_below (C:=No) B0.out) hh (fun _ h=>False.elim h)) (Nat.le_trans hh B0.out.size)).mono ?_;rintro e w1 ⟨rfl,hB1⟩;have B1:=Lib.hid (B0.out.trans (hB1.mono B0.out.size));have L1b:=Lib.hid (L0.out.below hB1 (by simp));have hw1:wr.heap.size<w1.heap.size:=Nat.lt_of_lt_of_le hwl hB1.size;clear hB1;have p1:w1.cell? ⟨wr.heap.size,1,none⟩=some (.int .i64 0):=L1b.out.1 1;have p2:w1.cell? ⟨wr.heap.size,2,none⟩=some (.string xn):=L1b.out.1 2;have p5:w1.cell? ⟨wr.heap.size,5,none⟩=some (.slice A5 kids.len c5):=L1b.out.1 5) | (go_at_call 79;refine (l01Void_any xn _).mono ?_;rintro e w2 ⟨rfl,hB2⟩;rw[HV.out];have B2:=Lib.hid (B1.out.trans (hB2.mono B1.out.size));have L2b:=Lib.hid (L1b.out.below hB2 hw1);have hw2:wr.heap.size<w2.heap.size:=Nat.lt_of_lt_of_le hw1 hB2.size;clear hB2;have q1:w2.cell? ⟨wr.heap.size,1,none⟩=some (.int .i64 0):=L2b.out.1 1;have q2:w2.cell? ⟨wr.heap.size,2,none⟩=some (.string xn):=L2b.out.1 2;have q5:w2.cell? ⟨wr.heap.size,5,none⟩=some (.slice A5 kids.len c5):=L2b.out.1 5))
       go_roundw
       case rel=>exact ⟨k+1,L1,r,rfl,by go_num,hkl1,Lib.hid ⟨by rw[show o+(k+1)*6=o+k*6+6 by omega];exact HR.out,B2.out,hkn.2.2.2,hkn.2.1,hsm4.2.2,HL.out.2,by rw[HL.out.1];exact HT5.out⟩⟩
       case measure=>simp[intOf];omega
      | false=>
       have hzk:=ser_len (asIs 0 xn) kids
       have hzn:=baLen xn
       obtain ⟨L2,⟨e2,g2⟩,a2⟩:=add_lx (kids.ser (inL rawL xn)) ⟨#[60,47]⟩ (by show _+2≤_;change (kids.ser (inL rawL xn)).length≤_ at hzk;omega)
       change _=_+2 at g2
       change (kids.ser (inL rawL xn)).length≤_ at hzk
       obtain ⟨L3,⟨e3,g3⟩,a3⟩:=add_lx L2 xn (by omega)
       obtain ⟨L4,⟨e4,g4⟩,a4⟩:=add_lx L3 ⟨#[62]⟩ (by show _+1≤_;omega)
       change _=_+1 at g4
       obtain ⟨L5,⟨e5,g5⟩,a5⟩:=add_lx L1 ⟨L4.toArray⟩ (by rw[sizeL];omega)
       rw[sizeL]at g5
       have HL:Hid (L5++r.ser raw=m++(nodeText raw xk 0 xn xt xa kids++r.ser raw)∧L5.length+8*(r.len+r.size)≤1048576*512):=Lib.hid ⟨by rw[e5,e4,e3,e2,e1,nodeText,if_neg HK.out.1,if_neg HK.out.2,show hasEnd 0 xn=true by simp[hasEnd,hv],show asIs 0 xn=inL rawL xn by simp[asIs]];simp[endText],by omega⟩
       have HV:=Lib.hid hv
       have hg5:kids.len+kids.size≤1048576*64:=by omega
       clear e1 g1 hz3 hv e2 e3 e4 e5 g2 g3 g4 g5 hzk hzn
       generalize hraw:inL rawL xn=rb at *
       have HW:=Lib.hid hraw
       clear hraw
       go_wp2_with (first | (go_at_call 78;refine (l06Start_any xk 0 xn xt xa _ A4 A5 c4 kids.len c5 b4 o4 lo hi HSA.out (by omega) H4.out.1 (AsAt.but H4.out.1 H4.out.2 (But.of_below (C:=No) B0.out) hh (fun _ h=>False.elim h)) (Nat.le_trans hh B0.out.size)).mono ?_;rintro e w1 ⟨rfl,hB1⟩;have B1:=Lib.hid (B0.out.trans (hB1.mono B0.out.size));have L1b:=Lib.hid (L0.out.below hB1 (by simp));have hw1:wr.heap.size<w1.heap.size:=Nat.lt_of_lt_of_le hwl hB1.size;clear hB1;have p1:w1.cell? ⟨wr.heap.size,1,none⟩=some (.int .i64 0):=L1b.out.1 1;have p2:w1.cell? ⟨wr.heap.size,2,none⟩=some (.string xn):=L1b.out.1 2;have p5:w1.cell? ⟨wr.heap.size,5,none⟩=some (.slice A5 kids.len c5):=L1b.out.1 5) | (go_at_call 79;refine (l01Void_any xn _).mono ?_;rintro e w2 ⟨rfl,hB2⟩;rw[HV.out];have B2:=Lib.hid (B1.out.trans (hB2.mono B1.out.size));have L2b:=Lib.hid (L1b.out.below hB2 hw1);have hw2:wr.heap.size<w2.heap.size:=Nat.lt_of_lt_of_le hw1 hB2.size;clear hB2;have q1:w2.cell? ⟨wr.heap.size,1,none⟩=some (.int .i64 0):=L2b.out.1 1;have q2:w2.cell? ⟨wr.heap.size,2,none⟩=some (.string xn):=L2b.out.1 2;have q5:w2.cell? ⟨wr.heap.size,5,none⟩=some (.slice A5 kids.len c5):=L2b.out.1 5))
       clear p1 p2 p5
       go_region_held3 (fun w'=>w'.cell? ⟨wr.heap.size,1,none⟩=some (.int .i64 0)∧w'.cell? ⟨wr.heap.size,2,none⟩=some (.string xn)∧w'.cell? ⟨wr.heap.size,5,none⟩=some (.slice A5 kids.len c5)) (first | exact And.intro u1 (And.intro u2 u5) | exact And.intro v1 (And.intro v2 v5) | go_keep) (first | (go_at_call 80;refine (l01Raw_any xn _).mono ?_;rintro e w3 ⟨rfl,hB3⟩;rw[HW.out];have B3:=Lib.hid (B2.out.drew.trans (hB3.mono B2.out.size));have L3b:=Lib.hid (Lay.below (w:=w2.drew) L2b.out hB3 hw2);have hw3:wr.heap.size<w3.heap.size:=Nat.lt_of_lt_of_le hw2 hB3.size;clear hB3;have v1:w3.cell? ⟨wr.heap.size,1,none⟩=some (.int .i64 0):=L3b.out.1 1;have v2:w3.cell? ⟨wr.heap.size,2,none⟩=some (.string xn):=L3b.out.1 2;have v5:w3.cell? ⟨wr.heap.size,5,none⟩=some (.slice A5 kids.len c5):=L3b.out.1 5) | (go_at_call 44;refine (HI.out kids hkn.2.2.1 rb _ A5 c5 b5 o5 lo hi hkn.1 hg5 hsm4.2.1 (Nat.le_trans hh B3.out.size) H5.out.1 (H5.out.2.but H5.out.1 (But.of_below (C:=No) B3.out) hh (fun _ h=>h.elim))).mono ?_;rintro e w4 ⟨rfl,hB4⟩;have B4:=Lib.hid (B3.out.trans (hB4.mono B3.out.size));have L4b:=Lib.hid (L3b.out.below hB4 hw3);clear hB4;have u1:w4.cell? ⟨wr.heap.size,1,none⟩=some (.int .i64 0):=L4b.out.1 1;have u2:w4.cell? ⟨wr.heap.size,2,none⟩=some (.string xn):=L4b.out.1 2;have u5:w4.cell? ⟨wr.heap.size,5,none⟩=some (.slice A5 kids.len c5):=L4b.out.1 5))
       go_wp2
       go_roundw
       case rel=>exact ⟨k+1,L5,r,rfl,by go_num,hkl1,Lib.hid ⟨by rw[show o+(k+1)*6=o+k*6+6 by omega];exact HR.out,B4.out,hkn.2.2.2,hkn.2.1,hsm4.2.2,HL.out.2,by rw[HL.out.1];exact HT5.out⟩⟩
       case measure=>simp[intOf];omega
     ·have hzk:=ser_len false kids
      have hzn:=baLen xn
      obtain ⟨L2,⟨e2,g2⟩,a2⟩:=add_lx (kids.ser false) ⟨#[60,47]⟩ (by show _+2≤_;omega)
      change _=_+2 at g2
      obtain ⟨L3,⟨e3,g3⟩,a3⟩:=add_lx L2 xn (by omega)
      obtain ⟨L4,⟨e4,g4⟩,a4⟩:=add_lx L3 ⟨#[62]⟩ (by show _+1≤_;omega)
      change _=_+1 at g4
      obtain ⟨L5,⟨e5,g5⟩,a5⟩:=add_lx L1 ⟨L4.toArray⟩ (by rw[sizeL];omega)
      rw[sizeL]at g5
      have HL:Hid (L5++r.ser raw=m++(nodeText raw xk xs xn xt xa kids++r.ser raw)∧L5.length+8*(r.len+r.size)≤1048576*512):=Lib.hid ⟨by rw[e5,e4,e3,e2,e1,nodeText,if_neg HK.out.1,if_neg HK.out.2,show hasEnd xs xn=true by simp[hasEnd,hs0],show asIs xs xn=false by simp[asIs,hs0]];simp[endText],by omega⟩
      have hs0':(xs==0)=false:=by simpa using hs0
      have hg5:kids.len+kids.size≤1048576*64:=by omega
      clear e1 g1 hz3 e2 e3 e4 e5 g2 g3 g4 g5 hzk hzn hs0
      go_wp2_with (go_at_call 78;refine (l06Start_any xk xs xn xt xa _ A4 A5 c4 kids.len c5 b4 o4 lo hi HSA.out (by omega) H4.out.1 (AsAt.but H4.out.1 H4.out.2 (But.of_below (C:=No) B0.out) hh (fun _ h=>False.elim h)) (Nat.le_trans hh B0.out.size)).mono ?_;rintro e w1 ⟨rfl,hB1⟩;have B1:=Lib.hid (B0.out.trans (hB1.mono B0.out.size));have L1b:=Lib.hid (L0.out.below hB1 (by simp));have hw1:wr.heap.size<w1.heap.size:=Nat.lt_of_lt_of_le hwl hB1.size;clear hB1;have p1:w1.cell? ⟨wr.heap.size,1,none⟩=some (.int .i64 xs):=L1b.out.1 1;have p2:w1.cell? ⟨wr.heap.size,2,none⟩=some (.string xn):=L1b.out.1 2;have p5:w1.cell? ⟨wr.heap.size,5,none⟩=some (.slice A5 kids.len c5):=L1b.out.1 5)
      refine wp_region_held_drew (S:=fun w'=>w'.cell? ⟨wr.heap.size,1,none⟩=some (.int .i64 xs)∧w'.cell? ⟨wr.heap.size,2,none⟩=some (.string xn)∧w'.cell? ⟨wr.heap.size,5,none⟩=some (.slice A5 kids.len c5)) (by kernel_rfl) ⟨p1,p2,p5⟩ (fun hHeld=>?_)
      refine wpAnyH_take (i:=0) (v:=.string ⟨L1.toArray⟩) rfl (by kernel_rfl) (by kernel_rfl) (by kernel_rfl) (fun _ _ _ h=>h) (Or.inl ⟨by rfl,fun w hSw=>by (try dsimp only at hSw);go_simp⟩) (by assumption) ?_;(try simp only[Act.put,List.setIfInBounds_toArray,List.set_cons_zero,List.set_cons_succ,List.getElem_toArray,List.getElem_cons_zero])
      refine wpAnyH_take (i:=1) (v:=.pointer (some ⟨wr.heap.size,5,none⟩)) rfl (by kernel_rfl) (by kernel_rfl) (by kernel_rfl) (fun _ _ _ h=>h) (Or.inl ⟨by rfl,fun w hSw=>by (try dsimp only at hSw);go_simp⟩) (by assumption) ?_;(try simp only[Act.put,List.setIfInBounds_toArray,List.set_cons_zero,List.set_cons_succ,List.getElem_toArray,List.getElem_cons_zero,List.getElem_cons_succ])
      refine wpAnyH_take (i:=2) (v:=.slice A5 kids.len c5) rfl (by kernel_rfl) (by kernel_rfl) (by kernel_rfl) (fun _ _ _ h=>h) (Or.inl ⟨by rfl,fun w hSw=>by (try dsimp only at hSw);go_simp⟩) (by assumption) ?_;(try simp only[Act.put,List.setIfInBounds_toArray,List.set_cons_zero,List.set_cons_succ,List.getElem_toArray,List.getElem_cons_zero,List.getElem_cons_succ])
      refine wpAnyH_take (i:=3) (v:=.pointer (some ⟨wr.heap.size,1,none⟩)) rfl (by kernel_rfl) (by kernel_rfl) (by kernel_rfl) (fun _ _ _ h=>h) (Or.inl ⟨by rfl,fun w hSw=>by (try dsimp only at hSw);go_simp⟩) (by assumption) ?_;(try simp only[Act.put,List.setIfInBounds_toArray,List.set_cons_zero,List.set_cons_succ,List.getElem_toArray,List.getElem_cons_zero,List.getElem_cons_succ])
      refine wpAnyH_take (i:=4) (v:=.int .i64 xs) rfl (by kernel_rfl) (by kernel_rfl) (by kernel_rfl) (fun _ _ _ h=>h) (Or.inl ⟨by rfl,fun w hSw=>by (try dsimp only at hSw);go_simp⟩) (by assumption) ?_;(try simp only[Act.put,List.setIfInBounds_toArray,List.set_cons_zero,List.set_cons_succ,List.getElem_toArray,List.getElem_cons_zero,List.getElem_cons_succ])
      refine wpAnyH_take (i:=5) (v:=.bool false) rfl (by kernel_rfl) (by kernel_rfl) (by kernel_rfl) (fun _ _ _ h=>h) (Or.inl ⟨by rfl,fun w hSw=>by (try dsimp only at hSw);go_simp⟩) (by assumption) ?_;(try simp only[Act.put,List.setIfInBounds_toArray,List.set_cons_zero,List.set_cons_succ,List.getElem_toArray,List.getElem_cons_zero,List.getElem_cons_succ])
      refine wpAnyH_take (i:=6) (v:=.bool false) rfl (by kernel_rfl) (by kernel_rfl) (by kernel_rfl) (fun _ _ _ h=>h) (Or.inl ⟨by rfl,fun w hSw=>by (try dsimp only at hSw);go_simp⟩) (by assumption) ?_;(try simp only[Act.put,List.setIfInBounds_toArray,List.set_cons_zero,List.set_cons_succ,List.getElem_toArray,List.getElem_cons_zero,List.getElem_cons_succ])
      refine wpAnyH_take (i:=7) (v:=undef) rfl (by kernel_rfl) (by kernel_rfl) (by kernel_rfl) (fun _ _ _ h=>h) (Or.inr ⟨by rfl,rfl⟩) (by assumption) ?_;(try simp only[Act.put,List.setIfInBounds_toArray,List.set_cons_zero,List.set_cons_succ,List.getElem_toArray,List.getElem_cons_zero,List.getElem_cons_succ])
      refine wpAnyH_take (i:=8) (v:=undef) rfl (by kernel_rfl) (by kernel_rfl) (by kernel_rfl) (fun _ _ _ h=>h) (Or.inr ⟨by rfl,rfl⟩) (by assumption) ?_;(try simp only[Act.put,List.setIfInBounds_toArray,List.set_cons_zero,List.set_cons_succ,List.getElem_toArray,List.getElem_cons_zero,List.getElem_cons_succ])
      refine wpAnyH_take (i:=9) (v:=undef) rfl (by kernel_rfl) (by kernel_rfl) (by kernel_rfl) (fun _ _ _ h=>h) (Or.inr ⟨by rfl,rfl⟩) (by assumption) ?_;(try simp only[Act.put,List.setIfInBounds_toArray,List.set_cons_zero,List.set_cons_succ,List.getElem_toArray,List.getElem_cons_zero,List.getElem_cons_succ])
      refine wpAnyH_take (i:=10) (v:=.bool false) rfl (by kernel_rfl) (by kernel_rfl) (by kernel_rfl) (fun _ _ _ h=>h) (Or.inl ⟨by rfl,fun w hSw=>by (try dsimp only at hSw);go_simp⟩) (by assumption) ?_;(try simp only[Act.put,List.setIfInBounds_toArray,List.set_cons_zero,List.set_cons_succ,List.getElem_toArray,List.getElem_cons_zero,List.getElem_cons_succ])
      refine wpAnyH_take (i:=13) (v:=.pointer (some ⟨wr.heap.size,2,none⟩)) rfl (by kernel_rfl) (by kernel_rfl) (by kernel_rfl) (fun _ _ _ h=>h) (Or.inl ⟨by rfl,fun w hSw=>by (try dsimp only at hSw);go_simp⟩) (by assumption) ?_;(try simp only[Act.put,List.setIfInBounds_toArray,List.set_cons_zero,List.set_cons_succ,List.getElem_toArray,List.getElem_cons_zero,List.getElem_cons_succ])
      refine wpAnyH_take (i:=14) (v:=.string xn) rfl (by kernel_rfl) (by kernel_rfl) (by kernel_rfl) (fun _ _ _ h=>h) (Or.inl ⟨by rfl,fun w hSw=>by (try dsimp only at hSw);go_simp⟩) (by assumption) ?_;(try simp only[Act.put,List.setIfInBounds_toArray,List.set_cons_zero,List.set_cons_succ,List.getElem_toArray,List.getElem_cons_zero,List.getElem_cons_succ])
      refine wpAnyH_ready (rs:=[11]) (by kernel_rfl) (by simp) ?_;refine AllReadyH.cons rfl (fun K hK=>?_) AllReadyH.nil;go_simp;(go_at_call 44;refine (HI.out kids hkn.2.2.1 false _ A5 c5 b5 o5 lo hi hkn.1 hg5 hsm4.2.1 (Nat.le_trans hh B1.out.drew.size) H5.out.1 (H5.out.2.but H5.out.1 (But.of_below (C:=No) B1.out.drew) hh (fun _ h=>h.elim))).mono ?_;rintro e w4 ⟨rfl,hB4⟩;have B4:=Lib.hid (B1.out.drew.trans (hB4.mono B1.out.drew.size));have L4b:=Lib.hid ((Lay.below (w:=w1.drew) L1b.out hB4 hw1));clear hB4;have u1:w4.cell? ⟨wr.heap.size,1,none⟩=some (.int .i64 xs):=L4b.out.1 1;have u2:w4.cell? ⟨wr.heap.size,2,none⟩=some (.string xn):=L4b.out.1 2;have u5:w4.cell? ⟨wr.heap.size,5,none⟩=some (.slice A5 kids.len c5):=L4b.out.1 5);(try go_wp2_with fail);refine hK.out _ _ ⟨u1,u2,u5⟩ (fun hHeld=>?_);clear hK K;(try simp only[Act.put,List.setIfInBounds_toArray,List.set_cons_zero,List.set_cons_succ,List.getElem_toArray,List.getElem_cons_zero,List.getElem_cons_succ])
      refine wpAnyH_take (i:=12) (v:=.string ⟨L2.toArray⟩) rfl (by kernel_rfl) (by kernel_rfl) (by kernel_rfl) (fun _ _ _ h=>h) (Or.inl ⟨by rfl,fun w hSw=>by (try dsimp only at hSw);go_simp⟩) (by assumption) ?_;(try simp only[Act.put,List.setIfInBounds_toArray,List.set_cons_zero,List.set_cons_succ,List.getElem_toArray,List.getElem_cons_zero,List.getElem_cons_succ])
      refine wpAnyH_take (i:=15) (v:=.string ⟨L3.toArray⟩) rfl (by kernel_rfl) (by kernel_rfl) (by kernel_rfl) (fun _ _ _ h=>h) (Or.inl ⟨by rfl,fun w hSw=>by (try dsimp only at hSw);go_simp⟩) (by assumption) ?_;(try simp only[Act.put,List.setIfInBounds_toArray,List.set_cons_zero,List.set_cons_succ,List.getElem_toArray,List.getElem_cons_zero,List.getElem_cons_succ])
      refine wpAnyH_take (i:=16) (v:=.string ⟨L4.toArray⟩) rfl (by kernel_rfl) (by kernel_rfl) (by kernel_rfl) (fun _ _ _ h=>h) (Or.inl ⟨by rfl,fun w hSw=>by (try dsimp only at hSw);go_simp⟩) (by assumption) ?_;(try simp only[Act.put,List.setIfInBounds_toArray,List.set_cons_zero,List.set_cons_succ,List.getElem_toArray,List.getElem_cons_zero,List.getElem_cons_succ])
      refine wpAnyH_take (i:=17) (v:=.string ⟨L5.toArray⟩) rfl (by kernel_rfl) (by kernel_rfl) (by kernel_rfl) (fun _ _ _ h=>h) (Or.inl ⟨by rfl,fun w hSw=>by (try dsimp only at hSw);go_simp⟩) (by assumption) ?_;(try simp only[Act.put,List.setIfInBounds_toArray,List.set_cons_zero,List.set_cons_succ,List.getElem_toArray,List.getElem_cons_zero,List.getElem_cons_succ])
      refine wpAnyH_take (i:=18) (v:=.string ⟨L5.toArray⟩) rfl (by kernel_rfl) (by kernel_rfl) (by kernel_rfl) (fun _ _ _ h=>h) (Or.inl ⟨by rfl,fun w hSw=>by (try dsimp only at hSw);go_simp⟩) (by assumption) ?_;(try simp only[Act.put,List.setIfInBounds_toArray,List.set_cons_zero,List.set_cons_succ,List.getElem_toArray,List.getElem_cons_zero,List.getElem_cons_succ])
      refine wpAnyH_done (by kernel_rfl) ?_ _
      go_wp2
      go_roundw
      case rel=>exact ⟨k+1,L5,r,rfl,by go_num,hkl1,Lib.hid ⟨by rw[show o+(k+1)*6=o+k*6+6 by omega];exact HR.out,B4.out,hkn.2.2.2,hkn.2.1,hsm4.2.2,HL.out.2,by rw[HL.out.1];exact HT5.out⟩⟩
      case measure=>simp[intOf];omega
theorem l06Tree_any (F:Fo):SerOK F:=l06Tree_lt (F.nodes+1) F (Nat.lt_succ_self _)
end Go.Proofs.YthdkkpbhijlpaaaGreatDoor
namespace Go.Proofs.YthdkkpbhijlpaaaGreatDoor
open Go.ChangeShapes Go.WideShapes Go.ChangeAt Go.RowKit Go.Deep
def Wrote (bb:Nat) (l:List UInt8) (w:World) (e:Ending) (w':World):Prop:=e=.returned (.tuple #[])∧BldF bb bb (Lib.byteCells l) w'∧Below bb w w'∧Kept bb w w'
theorem writeNew_any (bb:Nat) (l:List UInt8) (ps:List ByteArray) (w:World) (hI:BldF bb bb (Lib.byteCells l) w) (hn:ps.length≤1000) (hlen:l.length+(flat ps).length≤1048576*1024) (hBw:bb<w.heap.size):
 Calls Tryz.prog 116 #[.pointer (some ⟨bb,0,none⟩),.slice (some ⟨w.heap.size,0,none⟩) ps.length ps.length] (w.alloc (.cells (ps.map Value.string).toArray 9)) (Wrote bb (l++flat ps) w):=
 (writePieces_any bb bb w.heap.size l ps _ (Lib.IsBuilderF.alloc hI _) (Texts.new ps w) (by omega) hn (by omega) (by simp;omega)).mono fun _ _ ⟨he,h1,h2,h3⟩=>
  ⟨he,h1,((Below.refl _ w).alloc (by omega) _).trans h2,((Lib.OthersKept.refl _ _ w).alloc _).trans h3⟩
theorem kept_lay {bb k:Nat} {w w':World} {cs:Array Value} {t:TypeId} {fr:Nat × Nat} (hK:Kept bb w w') (h:w.heap[k]?=some (.cells cs t fr)) (hk:k≠bb) (ht:t≠5):w'.heap[k]?=some (.cells cs t fr):=
 hK k _ h (fun e=>hk (Option.some.inj e)) (fun c fz e=>by injection e with _ e2;exact ht e2)
theorem heap_new (w:World) (cs:Array Value) (t:TypeId):(w.alloc (.cells cs t)).heap[w.heap.size]?=some (.cells cs t (0,0)):=by
 show (w.heap.push _)[w.heap.size]?=_
 simp
theorem cell_heap {w:World} {k j:Nat} {cs:Array Value} {t:TypeId} {fr:Nat × Nat} (h:w.heap[k]?=some (.cells cs t fr)):w.cell? ⟨k,j,none⟩=cs[j]?:=by
 rw[Lib.cell_of_heap h]
def kindV (k:Int) (t:ByteArray) (content:Int) (b o:Nat):Value:=
 if k=1 then .iface 159 (.agg #[.pointer (some ⟨b,o,none⟩)]) else if k=3 then .iface 165 (.agg #[.string t])
 else if content=1 then .iface 164 (.agg #[.string t]) else .iface 162 (.agg #[.string t])
theorem kindOf_any (x:Nd) (content:Int) (b o lo hi:Nat) (w:World) (h:NdAt w lo hi b o x):
 Calls Tryz.prog 114 #[.pointer (some ⟨b,o,none⟩),.int .i64 content] w fun e w'=>e=.returned (kindV x.k x.t content b o)∧w=w':=by
 obtain ⟨⟨c0,c1,c2,c3,z2,z3⟩,_⟩:=h
 obtain ⟨k,sp,n,t,al⟩:=x
 simp only at c0 c1 c2 c3 z2 z3
 clear c1 c2 z2 z3
 by_cases h1:k=1
 ·subst h1
  have HE:Hid (kindV 1 t content b o=.iface 159 (.agg #[.pointer (some ⟨b,o,none⟩)])):=Lib.hid rfl
  go_enter Tryz.func114,Tryz.ntmps114
  go_wp2
  go_ret
  exact ⟨by simp only;rw[HE.out];rfl,rfl⟩
 ·have h1':(k==1)=false:=by simpa using h1
  by_cases h3:k=3
  ·subst h3
   have HE:Hid (kindV 3 t content b o=.iface 165 (.agg #[.string t])):=Lib.hid rfl
   clear h1
   go_enter Tryz.func114,Tryz.ntmps114
   go_wp2
   go_ret
   exact ⟨by simp only;rw[HE.out];rfl,rfl⟩
  ·have h3':(k==3)=false:=by simpa using h3
   by_cases hc:content=1
   ·subst hc
    have HE:=Lib.hid (show kindV k t 1 b o=.iface 164 (.agg #[.string t]) by simp[kindV,h1,h3])
    clear h1 h3
    go_enter Tryz.func114,Tryz.ntmps114
    go_wp2
    go_ret
    exact ⟨by simp only;rw[HE.out];rfl,rfl⟩
   ·have hc':(content==1)=false:=by simpa using hc
    have HE:=Lib.hid (show kindV k t content b o=.iface 162 (.agg #[.string t]) by simp[kindV,h1,h3,hc])
    clear h1 h3 hc
    go_enter Tryz.func114,Tryz.ntmps114
    go_wp2
    go_ret
    exact ⟨by simp only;rw[HE.out];rfl,rfl⟩
end Go.Proofs.YthdkkpbhijlpaaaGreatDoor
namespace Go.Proofs.YthdkkpbhijlpaaaGreatDoor
open Go.ChangeShapes Go.WideShapes Go.ChangeAt Go.RowKit Go.Deep
theorem AsAt.belowB {w w':World} {lo hi B b o:Nat} {A:Option Addr} {al:List (ByteArray × ByteArray)} (hA:RowAt lo hi A al.length b o) (h:AsAt w b o al) (hB:Below B w w') (hh:hi≤B):AsAt w' b o al:=by
 cases al with
 | nil=>trivial
 | cons x r=>exact h.carry fun o=>hB.cell (p:=⟨b,o,none⟩) (by have:=(hA.2 (by simp)).2.2;show b<_;omega)
theorem NdAt.belowB {w w':World} {lo hi b o B:Nat} {x:Nd} (h:NdAt w lo hi b o x) (hb:b<B) (hB:Below B w w') (hh:hi≤B):NdAt w' lo hi b o x:=by
 obtain ⟨⟨c0,c1,c2,c3,z2,z3⟩,A,c,b',o',c4,hR,ha⟩:=h
 have e:∀j,w'.cell? ⟨b,j,none⟩=w.cell? ⟨b,j,none⟩:=fun j=>hB.cell (p:=⟨b,j,none⟩) hb
 exact ⟨⟨(e _).trans c0,(e _).trans c1,(e _).trans c2,(e _).trans c3,z2,z3⟩,A,c,b',o',(e _).trans c4,hR,ha.belowB hR.2 hB hh⟩
theorem escAns_small {f:UInt8→List UInt8} {s:ByteArray} (h:s.size≤65536):escAns f s=⟨(escL f s.data.toList).toArray⟩:=by
 unfold escAns
 rw[if_pos (by omega),escS_all]
theorem kept_of_below {bb:Nat} {w w':World} (h:Below w.heap.size w w'):Kept bb w w':=fun k o hk _ _=>(h.block k (Array.getElem?_eq_some_iff.1 hk).1).trans hk
theorem BldF.keep {B b:Nat} {bs:List Value} {w w':World} (h:BldF B b bs w) (hB:But No w w'):BldF B b bs w':=by
 have one:∀p,Lib.BuilderAtF 94 5 B b p bs w→Lib.BuilderAtF 94 5 B b p bs w':=by
  intro p hp
  obtain ⟨h1,v,h2,h3,h4⟩:=hp
  have hlt:b<w.heap.size:=(Array.getElem?_eq_some_iff.1 h2).1
  exact ⟨h1,v,(hB.block b hlt id).trans h2,h3.kept ⟨hB.os,hB.tape,hB.output,hB.size,fun k hk _=>hB.block k hk id⟩ (Classical.em _),h4⟩
 exact h.imp (one _) (one _)
theorem BldF.next {B b:Nat} {bs:List Value} {w w':World} (h:BldF B b bs w) (hB:Below w.heap.size w w'):BldF B b bs w':=h.keep (But.of_below (C:=No) hB)
set_option maxHeartbeats 2000000 in
theorem writeStartTag_any (x:Nd) (bb:Nat) (l:List UInt8) (b o lo hi:Nat) (w:World) (hI:BldF bb bb (Lib.byteCells l) w) (hx:NdAt w lo hi b o x) (hb:b<bb) (hh:hi≤bb) (hbw:bb<w.heap.size) (hsm:AlSm x.al) (hz:l.length+(2+x.n.size+8*(x.al.length+asSize x.al))≤1048576*1024):
 Calls Tryz.prog 182 #[.pointer (some ⟨bb,0,none⟩),.agg #[.pointer (some ⟨b,o,none⟩)]] w (Wrote bb (l++tagText x.n x.al) w):=by
 obtain ⟨⟨c0,c1,c2,c3,z2,z3⟩,A,c,b',o',c4,hR,ha⟩:=hx
 obtain ⟨k,sp,n,t,al⟩:=x
 simp only at c0 c1 c2 c3 z2 z3 c4 hR ha hsm hz ⊢
 have hRc:=hR.1
 have hln:=hR.2.1
 have HR:=Lib.hid hR.2
 have HA:=Lib.hid ha
 have HS:=Lib.hid hsm
 have HI:=Lib.hid hI
 have hnl:=baLen n
 clear hR ha hsm hI c0 c1 c3 z3 z2
 have W1:Hid (∀W g,g=W.heap.size→BldF bb bb (Lib.byteCells l) W→bb<W.heap.size→Calls Tryz.prog 116 #[.pointer (some ⟨bb,0,none⟩),.slice (some ⟨g,0,none⟩) 2 2] (W.alloc (.cells #[.string ⟨#[60]⟩,.string n] 9)) (Wrote bb (l++(60::(n.data.toList++alText (al.take 0)))) W)):=Lib.hid fun W g hg h1 h2=>by
  subst hg
  have:=writeNew_any bb l [⟨#[60]⟩,n] W h1 (by simp) (by simp[flat];omega) h2
  rw[show flat [⟨#[60]⟩,n]=60::(n.data.toList++alText (al.take 0)) by simp[flat,alText]]at this
  exact this
 have HLN:=Lib.hid hnl
 have hbs:b<w.heap.size:=by omega
 clear hnl
 go_enter Tryz.func182,Tryz.ntmps182
 go_wp2_with (go_at_call 116;refine (W1.out (w.alloc (.cells #[.pointer (some ⟨b,o,none⟩)] 159)) _ (by simp) (Lib.IsBuilderF.alloc HI.out _) (by simp;omega)).mono ?_;rintro e w1 ⟨rfl,hI1,hB1,hK1⟩;have B1:Hid (Below bb w w1):=Lib.hid (((Below.refl bb w).alloc (by omega) _).trans hB1);have hbx:w1.heap[w.heap.size]?=some (.cells #[.pointer (some ⟨b,o,none⟩)] 159 (0,0)):=kept_lay hK1 (heap_new w _ _) (by omega) (by decide);have K1:Hid (Kept bb w w1):=Lib.hid (((Lib.OthersKept.refl _ _ w).alloc _).trans hK1);have I1:=Lib.hid hI1;clear hI1 hB1 hK1;have p0:w1.cell? ⟨w.heap.size,0,none⟩=some (.pointer (some ⟨b,o,none⟩)):=cell_heap hbx;have p4:=(B1.out.cell (p:=⟨b,o+4,none⟩) hb).trans c4;clear hbx)
 go_loopw [20] (fun i wr=>∃j:Nat,j≤al.length∧i=.int .i64 (j:Int)∧Hid (BldF bb bb (Lib.byteCells (l++(60::(n.data.toList++alText (al.take j))))) wr∧Below bb w wr∧Kept bb w wr)) (fun i wr=>al.length-(intOf i).toNat)
 case atStart=>exact ⟨0,Nat.zero_le _,rfl,Lib.hid ⟨I1.out,B1.out,K1.out⟩⟩
 case round=>
  obtain ⟨j,hj,rfl,HH⟩:=hrel
  clear p0 p4 c2 c4 W1 I1 B1 K1
  by_cases hlt:j<al.length
  ·obtain ⟨hIr,hBr,hKr⟩:=HH.out
   obtain ⟨e1,e2⟩:=asAt_nth HA.out j hlt
   obtain ⟨rfl,hlo,hhi⟩:=HR.out.2 (by omega)
   have q1:=(hBr.cell (p:=⟨b',o'+j*2,none⟩) (by show b'<bb;omega)).trans e1
   have q2:=(hBr.cell (p:=⟨b',o'+j*2+1,none⟩) (by show b'<bb;omega)).trans e2
   have hx:=HS.out al[j] (List.getElem_mem hlt)
   have hT:=Lib.hid (alText_take hlt)
   have hz1:=asSize_nth al j hlt
   have hz2:=alText_len (al.take j)
   have hz3:=asSize_take al j
   have hz4:(al.take j).length≤j:=List.length_take_le _ _
   have hz8:=alText_len al
   generalize al[j]=y at *
   obtain ⟨yn,yv⟩:=y
   simp only at q1 q2 hx hz1
   have hz5:=escV_le yv
   have hz6:=baLen yn
   have hrs:w.heap.size≤wr.heap.size:=hBr.size
   have IR:=Lib.hid hIr
   have BR:=Lib.hid hBr
   have KR:=Lib.hid hKr
   have HV:Hid (∀W,Calls Tryz.prog 235 #[.string yv] W fun e w'=>e=.returned (.string ⟨(escL escV yv.data.toList).toArray⟩)∧Below W.heap.size W w'):=Lib.hid fun W=>by have:=implEscapeValue_any yv W;rw[escAns_small hx.2]at this;exact this
   have WR:Hid (∀W g,g=W.heap.size→BldF bb bb (Lib.byteCells (l++(60::(n.data.toList++alText (al.take j))))) W→bb<W.heap.size→Calls Tryz.prog 116 #[.pointer (some ⟨bb,0,none⟩),.slice (some ⟨g,0,none⟩) 5 5] (W.alloc (.cells #[.string ⟨#[32]⟩,.string yn,.string ⟨#[61,34]⟩,.string ⟨(escL escV yv.data.toList).toArray⟩,.string ⟨#[34]⟩] 9)) (Wrote bb (l++(60::(n.data.toList++alText (al.take (j+1))))) W)):=Lib.hid fun W g hg h1 h2=>by
    subst hg
    have hn:=HLN.out
    have hfl:(l++(60::(n.data.toList++alText (al.take j))))++flat [⟨#[32]⟩,yn,⟨#[61,34]⟩,⟨(escL escV yv.data.toList).toArray⟩,⟨#[34]⟩]=l++(60::(n.data.toList++alText (al.take (j+1)))):=by rw[hT.out];simp[flat]
    have h5:=alText_len (al.take (j+1))
    have h6:=asSize_take al (j+1)
    have h7:(al.take (j+1)).length≤j+1:=List.length_take_le _ _
    have:=writeNew_any bb (l++(60::(n.data.toList++alText (al.take j)))) [⟨#[32]⟩,yn,⟨#[61,34]⟩,⟨(escL escV yv.data.toList).toArray⟩,⟨#[34]⟩] W h1 (by simp) (by rw[←List.length_append,hfl];simp only[List.length_append,List.length_cons];omega) h2
    rw[hfl]at this
    exact this
   clear e1 e2 hz1 hz2 hz3 hz4 hz5 hz6 hz8 hx hT HH hIr hBr hKr
   have hbr:b'<wr.heap.size:=by omega
   go_wp2
   go_region_held3 (fun w'=>w'.cell? ⟨wr.heap.size,0,none⟩=some (.string yn)∧w'.cell? ⟨wr.heap.size,1,none⟩=some (.string yv)) (first | exact And.intro u1 u2 | exact And.intro v1 v2 | go_keep) (first | (go_at_call 235;refine (HV.out _).mono ?_;rintro e w2 ⟨rfl,hB2⟩;have I2:Hid (BldF bb bb (Lib.byteCells (l++(60::(n.data.toList++alText (al.take j))))) w2):=Lib.hid (BldF.next (BldF.drew (Lib.IsBuilderF.alloc IR.out _)) hB2);have B2:Hid (Below bb w w2):=Lib.hid ((BR.out.alloc (by omega) _).drew.trans (hB2.mono (by show bb≤(wr.heap.push _).size;simp <;> omega)));have K2:Hid (Kept bb w w2):=Lib.hid ((KR.out.trans ((Lib.OthersKept.refl _ _ wr).alloc _)).drew.trans (kept_of_below hB2));have hb2:w2.heap[wr.heap.size]?=some (.cells #[.string yn,.string yv] 81 (0,0)):=(hB2.block wr.heap.size (by simp)).trans (heap_new wr _ _);have hs2:w.heap.size<w2.heap.size:=Nat.lt_of_lt_of_le (by show w.heap.size<(wr.heap.push _).size;simp <;> omega) hB2.size;have v1:w2.cell? ⟨wr.heap.size,0,none⟩=some (.string yn):=cell_heap hb2;have v2:w2.cell? ⟨wr.heap.size,1,none⟩=some (.string yv):=cell_heap hb2;have HB2:=Lib.hid hb2;clear hB2 hb2) | (go_at_call 116;refine (WR.out w2 _ rfl I2.out (by omega)).mono ?_;rintro e w3 ⟨rfl,hI3,hB3,hK3⟩;have hb3:=kept_lay hK3 HB2.out (by omega) (by decide);have I3:Hid (BldF bb bb (Lib.byteCells (l++(60::(n.data.toList++alText (al.take (j+1)))))) w3∧Below bb w w3∧Kept bb w w3):=Lib.hid ⟨hI3,B2.out.trans hB3,K2.out.trans hK3⟩;have u1:w3.cell? ⟨wr.heap.size,0,none⟩=some (.string yn):=cell_heap hb3;have u2:w3.cell? ⟨wr.heap.size,1,none⟩=some (.string yv):=cell_heap hb3;clear hb3 hI3 hB3 hK3))
   go_wp2
   go_roundw
   case rel=>exact ⟨j+1,by omega,by go_num,Lib.hid I3.out⟩
   case measure=>simp[intOf];omega
  ·obtain rfl:j=al.length:=by omega
   have e9:al.take al.length=al:=List.take_length
   have hz8:=alText_len al
   rw[e9]at HH
   have W9:Hid (∀W g,g=W.heap.size→BldF bb bb (Lib.byteCells (l++(60::(n.data.toList++alText al)))) W→bb<W.heap.size→Calls Tryz.prog 116 #[.pointer (some ⟨bb,0,none⟩),.slice (some ⟨g,0,none⟩) 1 1] (W.alloc (.cells #[.string ⟨#[62]⟩] 9)) (Wrote bb (l++tagText n al) W)):=Lib.hid fun W g hg h1 h2=>by
    subst hg
    have hn:=HLN.out
    have:=writeNew_any bb (l++(60::(n.data.toList++alText al))) [⟨#[62]⟩] W h1 (by simp) (by simp[flat];omega) h2
    rw[show (l++(60::(n.data.toList++alText al)))++flat [⟨#[62]⟩]=l++tagText n al by simp[flat,tagText]]at this
    exact this
   have hrs:w.heap.size≤wr.heap.size:=HH.out.2.1.size
   clear e9 hz8
   go_wp2_with (go_at_call 116;refine (W9.out wr _ rfl HH.out.1 (by omega)).mono ?_;rintro e w2 ⟨rfl,hI2,hB2,hK2⟩;have I2:=Lib.hid (And.intro hI2 (And.intro (HH.out.2.1.trans hB2) (HH.out.2.2.trans hK2)));clear hI2 hB2 hK2)
   go_end0
   exact ⟨rfl,I2.out⟩
end Go.Proofs.YthdkkpbhijlpaaaGreatDoor
