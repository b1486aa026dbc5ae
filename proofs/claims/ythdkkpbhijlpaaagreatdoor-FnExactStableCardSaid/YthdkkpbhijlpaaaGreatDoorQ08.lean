import Derived.Deep.RegionWith
import Derived.Deep.Draws
import Derived.BigQuiet
import Derived.IntWalk
import Derived.Test.YthdkkpbhijlpaaaGreatDoorQ07
import Derived.Test.YthdkkpbhijlpaaaGreatDoorQ04
set_option linter.unusedVariables false
namespace Go.Proofs.YthdkkpbhijlpaaaGreatDoor
open Go.ChangeShapes Go.WideShapes Go.ChangeAt Go.RowKit Go.Deep
theorem eqAttr_same (x:ByteArray × ByteArray) (w:World):
 Calls Tryz.prog 101 #[.agg #[.string x.1,.string x.2],.agg #[.string x.1,.string x.2]] w fun e w'=>e=.returned (.bool true)∧Below w.heap.size w w':=by
 obtain ⟨n,v⟩:=x
 go_enter Tryz.func101,Tryz.ntmps101
 go_wp2
 go_ret
 exact ⟨rfl,by go_grown⟩
theorem eqAttrS_same (al:List (ByteArray × ByteArray)) (w:World) (A A':Option Addr) (c c' b b' o o' lo hi lo' hi':Nat) (hA:RowAt lo hi A al.length b o) (hA':RowAt lo' hi' A' al.length b' o') (hh:hi≤w.heap.size) (hh':hi'≤w.heap.size)
 (hal:AsAt w b o al) (hal':AsAt w b' o' al):
 Calls Tryz.prog 55 #[.slice A al.length c,.slice A' al.length c'] w fun e w'=>e=.returned (.bool true)∧Below w.heap.size w w':=by
 have hlen:=hA.1
 unfold maxLen at hlen
 have HA:=Lib.hid hA
 have HS:=Lib.hid hal
 have HA':=Lib.hid hA'
 have HS':=Lib.hid hal'
 clear hA hal hA' hal'
 go_enter Tryz.func55,Tryz.ntmps55
 go_wp2
 go_loopw [5] (fun i wr=>∃(k:Nat) (suf:List (ByteArray × ByteArray)),i=.int .i64 (k:Int)∧k+suf.length=al.length∧Hid (AsAt w b (o+k*2) suf∧AsAt w b' (o'+k*2) suf∧Below w.heap.size w wr)) (fun i wr=>al.length-(intOf i).toNat)
 case atStart=>exact ⟨0,al,rfl,by omega,Lib.hid ⟨by simpa using HS.out,by simpa using HS'.out,Below.refl _ _⟩⟩
 case round=>
  obtain ⟨k,suf,rfl,hk,HH⟩:=hrel
  cases suf with
  | nil=>
   have hkl:k=al.length:=by simpa using hk
   clear hk
   subst hkl
   go_wp2
   go_ret
   exact ⟨rfl,HH.out.2.2⟩
  | cons x r=>
   obtain ⟨⟨s1,s2,s3,s4,s5⟩,⟨s1',s2',_,_,s5'⟩,hB⟩:=HH.out
   obtain ⟨rfl,hlo,hhi⟩:=HA.out.2 (by simp at hk;omega)
   obtain ⟨rfl,hlo',hhi'⟩:=HA'.out.2 (by simp at hk;omega)
   have t1:=(hB.cell (p:=⟨b,o+k*2,none⟩) (by show b<_;omega)).trans s1
   have t2:=(hB.cell (p:=⟨b,o+k*2+1,none⟩) (by show b<_;omega)).trans s2
   have t1':=(hB.cell (p:=⟨b',o'+k*2,none⟩) (by show b'<_;omega)).trans s1'
   have t2':=(hB.cell (p:=⟨b',o'+k*2+1,none⟩) (by show b'<_;omega)).trans s2'
   have H5:=Lib.hid s5
   have H5':=Lib.hid s5'
   have HB:=Lib.hid hB
   simp at hk
   clear HH s1 s2 s5 s1' s2' s5' hB
   go_wp2
   go_region_with (go_at_call 101;go_loud (refine (eqAttr_same x _).mono ?_;rintro e w' ⟨rfl,hB'⟩;have HB':=Lib.hid hB';clear hB'))
   all_goals (
    go_wp2
    go_roundw
    case rel=>exact ⟨k+1,r,by go_num,by omega,Lib.hid ⟨by rw[show o+(k+1)*2=o+k*2+2 by omega];exact H5.out,by rw[show o'+(k+1)*2=o'+k*2+2 by omega];exact H5'.out,HB.out.drew.trans (HB'.out.mono HB.out.size)⟩⟩
    case measure=>simp[intOf];omega)
def EqOK (F:Fo):Prop:=∀(w:World) (A A':Option Addr) (c c' b b' o o' lo hi lo' hi':Nat),RowAt lo hi A F.len b o→RowAt lo' hi' A' F.len b' o'→hi≤w.heap.size→hi'≤w.heap.size→FoAt w lo hi b o F→FoAt w lo' hi' b' o' F →
 Calls Tryz.prog 11 #[.slice A F.len c,.slice A' F.len c'] w fun e w'=>e=.returned (.bool true)∧Below w.heap.size w w'
theorem two_lay {w w':World} {c1 c2:Array Value} {t1 t2:TypeId} (h:Below (w.heap.size+1+1) ((w.alloc (.cells c1 t1)).alloc (.cells c2 t2)) w'):
 Lay w' w.heap.size c1∧Lay w' (w.heap.size+1) c2∧Below w.heap.size w w':=by
 have s1:(w.alloc (.cells c1 t1)).heap.size=w.heap.size+1:=by simp
 have l1:=Lay.new w c1 t1
 have l2:=Lay.new (w.alloc (.cells c1 t1)) c2 t2
 rw[s1]at l2
 exact ⟨(l1.alloc (by omega) _).below h (by omega),l2.below h (by omega),Below.trans (by go_grown) (h.mono (by omega))⟩
theorem eqNode_same (k sp:Int) (n t:ByteArray) (al:List (ByteArray × ByteArray)) (kids:Fo) (ih:EqOK kids) (w:World) (A K A' K':Option Addr) (c kc c' kc' b o kb ko b' o' kb' ko' lo hi lo' hi':Nat)
 (hA:RowAt lo hi A al.length b o) (hal:AsAt w b o al) (hK:RowAt lo hi K kids.len kb ko) (hk:FoAt w lo hi kb ko kids) (hh:hi≤w.heap.size)
 (hA':RowAt lo' hi' A' al.length b' o') (hal':AsAt w b' o' al) (hK':RowAt lo' hi' K' kids.len kb' ko') (hk':FoAt w lo' hi' kb' ko' kids) (hh':hi'≤w.heap.size):
 Calls Tryz.prog 28 #[.agg #[.int .i64 k,.int .i64 sp,.string n,.string t,.slice A al.length c,.slice K kids.len kc],.agg #[.int .i64 k,.int .i64 sp,.string n,.string t,.slice A' al.length c',.slice K' kids.len kc']] w fun e w'=>
  e=.returned (.bool true)∧Below w.heap.size w w':=by
 have HA:=Lib.hid hA
 have HN:=Lib.hid hal
 have HF:=Lib.hid hk
 have HI:=Lib.hid ih
 have HK:=Lib.hid hK
 have HA':=Lib.hid hA'
 have HN':=Lib.hid hal'
 have HF':=Lib.hid hk'
 have HK':=Lib.hid hK'
 clear hal ih hk hA hK hal' hk' hA' hK'
 go_enter Tryz.func28,Tryz.ntmps28
 go_wp2_with (first
  | (go_at_call 55;go_loud (refine (eqAttrS_same al _ A A' c c' b b' o o' lo hi lo' hi' HA.out HA'.out ?a1 ?a2 ?a3 ?a4).mono ?a5;(case a1=>(simp;omega));(case a2=>(simp;omega));(case a3=>exact al_below HA.out HN.out (by go_grown) hh);(case a4=>exact al_below HA'.out HN'.out (by go_grown) hh');rintro e w1 ⟨rfl,hB'⟩;simp only[World.size_alloc]at hB';obtain ⟨L1,L2,B3⟩:=two_lay hB';have r5:=L1.1 5;have r5':=L2.1 5;have KB:=Lib.hid B3;simp at r5 r5';clear L1 L2 B3 hB'))
  | (go_at_call 11;go_loud (refine (HI.out _ K K' kc kc' kb kb' ko ko' lo hi lo' hi' HK.out HK'.out (Nat.le_trans hh KB.out.size) (Nat.le_trans hh' KB.out.size) (FoAt.below HK.out HF.out KB.out hh) (FoAt.below HK'.out HF'.out KB.out hh')).mono ?_;rintro e w2 ⟨rfl,hB2⟩;have KB2:=Lib.hid hB2;clear hB2)))
 go_ret
 exact ⟨rfl,KB.out.trans (KB2.out.mono KB.out.size)⟩
theorem eqNodeS_lt:∀(N:Nat) (F:Fo),F.nodes<N→EqOK F:=by
 intro N
 induction N with
 | zero=>intro F hF;omega
 | succ N IH=>
 intro F hF w A A' c c' b b' o o' lo hi lo' hi' hA hA' hh hh' hFo hFo'
 have hlen:=hA.1
 unfold maxLen at hlen
 have HA:=Lib.hid hA
 have HS:=Lib.hid hFo
 have HA':=Lib.hid hA'
 have HS':=Lib.hid hFo'
 have HF:=Lib.hid hF
 have HI:=Lib.hid IH
 clear hA hFo hF IH hA' hFo'
 go_enter Tryz.func11,Tryz.ntmps11
 go_wp2
 go_loopw [5] (fun i wr=>∃(k:Nat) (suf:Fo),i=.int .i64 (k:Int)∧k+suf.len=F.len ∧
  Hid (FoAt w lo hi b (o+k*6) suf∧FoAt w lo' hi' b' (o'+k*6) suf∧Below w.heap.size w wr∧suf.nodes<N+1)) (fun i wr=>F.len-(intOf i).toNat)
 case atStart=>exact ⟨0,F,rfl,by omega,Lib.hid ⟨by simpa using HS.out,by simpa using HS'.out,Below.refl _ _,HF.out⟩⟩
 case round=>
  obtain ⟨k,suf,rfl,hk,HH⟩:=hrel
  cases suf with
  | nil=>
   have hkl:k=F.len:=by simpa[Fo.len]using hk
   clear hk
   subst hkl
   go_wp2
   go_ret
   exact ⟨rfl,HH.out.2.2.1⟩
  | cons xk xs xn xt xa kids r=>
   have hkl:k<F.len:=by simp[Fo.len]at hk;omega
   obtain ⟨⟨⟨s0,s1,s2,s3,z2,z3⟩,⟨A4,c4,b4,o4,s4,r4,a4⟩,⟨A5,c5,b5,o5,s5,r5,a5⟩,sr⟩,⟨⟨s0',s1',s2',s3',_,_⟩,⟨A4',c4',b4',o4',s4',r4',a4'⟩,⟨A5',c5',b5',o5',s5',r5',a5'⟩,sr'⟩,hB,hnd⟩:=HH.out
   replace r4:=r4.2
   replace r5:=r5.2
   replace r4':=r4'.2
   replace r5':=r5'.2
   obtain ⟨rfl,hlo,hhi⟩:=HA.out.2 (by omega)
   obtain ⟨rfl,hlo',hhi'⟩:=HA'.out.2 (by omega)
   have hb:b<w.heap.size:=by omega
   have hb':b'<w.heap.size:=by omega
   have t0:=(hB.cell (p:=⟨b,_,none⟩) hb).trans s0
   have t1:=(hB.cell (p:=⟨b,_,none⟩) hb).trans s1
   have t2:=(hB.cell (p:=⟨b,_,none⟩) hb).trans s2
   have t3:=(hB.cell (p:=⟨b,_,none⟩) hb).trans s3
   have t4:=(hB.cell (p:=⟨b,_,none⟩) hb).trans s4
   have t5:=(hB.cell (p:=⟨b,_,none⟩) hb).trans s5
   have t0':=(hB.cell (p:=⟨b',_,none⟩) hb').trans s0'
   have t1':=(hB.cell (p:=⟨b',_,none⟩) hb').trans s1'
   have t2':=(hB.cell (p:=⟨b',_,none⟩) hb').trans s2'
   have t3':=(hB.cell (p:=⟨b',_,none⟩) hb').trans s3'
   have t4':=(hB.cell (p:=⟨b',_,none⟩) hb').trans s4'
   have t5':=(hB.cell (p:=⟨b',_,none⟩) hb').trans s5'
   have HR:=Lib.hid sr
   have HR':=Lib.hid sr'
   have HB:=Lib.hid hB
   have H4:=Lib.hid (And.intro a4 a4')
   have H5:=Lib.hid (And.intro a5 a5')
   have R4:=Lib.hid (And.intro r4 r4')
   have R5:=Lib.hid (And.intro r5 r5')
   have HND:=Lib.hid hnd
   have HK:=Lib.hid hk
   clear HH s0 s1 s2 s3 s4 s5 sr s0' s1' s2' s3' s4' s5' sr' hB hnd a4 a5 r4 r5 a4' a5' r4' r5' hk
   go_wp2
   go_region_with (go_at_call 28;go_loud (refine (eqNode_same xk xs xn xt xa kids (HI.out kids (by have:=HND.out;simp[Fo.nodes]at this;omega)) _ A4 A5 A4' A5' c4 c5 c4' c5' b4 o4 b5 o5 b4' o4' b5' o5' lo hi lo' hi' R4.out.1 (al_below R4.out.1 H4.out.1 HB.out.drew hh) R5.out.1 (FoAt.below R5.out.1 H5.out.1 HB.out.drew hh) (Nat.le_trans hh HB.out.size) R4.out.2 (al_below R4.out.2 H4.out.2 HB.out.drew hh') R5.out.2 (FoAt.below R5.out.2 H5.out.2 HB.out.drew hh') (Nat.le_trans hh' HB.out.size)).mono ?_;rintro e w' ⟨rfl,hB'⟩;have HB':=Lib.hid hB';clear hB'))
   all_goals (
    go_wp2
    go_roundw
    case rel=>exact ⟨k+1,r,by go_num,by have:=HK.out;simp[Fo.len]at this;omega,Lib.hid ⟨by rw[show o+(k+1)*6=o+k*6+6 by omega];exact HR.out,by rw[show o'+(k+1)*6=o'+k*6+6 by omega];exact HR'.out,HB.out.drew.trans (HB'.out.mono HB.out.size),by have:=HND.out;simp[Fo.nodes]at this;omega⟩⟩
    case measure=>simp[intOf];omega)
theorem eqNodeS_same (F:Fo):EqOK F:=eqNodeS_lt (F.nodes+1) F (Nat.lt_succ_self _)
end Go.Proofs.YthdkkpbhijlpaaaGreatDoor
namespace Go.Proofs.YthdkkpbhijlpaaaGreatDoor
open Go.ChangeShapes Go.WideShapes Go.ChangeAt Go.RowKit Go.Deep
theorem str_ext {a b:ByteArray} (h:a.toList=b.toList):a=b:=by
 rw[ByteArray.toList_eq,ByteArray.toList_eq]at h
 obtain ⟨⟨x⟩⟩:=a
 obtain ⟨⟨y⟩⟩:=b
 simp at h
 subst h
 rfl
theorem str_ne {a b:ByteArray} (h:¬a=b):(a.toList==b.toList)=false:=by
 rw[beq_eq_false_iff_ne];exact fun e=>h (str_ext e)
theorem AsAt.get {w:World} {b:Nat}:∀{al:List (ByteArray × ByteArray)} {o:Nat},AsAt w b o al→∀i (h:i<al.length),w.cell? ⟨b,o+i*2,none⟩=some (.string al[i].1)∧w.cell? ⟨b,o+i*2+1,none⟩=some (.string al[i].2)∧al[i].1.size≤maxLen∧al[i].2.size≤maxLen
 | x::r,o,⟨h1,h2,h3,h4,h5⟩,0,_=>⟨by simpa using h1,by simpa using h2,h3,h4⟩
 | x::r,o,⟨h1,h2,h3,h4,h5⟩,i+1,h=>by
  have:=AsAt.get h5 i (by simpa using h)
  rw[show o+(i+1)*2=o+2+i*2 by omega]
  simpa using this
theorem below_drewN {B:Nat} {w w':World} (h:Below B w w') (n:Nat):Below B w (w'.drewN n):=by
 induction n with
 | zero=>exact h
 | succ n ih=>exact ih.drew
def AttrIs (x:ByteArray × ByteArray):Prop:=namedB small tagB x.1=true∧x.2.size≤40
def AlTo (al:List (ByteArray × ByteArray)) (k:Nat):Prop:=∀i (h:i<al.length),i<k→AttrIs al[i]∧∀j (hj:j<i),al[j].1≠al[i].1
def AlOK (al:List (ByteArray × ByteArray)):Prop:=al.length≤6∧AlTo al al.length
open Classical in
noncomputable def alB (al:List (ByteArray × ByteArray)):Bool:=decide (AlOK al)
theorem alB_true {al:List (ByteArray × ByteArray)} (h:AlOK al):true=alB al:=by simp[alB,h]
theorem alB_false {al:List (ByteArray × ByteArray)} (h:¬AlOK al):false=alB al:=by simp[alB,h]
theorem l03Attrs_any (al:List (ByteArray × ByteArray)) (w:World) (A:Option Addr) (c b o lo hi:Nat) (hA:RowAt lo hi A al.length b o) (hh:hi≤w.heap.size) (hal:AsAt w b o al):
 Calls Tryz.prog 213 #[.slice A al.length c] w fun e w'=>e=.returned (.bool (alB al))∧Below w.heap.size w w':=by
 have hlen:=hA.1
 unfold maxLen at hlen
 by_cases h6:al.length≤6
 ·have HA:=Lib.hid hA
  have HS:=Lib.hid hal.get
  have HAL:=Lib.hid hal
  clear hA hal
  go_enter Tryz.func213,Tryz.ntmps213
  go_wp2
  go_loopw [3] (fun i wr=>∃(k:Nat),i=.int .i64 (k:Int)∧k≤al.length∧Hid (AlTo al k∧Below w.heap.size w wr)) (fun i wr=>al.length-(intOf i).toNat)
  case atStart=>exact ⟨0,rfl,Nat.zero_le _,Lib.hid ⟨fun i _ h=>absurd h (Nat.not_lt_zero _),Below.refl _ _⟩⟩
  case round=>
   obtain ⟨k,rfl,hk,HH⟩:=hrel
   by_cases hlt:k<al.length
   ·obtain ⟨rfl,hlo,hhi⟩:=HA.out.2 (by omega)
    have hB:=HH.out.2
    obtain ⟨s1,s2,s3,s4⟩:=HS.out k hlt
    have t1:=(hB.cell (p:=⟨b,o+k*2,none⟩) (by show b<_;omega)).trans s1
    have t2:=(hB.cell (p:=⟨b,o+k*2+1,none⟩) (by show b<_;omega)).trans s2
    have HB:=Lib.hid hB
    clear hB s1 s2
    generalize hx:al[k]=x at *
    obtain ⟨n,v⟩:=x
    simp only at t1 t2 s3 s4
    have HX:=Lib.hid hx
    clear hx
    by_cases hn:namedB small tagB n=true
    ·by_cases hv:v.size≤40
     ·go_wp2_with (go_at_call 120;go_loud (refine (l01Tag_any n _ s3).mono ?_;rintro e w' ⟨rfl,rfl⟩;rw[hn]))
      go_loopw [4] (fun j wq=>∃(m:Nat),j=.int .i64 (m:Int)∧m≤k∧Hid ((∀j (hj:j<m) (hj':j<al.length),al[j].1≠n)∧Below w.heap.size w wq)) (fun j wq=>k-(intOf j).toNat)
      case atStart=>exact ⟨0,rfl,Nat.zero_le _,Lib.hid ⟨fun j hj=>absurd hj (Nat.not_lt_zero _),HB.out⟩⟩
      case round=>
       obtain ⟨m,rfl,hm,HM⟩:=hrel
       by_cases hmk:m<k
       ·obtain ⟨q1,_,q3,_⟩:=HS.out m (by omega)
        have hQ:=HM.out.2
        have p1:=(hQ.cell (p:=⟨b,o+m*2,none⟩) (by show b<_;omega)).trans q1
        obtain ⟨r1,_,_,_⟩:=HS.out k hlt
        have p2:=(hQ.cell (p:=⟨b,o+k*2,none⟩) (by show b<_;omega)).trans r1
        rw[HX.out]at p2
        simp only at p2
        generalize hy:al[m].1=y at *
        have HQ:=Lib.hid hQ
        have HY:=Lib.hid hy
        clear hQ q1 r1 hy
        by_cases he:y=n
        ·subst he
         go_wp2
         go_quiet (fail)
         go_wp2
         go_ret
         exact ⟨ret_bool (alB_false fun h=>(h.2 k hlt hlt).2 m hmk (by rw[HX.out,HY.out])),below_drewN HQ.out _⟩
        ·have he':=str_ne he
         go_wp2
         go_quiet (fail)
         go_wp2
         go_roundw
         case rel=>exact ⟨m+1,by go_num,by omega,Lib.hid ⟨fun j hj hj'=>by
          by_cases e:j=m
          ·subst e;rw[HY.out];exact he
          ·exact HM.out.1 j (by omega) hj',below_drewN HQ.out _⟩⟩
         case measure=>simp[intOf];omega
       ·obtain rfl:m=k:=by omega
        go_wp2
        go_roundw
        case rel=>exact ⟨m+1,by go_num,by omega,Lib.hid ⟨fun i hi hik=>by
         by_cases e:i=m
         ·subst e;rw[HX.out];exact ⟨⟨hn,hv⟩,fun j hj=>HM.out.1 j hj (by omega)⟩
         ·exact HH.out.1 i hi (by omega),HM.out.2⟩⟩
        case measure=>simp[intOf];omega
     ·go_wp2_with (go_at_call 120;go_loud (refine (l01Tag_any n _ s3).mono ?_;rintro e w' ⟨rfl,rfl⟩;rw[hn]))
      go_ret
      exact ⟨ret_bool (alB_false fun h=>hv (by have:=(h.2 k hlt hlt).1.2;rw[HX.out]at this;exact this)),HB.out⟩
    ·go_wp2_with (go_at_call 120;go_loud (refine (l01Tag_any n _ s3).mono ?_;rintro e w' ⟨rfl,rfl⟩;rw[Bool.eq_false_iff.2 hn]))
     go_ret
     exact ⟨ret_bool (alB_false fun h=>hn (by have:=(h.2 k hlt hlt).1.1;rw[HX.out]at this;exact this)),HB.out⟩
   ·obtain rfl:k=al.length:=by omega
    go_wp2
    go_ret
    exact ⟨ret_bool (alB_true ⟨h6,HH.out.1⟩),HH.out.2⟩
 ·clear hal hA
  go_enter Tryz.func213,Tryz.ntmps213
  go_wp2
  go_ret
  exact ⟨ret_bool (alB_false fun h=>h6 h.1),Below.refl _ _⟩
end Go.Proofs.YthdkkpbhijlpaaaGreatDoor
namespace Go.Proofs.YthdkkpbhijlpaaaGreatDoor
open Go.ChangeShapes Go.WideShapes Go.ChangeAt Go.RowKit Go.Deep
structure Nd where
 k:Int
 sp:Int
 n:ByteArray
 t:ByteArray
 al:List (ByteArray × ByteArray)
def WordsIs (x:Nd):Prop:=x.t.size≤120∧x.sp=0∧x.n.size=0∧x.al.length=0
def ElemIs (x:Nd):Prop:=namedB small tagB x.n=true∧0≤x.sp∧x.sp≤2∧x.t.size=0∧AlOK x.al
def NodeIs (x:Nd):Prop:=(x.k=1∧ElemIs x)∨(x.k=2∧0<x.t.size∧WordsIs x)∨(x.k=3∧WordsIs x)
def RawN (x:Nd):Prop:=x.sp=0∧inL rawL x.n=true
def VoidN (x:Nd):Prop:=x.sp=0∧inL voidL x.n=true
def MayHold:List Nd→Int→Prop
 | [],_=>True
 | p::_,k=>(RawN p→k=2)∧(¬RawN p→p.k=1∧¬VoidN p)
def Fine:List Nd→Fo→Prop
 | _,.nil=>True
 | ch,.cons k sp n t al kids rest=>NodeIs ⟨k,sp,n,t,al⟩∧MayHold ch k∧Fine (⟨k,sp,n,t,al⟩::ch) kids∧Fine ch rest
def Fo.deep:Fo→Nat
 | .nil=>0
 | .cons _ _ _ _ _ kids rest=>max (1+kids.deep) rest.deep
def Good (F:Fo):Prop:=F.nodes≤60∧F.deep≤10∧Fine [] F
open Classical in
noncomputable def goodB (F:Fo):Bool:=decide (Good F)
theorem goodB_true {F:Fo} (h:Good F):goodB F=true:=by simp[goodB,h]
theorem Fo.len_le_nodes:∀F:Fo,F.len≤F.nodes
 | .nil=>Nat.le_refl _
 | .cons _ _ _ _ _ kids rest=>by have:=Fo.len_le_nodes rest;simp[Fo.len,Fo.nodes];omega
def trav {σ:Type} (st:σ→List Nd→σ × Bool):Fo→List Nd→σ→σ × Bool
 | .nil,_,s=>(s,true)
 | .cons k sp n t al kids rest,ch,s=>
  if (st s (⟨k,sp,n,t,al⟩::ch)).2 then
   if (trav st kids (⟨k,sp,n,t,al⟩::ch) (st s (⟨k,sp,n,t,al⟩::ch)).1).2 then trav st rest ch (trav st kids (⟨k,sp,n,t,al⟩::ch) (st s (⟨k,sp,n,t,al⟩::ch)).1).1
   else ((trav st kids (⟨k,sp,n,t,al⟩::ch) (st s (⟨k,sp,n,t,al⟩::ch)).1).1,false)
  else ((st s (⟨k,sp,n,t,al⟩::ch)).1,false)
def travP {σ:Type} (ok:σ→List Nd→Prop) (st:σ→List Nd→σ × Bool):Fo→List Nd→σ→Prop
 | .nil,_,_=>True
 | .cons k sp n t al kids rest,ch,s=>ok s (⟨k,sp,n,t,al⟩::ch)∧((st s (⟨k,sp,n,t,al⟩::ch)).2=true →
  travP ok st kids (⟨k,sp,n,t,al⟩::ch) (st s (⟨k,sp,n,t,al⟩::ch)).1 ∧
  ((trav st kids (⟨k,sp,n,t,al⟩::ch) (st s (⟨k,sp,n,t,al⟩::ch)).1).2=true→travP ok st rest ch (trav st kids (⟨k,sp,n,t,al⟩::ch) (st s (⟨k,sp,n,t,al⟩::ch)).1).1))
def always {σ:Type} (_:σ) (_:List Nd):Prop:=True
abbrev NP:=Nd × Nat × Fo
def trav2 {σ:Type} (st:σ→List NP→σ × Bool):Fo→List NP→Nat→σ→σ × Bool
 | .nil,_,_,s=>(s,true)
 | .cons k sp n t al kids rest,ch,j,s=>
  if (st s ((⟨k,sp,n,t,al⟩,j,kids)::ch)).2 then
   if (trav2 st kids ((⟨k,sp,n,t,al⟩,j,kids)::ch) 0 (st s ((⟨k,sp,n,t,al⟩,j,kids)::ch)).1).2 then trav2 st rest ch (j+1) (trav2 st kids ((⟨k,sp,n,t,al⟩,j,kids)::ch) 0 (st s ((⟨k,sp,n,t,al⟩,j,kids)::ch)).1).1
   else ((trav2 st kids ((⟨k,sp,n,t,al⟩,j,kids)::ch) 0 (st s ((⟨k,sp,n,t,al⟩,j,kids)::ch)).1).1,false)
  else ((st s ((⟨k,sp,n,t,al⟩,j,kids)::ch)).1,false)
def travP2 {σ:Type} (ok:σ→List NP→Prop) (st:σ→List NP→σ × Bool):Fo→List NP→Nat→σ→Prop
 | .nil,_,_,_=>True
 | .cons k sp n t al kids rest,ch,j,s=>ok s ((⟨k,sp,n,t,al⟩,j,kids)::ch)∧((st s ((⟨k,sp,n,t,al⟩,j,kids)::ch)).2=true →
  travP2 ok st kids ((⟨k,sp,n,t,al⟩,j,kids)::ch) 0 (st s ((⟨k,sp,n,t,al⟩,j,kids)::ch)).1 ∧
  ((trav2 st kids ((⟨k,sp,n,t,al⟩,j,kids)::ch) 0 (st s ((⟨k,sp,n,t,al⟩,j,kids)::ch)).1).2=true→travP2 ok st rest ch (j+1) (trav2 st kids ((⟨k,sp,n,t,al⟩,j,kids)::ch) 0 (st s ((⟨k,sp,n,t,al⟩,j,kids)::ch)).1).1))
def bare {σ α:Type} (f:σ→List Nd→α):σ→List NP→α:=fun s ch=>f s (ch.map Prod.fst)
theorem trav2_bare {σ:Type} (st:σ→List Nd→σ × Bool):∀(F:Fo) (ch:List NP) (j:Nat) (s:σ),trav2 (bare st) F ch j s=trav st F (ch.map Prod.fst) s
 | .nil,_,_,_=>rfl
 | .cons k sp n t al kids rest,ch,j,s=>by
  simp only[trav2,trav,trav2_bare st kids,trav2_bare st rest,List.map_cons]
  rfl
theorem travP2_bare {σ:Type} (ok:σ→List Nd→Prop) (st:σ→List Nd→σ × Bool):∀(F:Fo) (ch:List NP) (j:Nat) (s:σ),travP2 (bare ok) (bare st) F ch j s↔travP ok st F (ch.map Prod.fst) s
 | .nil,_,_,_=>Iff.rfl
 | .cons k sp n t al kids rest,ch,j,s=>by
  simp only[travP2,travP,trav2_bare,travP2_bare ok st kids,travP2_bare ok st rest,List.map_cons]
  exact Iff.rfl
theorem travP_always {σ:Type} (st:σ→List Nd→σ × Bool):∀(F:Fo) (ch:List Nd) (s:σ),travP always st F ch s
 | .nil,_,_=>trivial
 | .cons _ _ _ _ _ kids rest,_,_=>⟨trivial,fun _=>⟨travP_always st kids _ _,fun _=>travP_always st rest _ _⟩⟩
def nextI (c:Int):Int:=IntKind.i64.wrap (c+1)
theorem nextI_nat {c:Nat} (h:c≤1048576):nextI (c:Int)=((c+1:Nat):Int):=by
 unfold nextI;exact IntWalk.i64_in _ (by omega)
def OkAt (c:Int):List Nd→Prop
 | []=>True
 | x::ch=>nextI c≤60∧ch.length+1≤10∧NodeIs x∧MayHold ch x.k
open Classical in
noncomputable def okB (c:Int) (ch:List Nd):Bool:=decide (OkAt c ch)
noncomputable def stOK (c:Int) (ch:List Nd):Int × Bool:=(nextI c,okB c ch)
theorem trav_ok:∀(F:Fo) (ch:List Nd) (c:Nat),c≤60→ch.length≤10 →
 ((trav stOK F ch (c:Int)).2=true↔c+F.nodes≤60∧ch.length+F.deep≤10∧Fine ch F)∧((trav stOK F ch (c:Int)).2=true→(trav stOK F ch (c:Int)).1=((c+F.nodes:Nat):Int))
 | .nil,ch,c,hc,hch=>by simp[trav,Fo.nodes,Fo.deep,Fine,hc,hch]
 | .cons k sp n t al kids rest,ch,c,hc,hch=>by
  rw[trav]
  have hn:=nextI_nat (c:=c) (by omega)
  by_cases h1:OkAt c (⟨k,sp,n,t,al⟩::ch)
  ·have e1:(stOK c (⟨k,sp,n,t,al⟩::ch)).2=true:=by simp[stOK,okB,h1]
   have e2:(stOK c (⟨k,sp,n,t,al⟩::ch)).1=((c+1:Nat):Int):=hn
   rw[if_pos e1,e2]
   obtain ⟨a1,a2,a3,a4⟩:=h1
   rw[hn]at a1
   obtain ⟨i1,i2⟩:=trav_ok kids (⟨k,sp,n,t,al⟩::ch) (c+1) (by omega) (by simp;omega)
   by_cases h2:(trav stOK kids (⟨k,sp,n,t,al⟩::ch) ((c+1:Nat):Int)).2=true
   ·rw[if_pos h2,i2 h2]
    obtain ⟨b1,b2,b3⟩:=i1.1 h2
    simp at b2
    obtain ⟨j1,j2⟩:=trav_ok rest ch (c+1+kids.nodes) (by omega) hch
    refine ⟨?_,fun h=>by rw[j2 h];simp[Fo.nodes];omega⟩
    rw[j1]
    simp only[Fo.nodes,Fo.deep,Fine]
    constructor
    ·rintro ⟨x1,x2,x3⟩;exact ⟨by omega,by omega,a3,a4,b3,x3⟩
    ·rintro ⟨x1,x2,_,_,_,x3⟩;exact ⟨by omega,by omega,x3⟩
   ·rw[if_neg h2]
    refine ⟨⟨fun h=>by simp at h,fun h=>?_⟩,fun h=>by simp at h⟩
    exfalso
    apply h2
    rw[i1]
    simp only[Fo.nodes,Fo.deep,Fine]at h
    obtain ⟨x1,x2,_,_,x3,_⟩:=h
    exact ⟨by omega,by simp;omega,x3⟩
  ·have e1:¬(stOK c (⟨k,sp,n,t,al⟩::ch)).2=true:=by simp[stOK,okB,h1]
   rw[if_neg e1]
   refine ⟨⟨fun h=>by simp at h,fun h=>?_⟩,fun h=>by simp at h⟩
   exfalso
   apply h1
   simp only[Fo.nodes,Fo.deep,Fine]at h
   obtain ⟨x1,x2,x3,x4,_,_⟩:=h
   exact ⟨by rw[hn];omega,by omega,x3,x4⟩
theorem trav_good (F:Fo):(trav stOK F [] 0).2=goodB F:=by
 obtain ⟨h,_⟩:=trav_ok F [] 0 (by omega) (by simp)
 rw[Bool.eq_iff_iff]
 refine Iff.trans h ?_
 exact ⟨fun g=>goodB_true ⟨by omega,by simpa using g.2.1,g.2.2⟩,fun g=>(fun ⟨a,b,c⟩=>⟨by omega,by simpa using b,c⟩) (show Good F by simpa[goodB]using g)⟩
theorem Fo.nodes_le:∀F:Fo,F.nodes≤F.len+F.size
 | .nil=>Nat.le_refl _
 | .cons _ _ _ _ _ kids rest=>by have:=Fo.nodes_le kids;have:=Fo.nodes_le rest;simp[Fo.len,Fo.nodes,Fo.size];omega
def Fo.texts:Fo→Prop
 | .nil=>True
 | .cons k _ _ _ _ _ rest=>k=2∧rest.texts
def KidsIs (x:Nd) (kids:Fo):Prop:=(x.k≠1→kids.len=0)∧(x.k=1→x.sp=0→(inL voidL x.n=true→kids.len=0)∧(inL voidL x.n=false→inL rawL x.n=true→kids.texts))
def SFine:Fo→Prop
 | .nil=>True
 | .cons k sp n t al kids rest=>NodeIs ⟨k,sp,n,t,al⟩∧KidsIs ⟨k,sp,n,t,al⟩ kids∧SFine kids∧SFine rest
def AllMay (ch:List Nd):Fo→Prop
 | .nil=>True
 | .cons k _ _ _ _ _ rest=>MayHold ch k∧AllMay ch rest
theorem raw_not_void {s:ByteArray} (h:inL rawL s=true):inL voidL s=false:=by
 rw[inL,List.any_eq_true]at h
 obtain ⟨l,hl,he⟩:=h
 rw[beq_iff_eq]at he
 rw[inL,←he]
 simp[rawL]at hl
 rcases hl with rfl | rfl | rfl | rfl <;> decide
theorem raw_empty {s:ByteArray} (h:s.size=0):inL rawL s=false:=by
 have:s.toList=[]:=is_nil (by omega)
 rw[inL,this];decide
theorem all_texts (ch:List Nd) (x:Nd) (h:RawN x):∀F:Fo,AllMay (x::ch) F↔F.texts
 | .nil=>by simp[AllMay,Fo.texts]
 | .cons k sp n t al kids rest=>by
  simp only[AllMay,Fo.texts,all_texts ch x h rest,MayHold]
  exact ⟨fun ⟨⟨a,_⟩,b⟩=>⟨a h,b⟩,fun ⟨a,b⟩=>⟨⟨fun _=>a,fun n=>absurd h n⟩,b⟩⟩
theorem all_free (ch:List Nd) (x:Nd) (h:¬RawN x) (h1:x.k=1) (h2:¬VoidN x):∀F:Fo,AllMay (x::ch) F
 | .nil=>trivial
 | .cons _ _ _ _ _ _ rest=>⟨⟨fun r=>absurd r h,fun _=>⟨h1,h2⟩⟩,all_free ch x h h1 h2 rest⟩
theorem all_none (ch:List Nd) (x:Nd) (h:¬RawN x) (h1:¬(x.k=1∧¬VoidN x)):∀F:Fo,AllMay (x::ch) F↔F.len=0
 | .nil=>by simp[AllMay,Fo.len]
 | .cons k sp n t al kids rest=>by
  simp only[AllMay,Fo.len,MayHold]
  exact ⟨fun ⟨⟨_,a⟩,_⟩=>absurd (a h) h1,fun e=>by omega⟩
theorem all_kids (ch:List Nd) (x:Nd) (hx:NodeIs x) (F:Fo):AllMay (x::ch) F↔KidsIs x F:=by
 by_cases hr:RawN x
 ·rw[all_texts ch x hr]
  obtain ⟨r1,r2⟩:=hr
  have hk:x.k=1:=by
   rcases hx with ⟨h,_⟩ | ⟨_,_,h⟩ | ⟨_,h⟩
   ·exact h
   ·have:=raw_empty h.2.2.1;simp[this]at r2
   ·have:=raw_empty h.2.2.1;simp[this]at r2
  have hv:=raw_not_void r2
  exact ⟨fun h=>⟨fun n=>absurd hk n,fun _ _=>⟨fun v=>by simp[hv]at v,fun _ _=>h⟩⟩,fun h=>(h.2 hk r1).2 hv r2⟩
 ·by_cases he:x.k=1∧¬VoidN x
  ·obtain ⟨h1,h2⟩:=he
   refine ⟨fun _=>⟨fun n=>absurd h1 n,fun _ s=>⟨fun v=>absurd ⟨s,v⟩ h2,fun _ r=>absurd ⟨s,r⟩ hr⟩⟩,fun _=>all_free ch x hr h1 h2 F⟩
  ·rw[all_none ch x hr he]
   constructor
   ·intro h
    refine ⟨fun _=>h,fun _ s=>⟨fun _=>h,fun _ r=>absurd ⟨s,r⟩ hr⟩⟩
   ·rintro ⟨h1,h2⟩
    by_cases hk:x.k=1
    ·have hv:VoidN x:=Classical.byContradiction fun n=>he ⟨hk,n⟩
     exact (h2 hk hv.1).1 hv.2
    ·exact h1 hk
theorem fine_iff:∀(F:Fo) (ch:List Nd),Fine ch F↔AllMay ch F∧SFine F
 | .nil,_=>by simp[Fine,AllMay,SFine]
 | .cons k sp n t al kids rest,ch=>by
  simp only[Fine,AllMay,SFine,fine_iff kids,fine_iff rest]
  constructor
  ·rintro ⟨a,b,⟨c,d⟩,e,f⟩;exact ⟨⟨b,e⟩,a,(all_kids ch _ a kids).1 c,d,f⟩
  ·rintro ⟨⟨b,e⟩,a,c,d,f⟩;exact ⟨a,b,⟨(all_kids ch _ a kids).2 c,d⟩,e,f⟩
theorem all_top:∀F:Fo,AllMay [] F
 | .nil=>trivial
 | .cons _ _ _ _ _ _ rest=>⟨trivial,all_top rest⟩
theorem fine_top (F:Fo):Fine [] F↔SFine F:=by rw[fine_iff];exact ⟨fun h=>h.2,fun h=>⟨all_top F,h⟩⟩
def GoodAt (d:Nat) (F:Fo):Prop:=F.nodes≤60∧F.deep≤d∧SFine F
theorem good_at (F:Fo):Good F↔GoodAt 10 F:=by simp[Good,GoodAt,fine_top]
end Go.Proofs.YthdkkpbhijlpaaaGreatDoor
namespace Go.Proofs.YthdkkpbhijlpaaaGreatDoor
open Go.ChangeShapes Go.WideShapes Go.ChangeAt Go.RowKit Go.Deep
structure But (C:Nat→Prop) (w w':World):Prop where
 os:w'.os=w.os
 tape:w'.tape=w.tape
 output:w'.output=w.output
 size:w.heap.size≤w'.heap.size
 block:∀k,k<w.heap.size→¬C k→w'.heap[k]?=w.heap[k]?
theorem But.refl (C:Nat→Prop) (w:World):But C w w:=⟨rfl,rfl,rfl,Nat.le_refl _,fun _ _ _=>rfl⟩
theorem But.trans {C D:Nat→Prop} {a b c:World} (h:But C a b) (k:But D b c) (hD:∀i,D i→C i∨a.heap.size≤i):But C a c:=
 ⟨k.os.trans h.os,k.tape.trans h.tape,k.output.trans h.output,Nat.le_trans h.size k.size,fun i hi hC=>
  (k.block i (Nat.lt_of_lt_of_le hi h.size) fun d=>(hD i d).elim hC fun x=>absurd hi (Nat.not_lt.2 x)).trans (h.block i hi hC)⟩
theorem But.mono {C D:Nat→Prop} {w w':World} (h:But C w w') (hs:∀k,C k→D k):But D w w':=⟨h.os,h.tape,h.output,h.size,fun k hk hd=>h.block k hk fun c=>hd (hs k c)⟩
theorem But.of_below {C:Nat→Prop} {w w':World} (h:Below w.heap.size w w'):But C w w':=⟨h.os,h.tape,h.output,h.size,fun k hk _=>h.block k hk⟩
theorem But.below {C:Nat→Prop} {w w':World} {B:Nat} (h:But C w w') (hC:∀k,C k→B≤k) (hB:B≤w.heap.size):Below B w w':=
 ⟨h.os,h.tape,h.output,h.size,fun k hk=>h.block k (Nat.lt_of_lt_of_le hk hB) fun c=>absurd hk (Nat.not_lt.2 (hC k c))⟩
theorem But.drew {C:Nat→Prop} {a w:World} (h:But C a w):But C a w.drew:=⟨h.os,h.tape,h.output,h.size,h.block⟩
theorem But.cell {C:Nat→Prop} {w w':World} (h:But C w w') {p:Addr} (hp:p.block<w.heap.size) (hC:¬C p.block):w'.cell? p=w.cell? p:=World.cell?_of_block (w:=w) (h.block p.block hp hC)
theorem But.frozen {C:Nat→Prop} {w w':World} (h:But C w w') {p:Addr} (hp:p.block<w.heap.size) (hC:¬C p.block):w'.frozen? p=w.frozen? p:=World.frozen?_of_block (w:=w) (h.block p.block hp hC)
theorem But.setCell {C:Nat→Prop} {a w:World} (h:But C a w) {p:Addr} (hp:C p.block∨a.heap.size≤p.block) (u:Value):But C a (w.setCell p u):=
 ⟨h.os,h.tape,h.output,by rw[World.size_setCell];exact h.size,fun k hk hC=>(Below.heap_setCell w p u k (by rintro rfl;rcases hp with c | c;exact hC c;omega)).trans (h.block k hk hC)⟩
theorem But.alloc {C:Nat→Prop} {a w:World} (h:But C a w) (o:Obj):But C a (w.alloc o):=
 ⟨h.os,h.tape,h.output,by have:=h.size;simp;omega,fun k hk hC=>(Below.heap_alloc w o k (Nat.lt_of_lt_of_le hk h.size)).trans (h.block k hk hC)⟩
def No (_:Nat):Prop:=False
theorem But.no {w w':World} (h:Below w.heap.size w w'):But No w w':=But.of_below h
structure Kin (w w':World):Prop where
 but:But No w w'
 new:∀k c fz,w.heap.size≤k→w'.heap[k]?=some (.cells c 5 fz)→False
theorem Kin.refl (w:World):Kin w w:=⟨But.refl _ _,fun k c fz hk h=>by rw[Array.getElem?_eq_none hk]at h;cases h⟩
theorem Kin.drew {a w:World} (h:Kin a w):Kin a w.drew:=⟨h.but.drew,h.new⟩
theorem Kin.alloc {a w:World} (h:Kin a w) (cs:Array Value) (t:TypeId) (ht:t≠5):Kin a (w.alloc (.cells cs t)):=⟨h.but.alloc _,fun k c fz hk hc=>by
 rw[show (w.alloc (.cells cs t)).heap=w.heap.push (.cells cs t) from rfl,Array.getElem?_push]at hc
 split at hc
 ·injection hc with hc;injection hc with _ hc _;exact ht hc
 ·exact h.new k c fz hk hc⟩
theorem FoAt.but {C:Nat→Prop} {w w':World} {lo hi:Nat} {A:Option Addr} {F:Fo} {b o:Nat} (hA:RowAt lo hi A F.len b o) (h:FoAt w lo hi b o F) (hB:But C w w') (hh:hi≤w.heap.size) (hC:∀k,C k→hi≤k):FoAt w' lo hi b o F:=
 h.carry (Nat.le_refl _) (Nat.le_refl _) (fun b o _ h2=>hB.cell (p:=⟨b,o,none⟩) (by show b<_;omega) (fun c=>by have:=hC _ c;simp at this;omega))
  (fun j hj=>hB.cell (p:=⟨b,o+j,none⟩) (by have:=(hA.2 (by omega)).2.2;show b<_;omega) (fun c=>by have:=hC _ c;have:=(hA.2 (by omega)).2.2;simp at *;omega))
def NdAt (w:World) (lo hi b o:Nat) (x:Nd):Prop:=
 (w.cell? ⟨b,o,none⟩=some (.int .i64 x.k)∧w.cell? ⟨b,o+1,none⟩=some (.int .i64 x.sp)∧w.cell? ⟨b,o+2,none⟩=some (.string x.n)∧w.cell? ⟨b,o+3,none⟩=some (.string x.t)∧x.n.size≤maxLen∧x.t.size≤maxLen) ∧
  (∃A c b' o',w.cell? ⟨b,o+4,none⟩=some (.slice A x.al.length c)∧RowC lo hi A x.al.length c b' o'∧AsAt w b' o' x.al)
theorem AsAt.but {C:Nat→Prop} {w w':World} {lo hi b o:Nat} {A:Option Addr} {al:List (ByteArray × ByteArray)} (hA:RowAt lo hi A al.length b o) (h:AsAt w b o al) (hB:But C w w') (hh:hi≤w.heap.size) (hC:∀k,C k→hi≤k):AsAt w' b o al:=by
 cases al with
 | nil=>trivial
 | cons x r=>exact h.carry fun o=>hB.cell (p:=⟨b,o,none⟩) (by have:=(hA.2 (by simp)).2.2;show b<_;omega) (fun c=>by have:=hC _ c;have:=(hA.2 (by simp)).2.2;simp at *;omega)
theorem NdAt.but {C:Nat→Prop} {w w':World} {lo hi b o:Nat} {x:Nd} (h:NdAt w lo hi b o x) (hb:b<hi) (hB:But C w w') (hh:hi≤w.heap.size) (hC:∀k,C k→hi≤k):NdAt w' lo hi b o x:=by
 obtain ⟨⟨h0,h1,h2,h3,h4,h5⟩,A,c,b',o',h6,h7,h8⟩:=h
 have e:∀j,w'.cell? ⟨b,j,none⟩=w.cell? ⟨b,j,none⟩:=fun j=>hB.cell (p:=⟨b,j,none⟩) (by show b<_;omega) (fun c=>by have:=hC _ c;simp at this;omega)
 exact ⟨⟨(e _).trans h0,(e _).trans h1,(e _).trans h2,(e _).trans h3,h4,h5⟩,A,c,b',o',(e _).trans h6,h7,h8.but h7.2 hB hh hC⟩
def SpotAt (w:World) (C:Nat→Prop) (lo hi:Nat):Option Addr→List Nd→Prop
 | p,[]=>p=none
 | p,x::r=>∃g b o q,p=some ⟨g,0,none⟩∧hi≤g∧g<w.heap.size∧¬C g∧w.cell? ⟨g,0,none⟩=some (.pointer (some ⟨b,o,none⟩))∧w.cell? ⟨g,2,none⟩=some (.pointer q)∧b<hi∧NdAt w lo hi b o x∧SpotAt w C lo hi q r
theorem SpotAt.but {C D:Nat→Prop} {w w':World} {lo hi:Nat} (hB:But C w w') (hh:hi≤w.heap.size) (hC:∀k,C k→hi≤k) (hD:∀k,D k→C k∨w.heap.size≤k):∀{ch:List Nd} {p:Option Addr},SpotAt w C lo hi p ch→SpotAt w' D lo hi p ch
 | [],_,h=>h
 | x::r,_,⟨g,b,o,q,h1,h2,h3,h4,h5,h6,h7,h8,h9⟩=>
  ⟨g,b,o,q,h1,h2,Nat.lt_of_lt_of_le h3 hB.size,fun d=>(hD g d).elim h4 fun x=>by omega,(hB.cell (p:=⟨g,0,none⟩) h3 h4).trans h5,(hB.cell (p:=⟨g,2,none⟩) h3 h4).trans h6,h7,h8.but h7 hB hh hC,SpotAt.but hB hh hC hD h9⟩
def Seen {σ:Type} (st:σ→List Nd→σ × Bool) (Inv:σ→(Nat→Prop)→World→Prop) (s:σ) (C:Nat→Prop) (ch:List Nd) (w:World) (e:Ending) (w':World):Prop:=
 ∃D:Nat→Prop,e=.returned (.bool (st s ch).2)∧Inv (st s ch).1 D w'∧But C w w'∧∀k,D k→C k∨w.heap.size≤k
structure Vis (P:Program) (g:Nat) (cap:Array Value) (lo hi:Nat) {σ:Type} (ok:σ→List Nd→Prop) (st:σ→List Nd→σ × Bool) (Inv:σ→(Nat→Prop)→World→Prop):Prop where
 own:∀s C w,Inv s C w→∀k,C k→hi≤k∧k<w.heap.size
 keep:∀s C w w',Inv s C w→Kin w w'→Inv s C w'
 call:∀s C w q ch,ch≠[]→ch.length≤1048576→ok s ch→Inv s C w→SpotAt w C lo hi q ch→hi≤w.heap.size→Calls P g (#[.pointer q]++cap) w (Seen st Inv s C ch w)
def Gone {σ:Type} (st:σ→List Nd→σ × Bool) (Inv:σ→(Nat→Prop)→World→Prop) (s:σ) (C:Nat→Prop) (ch:List Nd) (F:Fo) (w:World) (e:Ending) (w':World):Prop:=
 ∃D:Nat→Prop,e=.returned (.bool (trav st F ch s).2)∧Inv (trav st F ch s).1 D w'∧But C w w'∧∀k,D k→C k∨w.heap.size≤k
def KidsAt (w:World) (lo hi b o:Nat) (kids:Fo):Prop:=∃A c b' o',w.cell? ⟨b,o+5,none⟩=some (.slice A kids.len c)∧RowC lo hi A kids.len c b' o'∧FoAt w lo hi b' o' kids
theorem KidsAt.but {C:Nat→Prop} {w w':World} {lo hi b o:Nat} {kids:Fo} (h:KidsAt w lo hi b o kids) (hb:b<hi) (hB:But C w w') (hh:hi≤w.heap.size) (hC:∀k,C k→hi≤k):KidsAt w' lo hi b o kids:=by
 obtain ⟨A,c,b',o',h1,h2,h3⟩:=h
 exact ⟨A,c,b',o',(hB.cell (p:=⟨b,o+5,none⟩) (by show b<_;omega) (fun c=>by have:=hC _ c;simp at this;omega)).trans h1,h2,h3.but h2.2 hB hh hC⟩
def SpotP (w:World) (C:Nat→Prop) (lo hi:Nat):Option Addr→List NP→Prop
 | p,[]=>p=none
 | p,x::r=>∃g b o q,p=some ⟨g,0,none⟩∧hi≤g∧g<w.heap.size∧¬C g∧w.cell? ⟨g,0,none⟩=some (.pointer (some ⟨b,o,none⟩))∧w.cell? ⟨g,2,none⟩=some (.pointer q)∧b<hi∧NdAt w lo hi b o x.1∧w.cell? ⟨g,1,none⟩=some (.int .i64 (x.2.1:Int))∧KidsAt w lo hi b o x.2.2∧SpotP w C lo hi q r
theorem SpotP.but {C D:Nat→Prop} {w w':World} {lo hi:Nat} (hB:But C w w') (hh:hi≤w.heap.size) (hC:∀k,C k→hi≤k) (hD:∀k,D k→C k∨w.heap.size≤k):∀{ch:List NP} {p:Option Addr},SpotP w C lo hi p ch→SpotP w' D lo hi p ch
 | [],_,h=>h
 | x::r,_,⟨g,b,o,q,h1,h2,h3,h4,h5,h6,h7,h8,h8',hk,h9⟩=>
  ⟨g,b,o,q,h1,h2,Nat.lt_of_lt_of_le h3 hB.size,fun d=>(hD g d).elim h4 fun x=>by omega,(hB.cell (p:=⟨g,0,none⟩) h3 h4).trans h5,(hB.cell (p:=⟨g,2,none⟩) h3 h4).trans h6,h7,h8.but h7 hB hh hC,(hB.cell (p:=⟨g,1,none⟩) h3 h4).trans h8',hk.but h7 hB hh hC,SpotP.but hB hh hC hD h9⟩
theorem SpotP.bare {C:Nat→Prop} {w:World} {lo hi:Nat}:∀{ch:List NP} {p:Option Addr},SpotP w C lo hi p ch→SpotAt w C lo hi p (ch.map Prod.fst)
 | [],_,h=>h
 | _::_,_,⟨g,b,o,q,h1,h2,h3,h4,h5,h6,h7,h8,_,_,h9⟩=>⟨g,b,o,q,h1,h2,h3,h4,h5,h6,h7,h8,SpotP.bare h9⟩
def Seen2 {σ:Type} (st:σ→List NP→σ × Bool) (Inv:σ→(Nat→Prop)→World→Prop) (s:σ) (C:Nat→Prop) (ch:List NP) (w:World) (e:Ending) (w':World):Prop:=
 ∃D:Nat→Prop,e=.returned (.bool (st s ch).2)∧Inv (st s ch).1 D w'∧But C w w'∧∀k,D k→C k∨w.heap.size≤k
structure Vis2 (P:Program) (g:Nat) (cap:Array Value) (lo hi:Nat) {σ:Type} (ok:σ→List NP→Prop) (st:σ→List NP→σ × Bool) (Inv:σ→(Nat→Prop)→World→Prop):Prop where
 own:∀s C w,Inv s C w→∀k,C k→hi≤k∧k<w.heap.size
 keep:∀s C w w',Inv s C w→Kin w w'→Inv s C w'
 call:∀s C w q ch,ch≠[]→ch.length≤1048576→ok s ch→Inv s C w→SpotP w C lo hi q ch→hi≤w.heap.size→Calls P g (#[.pointer q]++cap) w (Seen2 st Inv s C ch w)
def Gone2 {σ:Type} (st:σ→List NP→σ × Bool) (Inv:σ→(Nat→Prop)→World→Prop) (s:σ) (C:Nat→Prop) (ch:List NP) (F:Fo) (j:Nat) (w:World) (e:Ending) (w':World):Prop:=
 ∃D:Nat→Prop,e=.returned (.bool (trav2 st F ch j s).2)∧Inv (trav2 st F ch j s).1 D w'∧But C w w'∧∀k,D k→C k∨w.heap.size≤k
theorem Vis.two {P:Program} {g:Nat} {cap:Array Value} {lo hi:Nat} {σ:Type} {ok:σ→List Nd→Prop} {st:σ→List Nd→σ × Bool} {Inv:σ→(Nat→Prop)→World→Prop} (V:Vis P g cap lo hi ok st Inv):Vis2 P g cap lo hi (Go.Proofs.YthdkkpbhijlpaaaGreatDoor.bare ok) (Go.Proofs.YthdkkpbhijlpaaaGreatDoor.bare st) Inv where
 own:=V.own
 keep:=V.keep
 call:=fun s C w q ch hne hl ho hI hS hh=>V.call s C w q (ch.map Prod.fst) (by simpa using hne) (by simpa using hl) ho hI hS.bare hh
end Go.Proofs.YthdkkpbhijlpaaaGreatDoor
