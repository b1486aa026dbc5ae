import Derived.Test.YthdkkpbhijlpaaaGreatDoorQ36
import Derived.Test.YthdkkpbhijlpaaaGreatDoorQ34
import Derived.Test.YthdkkpbhijlpaaaGreatDoorQ35
set_option linter.unusedVariables false
namespace Go.Proofs.YthdkkpbhijlpaaaGreatDoor
open Go.ChangeShapes Go.WideShapes Go.ChangeAt Go.RowKit Go.Deep
def Fo.ks:Fo→Prop
 | .nil=>True
 | .cons k _ _ _ _ kids rest=>(k=1∨k=2∨k=3)∧kids.ks∧rest.ks
theorem Fo.ks_of:∀(F:Fo),SFine F→F.ks
 | .nil,_=>trivial
 | .cons k sp n t al kids rest,⟨h1,_,h3,h4⟩=>by
  refine ⟨?_,Fo.ks_of kids h3,Fo.ks_of rest h4⟩
  rcases h1 with ⟨h,_⟩ | ⟨h,_⟩ | ⟨h,_⟩
  ·exact Or.inl h
  ·exact Or.inr (Or.inl h)
  ·exact Or.inr (Or.inr h)
def elemText (sp:Int) (n:ByteArray) (al:List (ByteArray × ByteArray)) (kids:Fo):List UInt8:=tagText n al++(if hasEnd sp n=true then kids.ser (asIs sp n)++endText n else [])
def WriteOK (F:Fo):Prop:=∀(content:Int) (bb:Nat) (l:List UInt8) (w:World) (A:Option Addr) (c b o lo hi:Nat),F.nodes≤1048576→F.sm→F.ks→l.length+8*(F.len+F.size)≤1048576*1024→BldF bb bb (Lib.byteCells l) w→hi≤bb→bb<w.heap.size→RowAt lo hi A F.len b o→FoAt w lo hi b o F →
 Calls Tryz.prog 61 #[.pointer (some ⟨bb,0,none⟩),.slice A F.len c,.int .i64 content] w (Wrote bb (l++F.ser (content==1)) w)
set_option maxHeartbeats 2000000 in
theorem writeElement_any (k sp:Int) (n t:ByteArray) (al:List (ByteArray × ByteArray)) (kids:Fo) (ih:WriteOK kids) (bb:Nat) (l:List UInt8) (b o lo hi:Nat) (w:World) (A K:Option Addr) (c kc ao ab kb ko:Nat)
 (hs:w.cell? ⟨b,o,none⟩=some (.int .i64 k)∧w.cell? ⟨b,o+1,none⟩=some (.int .i64 sp)∧w.cell? ⟨b,o+2,none⟩=some (.string n)∧w.cell? ⟨b,o+3,none⟩=some (.string t)∧n.size≤maxLen∧t.size≤maxLen)
 (c4:w.cell? ⟨b,o+4,none⟩=some (.slice A al.length c)) (hR:RowC lo hi A al.length c ab ao) (ha:AsAt w ab ao al)
 (c5:w.cell? ⟨b,o+5,none⟩=some (.slice K kids.len kc)) (hK:RowAt lo hi K kids.len kb ko) (hk:FoAt w lo hi kb ko kids)
 (hnd:kids.nodes≤1048576) (hsm:kids.sm) (hks:kids.ks) (hal:AlSm al) (hz:l.length+8*(1+n.size+(al.length+asSize al)+(kids.len+kids.size))≤1048576*1024)
 (hI:BldF bb bb (Lib.byteCells l) w) (hb:b<bb) (hh:hi≤bb) (hbw:bb<w.heap.size):
 Calls Tryz.prog 115 #[.pointer (some ⟨bb,0,none⟩),.agg #[.pointer (some ⟨b,o,none⟩)]] w (Wrote bb (l++elemText sp n al kids) w):=by
 have HX:Hid (NdAt w lo hi b o ⟨k,sp,n,t,al⟩):=Lib.hid ⟨hs,A,c,ab,ao,c4,hR,ha⟩
 have HK:=Lib.hid hK
 have HF:=Lib.hid hk
 have HI:=Lib.hid hI
 have IH:=Lib.hid ih
 have HS:=Lib.hid (And.intro hsm (And.intro hks hal))
 have c2:=hs.2.2.1
 have hbs:b<w.heap.size:=by omega
 have hnl:=baLen n
 have htl:=tagText_len n al
 have hsl:=ser_len (asIs sp n) kids
 have HLN:=Lib.hid (And.intro hnl (And.intro htl hsl))
 clear hK hk hI ih hsm hks hs c4 ha hR hnl htl hsl hal
 have W1:Hid (∀W,BldF bb bb (Lib.byteCells l) W→bb<W.heap.size→Below bb w W→Calls Tryz.prog 182 #[.pointer (some ⟨bb,0,none⟩),.agg #[.pointer (some ⟨b,o,none⟩)]] W (Wrote bb (l++tagText n al) W)):=Lib.hid fun W h1 h2 h3=>
  writeStartTag_any ⟨k,sp,n,t,al⟩ bb l b o lo hi W h1 (HX.out.belowB hb h3 hh) hb hh h2 HS.out.2.2 (by simp only;omega)
 have W2:Hid (∀W,Below bb w W→Calls Tryz.prog 109 #[.pointer (some ⟨b,o,none⟩)] W fun e w'=>e=.returned (.int .i64 (contI ⟨k,sp,n,t,al⟩))∧W=w'):=Lib.hid fun W h3=>contentOf_any ⟨k,sp,n,t,al⟩ b o lo hi W (HX.out.belowB hb h3 hh)
 cases hv:voidB ⟨k,sp,n,t,al⟩ with
 | true=>
  have HC:=Lib.hid (show contI ⟨k,sp,n,t,al⟩=2 by simp[contI,hv])
  have HE:=Lib.hid (show elemText sp n al kids=tagText n al by
   have:hasEnd sp n=false:=by simpa[voidB,hasEnd]using hv
   simp[elemText,this])
  clear hv c5
  go_enter Tryz.func115,Tryz.ntmps115
  go_wp2_with (first
   | (go_at_call 182;refine (W1.out (w.alloc (.cells #[.pointer (some ⟨b,o,none⟩)] 159)) (Lib.IsBuilderF.alloc HI.out _) (by simp;omega) ((Below.refl bb w).alloc (by omega) _)).mono ?_;rintro e w1 ⟨rfl,hI1,hB1,hK1⟩;have hbx:w1.heap[w.heap.size]?=some (.cells #[.pointer (some ⟨b,o,none⟩)] 159 (0,0)):=kept_lay hK1 (heap_new w _ _) (by omega) (by decide);have I1:Hid (BldF bb bb (Lib.byteCells (l++tagText n al)) w1∧Below bb w w1∧Kept bb w w1):=Lib.hid ⟨hI1,((Below.refl bb w).alloc (by omega) _).trans hB1,((Lib.OthersKept.refl _ _ w).alloc _).trans hK1⟩;clear hI1 hB1 hK1;have p0:w1.cell? ⟨w.heap.size,0,none⟩=some (.pointer (some ⟨b,o,none⟩)):=cell_heap hbx;clear hbx)
   | (go_at_call 109;refine (W2.out _ I1.out.2.1).mono ?_;rintro e w' ⟨rfl,rfl⟩;rw[HC.out]))
  go_end0
  exact ⟨rfl,by rw[HE.out];exact I1.out.1,I1.out.2⟩
 | false=>
  have HE:=Lib.hid (show elemText sp n al kids=tagText n al++(kids.ser (asIs sp n)++endText n) by
   have:hasEnd sp n=true:=by
    cases h:hasEnd sp n with
    | true=>rfl
    | false=>simp only[hasEnd,Bool.not_eq_false',Bool.and_eq_true]at h;simp[voidB,h.1,h.2]at hv
   simp[elemText,this])
  have HC:Hid ((contI ⟨k,sp,n,t,al⟩==2)=false∧(contI ⟨k,sp,n,t,al⟩==1)=asIs sp n):=Lib.hid (by
   unfold contI
   rw[hv]
   cases hr:rawB ⟨k,sp,n,t,al⟩ with
   | true=>have:asIs sp n=true:=hr
           rw[this];decide
   | false=>have:asIs sp n=false:=hr
            rw[this];decide)
  clear hv
  generalize contI ⟨k,sp,n,t,al⟩=q at *
  have hq:=HC.out.1
  have hsz:w.heap.size<(w.alloc (.cells #[.pointer (some ⟨b,o,none⟩)] 159)).heap.size:=by simp
  go_enter Tryz.func115,Tryz.ntmps115
  go_wp2_with (first
   | (go_at_call 182;refine (W1.out (w.alloc (.cells #[.pointer (some ⟨b,o,none⟩)] 159)) (Lib.IsBuilderF.alloc HI.out _) (by simp;omega) ((Below.refl bb w).alloc (by omega) _)).mono ?_;rintro e w1 ⟨rfl,hI1,hB1,hK1⟩;have hbx:w1.heap[w.heap.size]?=some (.cells #[.pointer (some ⟨b,o,none⟩)] 159 (0,0)):=kept_lay hK1 (heap_new w _ _) (by omega) (by decide);have I1:Hid (BldF bb bb (Lib.byteCells (l++tagText n al)) w1∧Below bb w w1∧Kept bb w w1):=Lib.hid ⟨hI1,((Below.refl bb w).alloc (by omega) _).trans hB1,((Lib.OthersKept.refl _ _ w).alloc _).trans hK1⟩;have hs1:w.heap.size<w1.heap.size:=Nat.lt_of_lt_of_le hsz hB1.size;clear hI1 hB1 hK1;have p0:w1.cell? ⟨w.heap.size,0,none⟩=some (.pointer (some ⟨b,o,none⟩)):=cell_heap hbx;have p5:=(I1.out.2.1.cell (p:=⟨b,o+5,none⟩) hb).trans c5;have HX1:=Lib.hid hbx;clear hbx)
   | (go_at_call 109;refine (W2.out _ I1.out.2.1).mono ?_;rintro e w' ⟨rfl,rfl⟩)
   | (go_at_call 61;refine (IH.out q bb _ _ K kc kb ko lo hi hnd HS.out.1 HS.out.2.1 (by have:=HLN.out;simp only[List.length_append];omega) I1.out.1 hh (by omega) HK.out (FoAt.below HK.out HF.out I1.out.2.1 hh)).mono ?_;rw[HC.out.2];rintro e w2 ⟨rfl,hI2,hB2,hK2⟩;have hbx2:=kept_lay hK2 HX1.out (by omega) (by decide);have I2:Hid (BldF bb bb (Lib.byteCells ((l++tagText n al)++kids.ser (asIs sp n))) w2∧Below bb w w2∧Kept bb w w2):=Lib.hid ⟨hI2,I1.out.2.1.trans hB2,I1.out.2.2.trans hK2⟩;have hs2:w.heap.size<w2.heap.size:=Nat.lt_of_lt_of_le hs1 hB2.size;clear hI2 hB2 hK2;have q0:w2.cell? ⟨w.heap.size,0,none⟩=some (.pointer (some ⟨b,o,none⟩)):=cell_heap hbx2;have q2:=(I2.out.2.1.cell (p:=⟨b,o+2,none⟩) hb).trans c2;clear hbx2)
   | (go_at_call 116;refine (writeNew_any bb ((l++tagText n al)++kids.ser (asIs sp n)) [⟨#[60,47]⟩,n,⟨#[62]⟩] w2 I2.out.1 (by simp) (by have:=HLN.out;simp[flat];omega) (by omega)).mono ?_;rintro e w3 ⟨rfl,hI3,hB3,hK3⟩;have I3:=Lib.hid (And.intro hI3 (And.intro (I2.out.2.1.trans hB3) (I2.out.2.2.trans hK3)));clear hI3 hB3 hK3))
  go_end0
  refine ⟨rfl,?_,I3.out.2⟩
  have h3:=I3.out.1
  rw[HE.out]
  rw[show l++(tagText n al++(kids.ser (asIs sp n)++endText n))=((l++tagText n al)++kids.ser (asIs sp n))++flat [⟨#[60,47]⟩,n,⟨#[62]⟩] by simp[flat,endText]]
  exact h3
end Go.Proofs.YthdkkpbhijlpaaaGreatDoor
namespace Go.Proofs.YthdkkpbhijlpaaaGreatDoor
open Go.ChangeShapes Go.WideShapes Go.ChangeAt Go.RowKit Go.Deep
theorem as_E (v:Value) (w:World):(Instr.typeAssert (.iface 159 v) 156 159 true).run Tryz.prog w=.ok (.tuple #[v,.bool true]) w:=by kernel_rfl
theorem as_W (v:Value) (w:World):(Instr.typeAssert (.iface 162 v) 156 162 true).run Tryz.prog w=.ok (.tuple #[v,.bool true]) w:=by kernel_rfl
theorem as_R (v:Value) (w:World):(Instr.typeAssert (.iface 164 v) 156 164 true).run Tryz.prog w=.ok (.tuple #[v,.bool true]) w:=by kernel_rfl
theorem as_C (v:Value) (w:World):(Instr.typeAssert (.iface 165 v) 156 165 true).run Tryz.prog w=.ok (.tuple #[v,.bool true]) w:=by kernel_rfl
theorem as_WE (v:Value) (w:World):(Instr.typeAssert (.iface 162 v) 156 159 true).run Tryz.prog w=.ok (.tuple #[.agg #[.pointer none],.bool false]) w:=by kernel_rfl
theorem as_RE (v:Value) (w:World):(Instr.typeAssert (.iface 164 v) 156 159 true).run Tryz.prog w=.ok (.tuple #[.agg #[.pointer none],.bool false]) w:=by kernel_rfl
theorem as_RW (v:Value) (w:World):(Instr.typeAssert (.iface 164 v) 156 162 true).run Tryz.prog w=.ok (.tuple #[.agg #[.string ⟨#[]⟩],.bool false]) w:=by kernel_rfl
theorem as_CE (v:Value) (w:World):(Instr.typeAssert (.iface 165 v) 156 159 true).run Tryz.prog w=.ok (.tuple #[.agg #[.pointer none],.bool false]) w:=by kernel_rfl
theorem as_CW (v:Value) (w:World):(Instr.typeAssert (.iface 165 v) 156 162 true).run Tryz.prog w=.ok (.tuple #[.agg #[.string ⟨#[]⟩],.bool false]) w:=by kernel_rfl
theorem as_CR (v:Value) (w:World):(Instr.typeAssert (.iface 165 v) 156 164 true).run Tryz.prog w=.ok (.tuple #[.agg #[.string ⟨#[]⟩],.bool false]) w:=by kernel_rfl
theorem write1_at (bb:Nat) (l:List UInt8) (p:ByteArray) (w:World) (g:Nat) (hg:g=w.heap.size) (hI:BldF bb bb (Lib.byteCells l) w) (hlen:l.length+p.size≤1048576*1024) (hBw:bb<w.heap.size):
 Calls Tryz.prog 116 #[.pointer (some ⟨bb,0,none⟩),.slice (some ⟨g,0,none⟩) 1 1] (w.alloc (.cells #[.string p] 9)) (Wrote bb (l++flat [p]) w):=by
 subst hg
 exact writeNew_any bb l [p] w hI (by simp) (by have:=baLen p;simp[flat];omega) hBw
theorem write3_at (bb:Nat) (l:List UInt8) (p q r:ByteArray) (w:World) (g:Nat) (hg:g=w.heap.size) (hI:BldF bb bb (Lib.byteCells l) w) (hlen:l.length+p.size+q.size+r.size≤1048576*1024) (hBw:bb<w.heap.size):
 Calls Tryz.prog 116 #[.pointer (some ⟨bb,0,none⟩),.slice (some ⟨g,0,none⟩) 3 3] (w.alloc (.cells #[.string p,.string q,.string r] 9)) (Wrote bb (l++flat [p,q,r]) w):=by
 subst hg
 exact writeNew_any bb l [p,q,r] w hI (by simp) (by have:=baLen p;have:=baLen q;have:=baLen r;simp[flat];omega) hBw
theorem nodeText_elem {raw:Bool} {sp:Int} {n t:ByteArray} {al:List (ByteArray × ByteArray)} {kids:Fo}:nodeText raw 1 sp n t al kids=elemText sp n al kids:=by
 rw[nodeText,if_neg (by decide),if_neg (by decide)];rfl
set_option maxHeartbeats 1000000 in
set_option maxRecDepth 100000 in
theorem writeNodes_lt:∀(N:Nat) (F:Fo),F.nodes<N→WriteOK F:=by
 intro N
 induction N with
 | zero=>intro F hF;omega
 | succ N IH=>
 intro F hF content bb l w A c b o lo hi hnd hsm hks hz hI hh hbw hA hFo
 have hlen:=hA.1
 unfold maxLen at hlen
 have HA:=Lib.hid hA
 have HS:=Lib.hid hFo
 have HF:=Lib.hid hF
 have HII:=Lib.hid hI
 have HI:=Lib.hid IH
 have HM:=Lib.hid (And.intro hsm hks)
 clear hA hFo hF IH hsm hks hI
 go_enter Tryz.func61,Tryz.ntmps61
 go_wp2
 go_loopw [13] (fun i wr=>∃(k:Nat) (m:List UInt8) (suf:Fo),i=.int .i64 (k:Int)∧k+suf.len=F.len∧Hid (FoAt w lo hi b (o+k*6) suf∧(BldF bb bb (Lib.byteCells m) wr∧Below bb w wr∧Kept bb w wr)∧suf.nodes<N+1∧suf.nodes≤1048576∧suf.sm∧suf.ks∧m.length+8*(suf.len+suf.size)≤1048576*1024∧m++suf.ser (content==1)=l++F.ser (content==1))) (fun i wr=>F.len-(intOf i).toNat)
 case atStart=>exact ⟨0,l,F,rfl,by omega,Lib.hid ⟨by simpa using HS.out,⟨HII.out,Below.refl _ _,Lib.OthersKept.refl _ _ _⟩,HF.out,hnd,HM.out.1,HM.out.2,hz,rfl⟩⟩
 case round=>
  obtain ⟨k,m,suf,rfl,hk,HH⟩:=hrel
  cases suf with
  | nil=>
   have hkl:k=F.len:=by simpa[Fo.len]using hk
   clear hk
   subst hkl
   go_wp2
   go_end0
   refine ⟨rfl,?_⟩
   rw[show l++F.ser (content==1)=m by have:=HH.out.2.2.2.2.2.2.2;simpa[Fo.ser]using this.symm]
   exact HH.out.2.1
  | cons xk xs xn xt xa kids r=>
   obtain ⟨⟨⟨s0,s1,s2,s3,z2,z3⟩,⟨A4,c4,b4,o4,s4,r4,a4⟩,⟨A5,c5,b5,o5,s5,r5,a5⟩,sr⟩,⟨hIr,hBr,hKr⟩,hT1,hT2,hT3,hT4,hT5,hT6⟩:=HH.out
   obtain ⟨rfl,hlo,hhi⟩:=HA.out.2 (by simp[Fo.len]at hk;omega)
   have hkl:k<F.len:=by simp[Fo.len]at hk;omega
   have hb:b<bb:=by omega
   have t0:=(hBr.cell (p:=⟨b,_,none⟩) hb).trans s0
   have t1:=(hBr.cell (p:=⟨b,_,none⟩) hb).trans s1
   have t2:=(hBr.cell (p:=⟨b,_,none⟩) hb).trans s2
   have t3:=(hBr.cell (p:=⟨b,_,none⟩) hb).trans s3
   have t4:=(hBr.cell (p:=⟨b,_,none⟩) hb).trans s4
   have t5:=(hBr.cell (p:=⟨b,_,none⟩) hb).trans s5
   have HX:Hid (NdAt wr lo hi b (o+k*6) ⟨xk,xs,xn,xt,xa⟩):=Lib.hid ⟨⟨t0,t1,t2,t3,z2,z3⟩,A4,c4,b4,o4,t4,r4,a4.belowB r4.2 hBr hh⟩
   have HC:=Lib.hid (And.intro (And.intro t0 (And.intro t1 (And.intro t2 (And.intro t3 (And.intro z2 z3))))) (And.intro t4 t5))
   have H4:=Lib.hid (And.intro r4 (a4.belowB r4.2 hBr hh))
   have H5:=Lib.hid (And.intro r5.2 (FoAt.below r5.2 a5 hBr hh))
   have HR:=Lib.hid sr
   have IR:=Lib.hid (And.intro hIr (And.intro hBr hKr))
   rw[ser_cons]at hT6
   have HT6:=Lib.hid hT6
   have hkn:kids.nodes≤1048576∧r.nodes≤1048576∧kids.nodes<N∧r.nodes<N+1:=by simp[Fo.nodes]at hT2 hT1;omega
   have HSM:=Lib.hid (And.intro hT3 hT4)
   have hxk:=hT4.1
   simp only[Fo.len,Fo.size]at hT5
   have hkl1:k+1+r.len=F.len:=by simp[Fo.len]at hk;omega
   have hws:w.heap.size≤wr.heap.size:=hBr.size
   have hbx:=baLen xt
   clear HH s0 s1 s2 s3 s4 s5 sr hIr hBr hKr hT1 hT2 hT3 hT4 hT6 r4 a4 r5 a5 hk z2 z3 t0 t1 t2 t3 t4 t5
   have HK:Hid (∀W,wr=W→Calls Tryz.prog 114 #[.pointer (some ⟨b,o+k*6,none⟩),.int .i64 content] W fun e w'=>e=.returned (kindV xk xt content b (o+k*6))∧W=w'):=Lib.hid fun W e=>by subst e;exact kindOf_any ⟨xk,xs,xn,xt,xa⟩ content b (o+k*6) lo hi wr HX.out
   rcases hxk with rfl | rfl | rfl
   ·have HV:Hid (kindV 1 xt content b (o+k*6)=.iface 159 (.agg #[.pointer (some ⟨b,o+k*6,none⟩)])):=Lib.hid rfl
    have hbw2:b<wr.heap.size:=by omega
    have B0:Hid (Below bb wr (wr.alloc (.cells #[.pointer (some ⟨b,o+k*6,none⟩)] 159))):=Lib.hid ((Below.refl bb wr).alloc (by omega) _)
    have HCW:Hid (∀j,(wr.alloc (.cells #[.pointer (some ⟨b,o+k*6,none⟩)] 159)).cell? ⟨b,j,none⟩=wr.cell? ⟨b,j,none⟩):=Lib.hid fun j=>B0.out.cell (p:=⟨b,j,none⟩) hb
    have A1:=as_E
    go_wp2_with (first
     | (go_at_call 114;refine (HK.out _ rfl).mono ?_;rintro e w' ⟨rfl,rfl⟩;rw[HV.out])
     | (go_at_call 115;refine (writeElement_any 1 xs xn xt xa kids (HI.out kids hkn.2.2.1) bb m b (o+k*6) lo hi (wr.alloc (.cells #[.pointer (some ⟨b,o+k*6,none⟩)] 159)) A4 A5 c4 c5 o4 b4 b5 o5 ⟨(HCW.out _).trans HC.out.1.1,(HCW.out _).trans HC.out.1.2.1,(HCW.out _).trans HC.out.1.2.2.1,(HCW.out _).trans HC.out.1.2.2.2.1,HC.out.1.2.2.2.2⟩ ((HCW.out _).trans HC.out.2.1) H4.out.1 (H4.out.2.belowB H4.out.1.2 B0.out hh) ((HCW.out _).trans HC.out.2.2) H5.out.1 (FoAt.below H5.out.1 H5.out.2 B0.out hh) hkn.1 HSM.out.1.2.2.1 HSM.out.2.2.1 HSM.out.1.2.1 (by omega) (Lib.IsBuilderF.alloc IR.out.1 _) hb hh (by simp;omega)).mono ?_;rintro e w2 ⟨rfl,hI2,hB2,hK2⟩;have I2:=Lib.hid (And.intro hI2 (And.intro (IR.out.2.1.trans (B0.out.trans hB2)) ((IR.out.2.2.trans ((Lib.OthersKept.refl _ _ wr).alloc _)).trans hK2)));clear hI2 hB2 hK2))
    go_roundw
    case rel=>exact ⟨k+1,m++elemText xs xn xa kids,r,by go_num,hkl1,Lib.hid ⟨by rw[show o+(k+1)*6=o+k*6+6 by omega];exact HR.out,I2.out,hkn.2.2.2,hkn.2.1,HSM.out.1.2.2.2,HSM.out.2.2.2,by
     have h1:=tagText_len xn xa
     have h2:=ser_len (asIs xs xn) kids
     have h3:=baLen xn
     have:(elemText xs xn xa kids).length≤8*(1+(xn.size+xt.size+(xa.length+asSize xa)+(kids.len+kids.size))):=by
      unfold elemText
      rw[List.length_append]
      split
      ·simp only[endText,List.length_cons,List.length_append,List.length_nil];omega
      ·simp only[List.length_nil];omega
     rw[List.length_append];omega,by have:=HT6.out;rw[nodeText_elem]at this;simpa using this⟩⟩
    case measure=>simp[intOf];omega
   ·by_cases hc:content=1
    ·subst hc
     have HV:Hid (kindV 2 xt 1 b (o+k*6)=.iface 164 (.agg #[.string xt])):=Lib.hid rfl
     have A1:=as_RE
     have A2:=as_RW
     have A3:=as_R
     go_wp2_with (first
      | (go_at_call 114;refine (HK.out _ rfl).mono ?_;rintro e w' ⟨rfl,rfl⟩;rw[HV.out])
      | (go_at_call 116;refine (write1_at bb m xt ((wr.alloc (.cells #[.string xt] 164))) _ (by simp) (Lib.IsBuilderF.alloc IR.out.1 _) (by first | omega | (show _+4+_+3≤_;omega)) (by simp;omega)).mono ?_;rintro e w2 ⟨rfl,hI2,hB2,hK2⟩;have I2:=Lib.hid (And.intro hI2 (And.intro ((IR.out.2.1.alloc (by omega) _).trans hB2) ((IR.out.2.2.trans ((Lib.OthersKept.refl _ _ wr).alloc _)).trans hK2)));clear hI2 hB2 hK2))
     go_roundw
     case rel=>exact ⟨k+1,m++flat [xt],r,by go_num,hkl1,Lib.hid ⟨by rw[show o+(k+1)*6=o+k*6+6 by omega];exact HR.out,I2.out,hkn.2.2.2,hkn.2.1,HSM.out.1.2.2.2,HSM.out.2.2.2,by simp[flat];omega,by have:=HT6.out;rw[show nodeText ((1:Int)==1) 2 xs xn xt xa kids=flat [xt] by simp[nodeText,wordsText,flat]]at this;rw[List.append_assoc];exact this⟩⟩
     case measure=>simp[intOf];omega
    ·have hc':(content==1)=false:=by simpa using hc
     have HV:Hid (kindV 2 xt content b (o+k*6)=.iface 162 (.agg #[.string xt])):=Lib.hid (by simp[kindV,hc])
     have HC1:=Lib.hid hc'
     have A1:=as_WE
     have A2:=as_W
     have hesc:=escT_le xt
     have HES:=HSM.out.1.1
     have HE:Hid (∀W,Calls Tryz.prog 117 #[.string xt] W fun e w'=>e=.returned (.string ⟨(escL escT xt.data.toList).toArray⟩)∧Below W.heap.size W w'):=Lib.hid fun W=>by have:=implEscapeText_any xt W;rw[escAns_small HES]at this;exact this
     clear hc hc' HES
     go_wp2_with (first
      | (go_at_call 114;refine (HK.out _ rfl).mono ?_;rintro e w' ⟨rfl,rfl⟩;rw[HV.out])
      | (go_at_call 117;refine (HE.out _).mono ?_;rintro e w1 ⟨rfl,hB1⟩;have I1:Hid (BldF bb bb (Lib.byteCells m) w1∧Below bb w w1∧Kept bb w w1):=Lib.hid ⟨BldF.next (Lib.IsBuilderF.alloc IR.out.1 _) hB1,(IR.out.2.1.alloc (by omega) _).trans (hB1.mono (by simp;omega)),(IR.out.2.2.trans ((Lib.OthersKept.refl _ _ wr).alloc _)).trans (kept_of_below hB1)⟩;have hs1:bb<w1.heap.size:=Nat.lt_of_lt_of_le (by simp;omega) hB1.size;clear hB1)
      | (go_at_call 116;refine (write1_at bb m ⟨(escL escT xt.data.toList).toArray⟩ w1 _ rfl I1.out.1 (by rw[sizeL];omega) hs1).mono ?_;rintro e w2 ⟨rfl,hI2,hB2,hK2⟩;have I2:=Lib.hid (And.intro hI2 (And.intro (I1.out.2.1.trans hB2) (I1.out.2.2.trans hK2)));clear hI2 hB2 hK2))
     go_roundw
     case rel=>exact ⟨k+1,m++flat [⟨(escL escT xt.data.toList).toArray⟩],r,by go_num,hkl1,Lib.hid ⟨by rw[show o+(k+1)*6=o+k*6+6 by omega];exact HR.out,I2.out,hkn.2.2.2,hkn.2.1,HSM.out.1.2.2.2,HSM.out.2.2.2,by simp[flat];omega,by have:=HT6.out;rw[HC1.out]at this ⊢;rw[show nodeText false 2 xs xn xt xa kids=flat [⟨(escL escT xt.data.toList).toArray⟩] by simp[nodeText,wordsText,flat]]at this;rw[List.append_assoc];exact this⟩⟩
     case measure=>simp[intOf];omega
   ·have HV:Hid (kindV 3 xt content b (o+k*6)=.iface 165 (.agg #[.string xt])):=Lib.hid rfl
    have A1:=as_CE
    have A2:=as_CW
    have A3:=as_CR
    have A4:=as_C
    go_wp2_with (first
     | (go_at_call 114;refine (HK.out _ rfl).mono ?_;rintro e w' ⟨rfl,rfl⟩;rw[HV.out])
     | (go_at_call 116;refine (write3_at bb m ⟨#[60,33,45,45]⟩ xt ⟨#[45,45,62]⟩ ((wr.alloc (.cells #[.string xt] 165))) _ (by simp) (Lib.IsBuilderF.alloc IR.out.1 _) (by first | omega | (show _+4+_+3≤_;omega)) (by simp;omega)).mono ?_;rintro e w2 ⟨rfl,hI2,hB2,hK2⟩;have I2:=Lib.hid (And.intro hI2 (And.intro ((IR.out.2.1.alloc (by omega) _).trans hB2) ((IR.out.2.2.trans ((Lib.OthersKept.refl _ _ wr).alloc _)).trans hK2)));clear hI2 hB2 hK2))
    go_roundw
    case rel=>exact ⟨k+1,m++flat [⟨#[60,33,45,45]⟩,xt,⟨#[45,45,62]⟩],r,by go_num,hkl1,Lib.hid ⟨by rw[show o+(k+1)*6=o+k*6+6 by omega];exact HR.out,I2.out,hkn.2.2.2,hkn.2.1,HSM.out.1.2.2.2,HSM.out.2.2.2,by simp[flat];omega,by have:=HT6.out;rw[show nodeText (content==1) 3 xs xn xt xa kids=flat [⟨#[60,33,45,45]⟩,xt,⟨#[45,45,62]⟩] by simp[nodeText,noteText,flat]]at this;rw[List.append_assoc];exact this⟩⟩
    case measure=>simp[intOf];omega
theorem writeNodes_any (F:Fo):WriteOK F:=writeNodes_lt (F.nodes+1) F (Nat.lt_succ_self _)
end Go.Proofs.YthdkkpbhijlpaaaGreatDoor
namespace Go.Proofs.YthdkkpbhijlpaaaGreatDoor
open Go.ChangeShapes Go.WideShapes Go.ChangeAt Go.RowKit Go.Deep
theorem bld_new (w:World):BldF w.heap.size w.heap.size (Lib.byteCells []) (w.alloc (.cells #[.pointer Option.none,.slice Option.none 0 0] 94)):=by
 have hb:(w.alloc (.cells #[.pointer Option.none,.slice Option.none 0 0] 94)).heap[w.heap.size]?=some (.cells #[.pointer Option.none,.slice Option.none 0 0] 94 (0,0)):=by
  show (w.heap.push _)[w.heap.size]?=_
  simp
 exact Or.inl ⟨Nat.le_refl _,_,hb,World.ownsRowF_nil _ _ _ _,by simp[Value.ownBlock]⟩
theorem serialize_any (F:Fo) (w:World) (A:Option Addr) (c b o lo hi:Nat) (hd:F.nodes≤1048576) (hs:F.len+F.size≤1048576*64) (hsm:F.sm) (hks:F.ks) (hh:hi≤w.heap.size) (hA:RowAt lo hi A F.len b o) (hF:FoAt w lo hi b o F):
 Calls Tryz.prog 37 #[.slice A F.len c] w fun e w'=>e=.returned (.string ⟨(F.ser false).toArray⟩)∧Below w.heap.size w w':=by
 have HA:=Lib.hid hA
 have B0:=Lib.hid ((Below.refl w.heap.size w).alloc (Nat.le_refl _) (.cells #[.pointer Option.none,.slice Option.none 0 0] 94))
 have HF:=Lib.hid (FoAt.below hA hF B0.out hh)
 have HS:=Lib.hid (And.intro hsm hks)
 have HN:=Lib.hid (bld_new w)
 clear hA hF hsm hks
 go_enter Tryz.func37,Tryz.ntmps37
 go_wp2_with (first
  | (go_at_call 61;refine (writeNodes_any F 0 w.heap.size [] (w.alloc (.cells #[.pointer Option.none,.slice Option.none 0 0] 94)) A c b o lo hi hd HS.out.1 HS.out.2 (by simp;omega) HN.out hh (by simp) HA.out HF.out).mono ?_;rw[show ([]:List UInt8)++F.ser ((0:Int)==1)=F.ser false from rfl];rintro e w1 ⟨rfl,hI1,hB1,hK1⟩;have I1:=Lib.hid hI1;have B1:=Lib.hid (B0.out.trans hB1);clear hI1 hB1 hK1)
  | (go_at_call 62;refine (string_any w.heap.size w.heap.size (F.ser false) _ I1.out B1.out.size).mono ?_;rintro e w3 ⟨rfl,h1,hB,hK⟩;have B3:=Lib.hid (B1.out.trans hB);clear h1 hB hK))
 go_ret
 exact ⟨rfl,B3.out⟩
end Go.Proofs.YthdkkpbhijlpaaaGreatDoor
namespace Go.Proofs.YthdkkpbhijlpaaaGreatDoor
open Go.ChangeShapes Go.WideShapes Go.ChangeAt Go.RowKit Go.Deep
theorem named_size {s:ByteArray} (h:namedB small tagB s=true):s.size≤12:=by
 have:Named small tagB s:=by simpa[namedB]using h
 exact this.2.1
theorem asSize_le:∀(al:List (ByteArray × ByteArray)),(∀x ∈ al,x.1.size≤12∧x.2.size≤40)→asSize al≤52*al.length
 | [],_=>Nat.zero_le _
 | x::r,h=>by
  have h1:=h x (by simp)
  have h2:=asSize_le r fun y hy=>h y (by simp[hy])
  simp only[asSize,List.length_cons]
  omega
theorem node_size {x:Nd} (h:NodeIs x):x.n.size+x.t.size+(x.al.length+asSize x.al)≤500:=by
 have hw:WordsIs x→x.n.size+x.t.size+(x.al.length+asSize x.al)≤500:=fun ⟨h1,_,h3,h4⟩=>by
  have:x.al=[]:=List.length_eq_zero_iff.1 h4
  rw[this]
  simp only[asSize,List.length_nil]
  omega
 rcases h with ⟨_,h1,_,_,h4,h5,h6⟩ | ⟨_,_,h⟩ | ⟨_,h⟩
 ·have hn:=named_size h1
  have ha:=asSize_le x.al fun y hy=>by
   obtain ⟨i,hi,rfl⟩:=List.getElem_of_mem hy
   have:=(h6 i hi hi).1
   exact ⟨named_size this.1,this.2⟩
  omega
 ·exact hw h
 ·exact hw h
theorem sfine_size:∀(F:Fo),SFine F→F.len+F.size≤502*F.nodes
 | .nil,_=>Nat.zero_le _
 | .cons k sp n t al kids rest,⟨h1,_,h3,h4⟩=>by
  have e1:=node_size h1
  have e2:=sfine_size kids h3
  have e3:=sfine_size rest h4
  simp only[Fo.len,Fo.size,Fo.nodes]at e1 e2 e3 ⊢
  omega
theorem good_of {F:Fo} (h:faultOf F=0):Good F:=by
 unfold faultOf at h
 split at h
 ·split at h
  ·rename_i hg
   simpa[goodB]using hg
  ·exact absurd h (by decide)
 ·exact absurd h (by decide)
theorem good_ser {F:Fo} (h:Good F):F.nodes≤1048576∧F.len+F.size≤1048576*64∧F.sm∧F.ks:=by
 have hf:=(fine_top F).1 h.2.2
 have:=sfine_size F hf
 have:=h.1
 exact ⟨by omega,by omega,Fo.sm_of F hf,Fo.ks_of F hf⟩
def serB (F:Fo):ByteArray:=⟨(F.ser false).toArray⟩
noncomputable def againOf (F:Fo):Fo × Int:=bOf (serB F)
theorem bOf_good (s:ByteArray):Good (bOf s).1:=by
 unfold bOf
 split
 ·exact ⟨by simp[Fo.nodes],by simp[Fo.deep],trivial⟩
 ·exact builtOf_good s
noncomputable def timesOf:Nat→Fo→Fo × Int
 | 0,F=>(F,0)
 | k+1,F=>if (againOf F).2=0 then timesOf k (againOf F).1 else (.nil,(againOf F).2)
theorem l06Again_any (F:Fo) (hg:Good F) (w:World) (A:Option Addr) (c b o lo hi:Nat) (hh:hi≤w.heap.size) (hA:RowAt lo hi A F.len b o) (hF:FoAt w lo hi b o F):
 Calls Tryz.prog 25 #[.slice A F.len c] w (BuiltOut (againOf F) w):=by
 obtain ⟨hd,hs,hsm,_⟩:=good_ser hg
 have HT:Hid (Calls Tryz.prog 44 #[.slice A F.len c,.bool false] w fun e w'=>e=.returned (.string (serB F))∧Below w.heap.size w w'):=Lib.hid (l06Tree_any F false w A c b o lo hi hd hs hsm hh hA hF)
 unfold againOf
 generalize serB F=X at HT
 clear hA hF
 by_cases h:X.size≤4096
 ·have h':¬(X.size:Int)>4096:=by omega
  have e:bOf X=builtOf X:=by unfold bOf;rw[if_neg (by omega)]
  rw[e]
  clear e
  go_enter Tryz.func25,Tryz.ntmps25
  go_wp2_with (first
   | (go_at_call 44;refine HT.out.mono ?_;rintro e w1 ⟨rfl,hB⟩;have B1:=Lib.hid hB;clear hB)
   | (go_at_call 43;refine (l05Build_any X _ h).mono ?_;rintro e w2 ⟨v,bl,rfl,hG,hB⟩;have HO:=Lib.hid (And.intro hG hB);clear hG hB))
  go_ret2
  exact BuiltOut.mono0 ⟨v,bl,rfl,HO.out.1,HO.out.2⟩ B1.out
 ·have h':(X.size:Int)>4096:=by omega
  have e:bOf X=(.nil,8):=by unfold bOf;rw[if_pos (by omega)]
  rw[e]
  clear e
  go_enter Tryz.func25,Tryz.ntmps25
  go_wp2_with (go_at_call 44;refine HT.out.mono ?_;rintro e w1 ⟨rfl,hB⟩;have B1:=Lib.hid hB;clear hB)
  go_ret2
  exact ⟨_,[],rfl,GRow.lit B1.out.size,B1.out.alloc B1.out.size _⟩
end Go.Proofs.YthdkkpbhijlpaaaGreatDoor
