import Derived.Deep.QuietTactic
import Derived.BigQuiet
import Derived.Laws.StructEq
import Derived.Test.YthdkkpbhijlpaaaGreatDoorQ38
import Derived.Test.YthdkkpbhijlpaaaGreatDoorQ16
set_option linter.unusedVariables false
namespace Go.Proofs.YthdkkpbhijlpaaaGreatDoor
open Go.ChangeShapes Go.WideShapes Go.ChangeAt Go.RowKit Go.Deep
set_option maxHeartbeats 2000000 in
theorem lawReparseTimes_walk (F:Fo) (kk:Int) (w:World) (A:Option Addr) (c b o hi:Nat) (h:CameIn w A b o hi F) (hE:Env2 w):
 Calls Tryz.prog 4 #[.slice A F.len c,.int .i64 kk] w fun e w'=>e=.returned (.bool true)∧Below w.heap.size w w':=by
 have hml:=h.1.1
 have hsz:=szNodeS_any F 1048576 w A c b o hi (by omega) h.1 h.2.1 h.2.2
 have H:=Lib.hid h
 have HL:=Lib.hid hml
 have HV:=Lib.hid hE
 clear h hml hE
 by_cases hs:F.len+F.size≤1048576
 ·have HS:=Lib.hid hs
  have HN:=Lib.hid (Nat.le_trans (Fo.nodes_le F) hs)
  have HE:=Lib.hid (left_le hs)
  have hnn:0≤((1048576:Nat):Int)-((F.len+F.size:Nat):Int):=by omega
  have HC:=Lib.hid (outRT_cn F kk)
  have hol:(outRT F kk).1.len≤maxLen:=by have:=Fo.len_cnt (outRT F kk).1;have:=HC.out;unfold maxLen;omega
  have hcc:1+(outRT F kk).1.cnt≤1073741824:=by have:=HC.out;omega
  clear hs
  go_enter Tryz.func4,Tryz.ntmps4
  go_wp2_with (go_at_call 7;refine hsz.mono ?_;rintro e w1 ⟨rfl,hB1⟩;rw[HE.out];have B1:=Lib.hid hB1;clear hB1 hsz)
  refine (copy_any F _ A c b o hi HS.out (H.out.next B1.out)).mono ?_
  rintro e w2 ⟨rfl,hB2,hM2⟩
  have B2:=Lib.hid (B1.out.trans (hB2.mono B1.out.size))
  have M2:=Lib.hid hM2
  clear hB2 hM2
  go_wp2_with fail
  refine (specReparseTimes_any F kk _ _ _ _ _ _ _ HN.out M2.out.1 (M2.out.row HL.out) M2.out.2.2).mono ?_
  rintro e w3 ⟨v,blw,rfl,hW,hB3⟩
  obtain ⟨Aw,cw,bw,rfl,hw⟩:=KR.of hW hol
  have W3:=Lib.hid hw
  have B3:=Lib.hid (B2.out.trans (hB3.mono B2.out.size))
  clear hB3 hW hw
  go_wp2_with fail
  refine (copyO_any F _ A c b o hi HS.out (H.out.next B3.out)).mono ?_
  rintro e w4 ⟨bl,rfl,hB4,hO4⟩
  have B4:=Lib.hid (B3.out.trans (hB4.mono B3.out.size))
  have O4:=Lib.hid hO4
  have W4:=Lib.hid (W3.out.next hB4)
  clear hB4 hO4
  go_wp2_with fail
  refine (implReparseTimes_any F kk _ (HV.out.below B4.out) _ _ _ _ _ _ HN.out (Nat.le_refl _) (O4.out.row HL.out) O4.out.at).mono ?_
  rintro e w5 ⟨v,blg,rfl,hG,hB5⟩
  obtain ⟨Ag,cg,bg,rfl,hg⟩:=KR.of hG hol
  have G5:=Lib.hid hg
  have B5:=Lib.hid (B4.out.trans (hB5.mono B4.out.size))
  have O5:=Lib.hid (O4.out.next hB5)
  have W5:=Lib.hid (W4.out.next hB5)
  clear hB5 hG hg
  go_wp2_with fail
  refine (eqKR G5.out W5.out).mono ?_
  rintro e w6 ⟨rfl,hB⟩
  have B6:=Lib.hid (B5.out.trans (hB.mono B5.out.size))
  have O6:=Lib.hid (O5.out.next hB)
  have W6:=Lib.hid (W5.out.next hB)
  have G6:=Lib.hid (G5.out.next hB)
  clear hB
  go_wp2_with fail
  refine (copy_any F _ A c b o hi HS.out (H.out.next B6.out)).mono ?_
  rintro e w7 ⟨rfl,hB,hM7⟩
  have B7:=Lib.hid (B6.out.trans (hB.mono B6.out.size))
  have O7:=Lib.hid (O6.out.next hB)
  have W7:=Lib.hid (W6.out.next hB)
  have G7:=Lib.hid (G6.out.next hB)
  have M7:=Lib.hid hM7
  clear hB hM7
  go_wp2_with fail
  refine (alike_any F _ _ _ _ _ _ _ HL.out O7.out.made M7.out).mono ?_
  rintro e w8 ⟨rfl,hB⟩
  have B8:=Lib.hid (B7.out.trans (hB.mono B7.out.size))
  have O8:=Lib.hid (O7.out.next hB)
  have W8:=Lib.hid (W7.out.next hB)
  have G8:=Lib.hid (G7.out.next hB)
  clear hB
  go_wp2_with fail
  refine (markO_any F _ _ _ bl HS.out O8.out).mono ?_
  rintro e w9 ⟨rfl,hB⟩
  have hbl:∀k ∈ w3.heap.size::bl,w3.heap.size≤k∧k<w4.heap.size:=fun k hk=>by
   rcases List.mem_cons.1 hk with rfl | hk
   ·exact ⟨Nat.le_refl _,O4.out.2.1⟩
   ·exact O4.out.2.2.2.2 k hk
  have B9:=Lib.hid (B8.out.trans (hB.below (B:=w.heap.size) (fun k hk=>by have:=hbl k hk;have:=B3.out.size;omega) B8.out.size))
  have W9:=Lib.hid (W8.out.only hB fun k hk=>by have:=hbl k hk;omega)
  have G9:=Lib.hid (G8.out.only hB fun k hk=>by have:=hbl k hk;omega)
  clear hB
  go_wp2_with fail
  refine (eqKR G9.out W9.out).mono ?_
  rintro e w10 ⟨rfl,hB⟩
  have B10:=Lib.hid (B9.out.trans (hB.mono B9.out.size))
  have W10:=Lib.hid (W9.out.next hB)
  have G10:=Lib.hid (G9.out.next hB)
  clear hB
  go_wp2_with fail
  refine (markKR G10.out hcc).mono ?_
  rintro e w11 ⟨rfl,hR,hB⟩
  have B11:=Lib.hid (B10.out.trans (hB.below (B:=w.heap.size) (fun k hk=>by have:=G5.out.at' k hk;have:=B4.out.size;omega) B10.out.size))
  have W11:=Lib.hid (W10.out.only hB fun k hk=>by have:=G5.out.at' k hk;have:=O4.out.2.1;have:=W4.out.le;omega)
  have G11:Hid (KR w11 Ag (markFo (outRT F kk).1 1) bg w4.heap.size w5.heap.size):=Lib.hid hR
  clear hB hR
  go_wp2_with fail
  refine (heldKR G11.out hcc).mono ?_
  rintro e w12 ⟨rfl,hB⟩
  have B12:=Lib.hid (B11.out.trans (hB.mono B11.out.size))
  have W12:=Lib.hid (W11.out.next hB)
  have G12:=Lib.hid (G11.out.next hB)
  clear hB
  go_wp2_with fail
  refine (copy_any F _ A c b o hi HS.out (H.out.next B12.out)).mono ?_
  rintro e w13 ⟨rfl,hB,hM⟩
  have B13:=Lib.hid (B12.out.trans (hB.mono B12.out.size))
  have W13:=Lib.hid (W12.out.next hB)
  have G13:=Lib.hid (G12.out.next hB)
  have M13:=Lib.hid hM
  clear hB hM
  go_wp2_with fail
  refine (implReparseTimes_any F kk _ (HV.out.below B13.out) _ _ _ _ _ _ HN.out M13.out.1 (M13.out.row HL.out) M13.out.2.2).mono ?_
  rintro e w14 ⟨v,blv,rfl,hV,hB⟩
  obtain ⟨Ah,ch,bh,rfl,hh⟩:=KR.of hV hol
  have B14:=Lib.hid (B13.out.trans (hB.mono B13.out.size))
  have W14:=Lib.hid (W13.out.next hB)
  have G14:=Lib.hid (G13.out.next hB)
  have H14:=Lib.hid hh
  clear hB hV hh
  go_wp2_with fail
  refine (eqKR H14.out W14.out).mono ?_
  rintro e w15 ⟨rfl,hB⟩
  have B15:=Lib.hid (B14.out.trans (hB.mono B14.out.size))
  have G15:=Lib.hid (G14.out.next hB)
  clear hB
  go_wp2_with fail
  refine (heldKR G15.out hcc).mono ?_
  rintro e w16 ⟨rfl,hB⟩
  have B16:=Lib.hid (B15.out.trans (hB.mono B15.out.size))
  clear hB
  go_wp2_with fail
  go_ret
  exact ⟨rfl,B16.out⟩
 ·have HE:=Lib.hid (left_gt hs)
  clear hs
  go_enter Tryz.func4,Tryz.ntmps4
  go_wp2_with (go_at_call 7;refine hsz.mono ?_;rintro e w1 ⟨rfl,hB1⟩;rw[HE.out];have B1:=Lib.hid hB1;clear hB1 hsz)
  go_ret
  exact ⟨rfl,B1.out⟩
end Go.Proofs.YthdkkpbhijlpaaaGreatDoor
namespace Go.Proofs.YthdkkpbhijlpaaaGreatDoor
open Go.ChangeShapes Go.WideShapes Go.ChangeAt Go.RowKit Go.Deep
def attrEq (x y:ByteArray × ByteArray):Bool:=(x.1.toList==y.1.toList)&&(x.2.toList==y.2.toList)
def alEq:List (ByteArray × ByteArray)→List (ByteArray × ByteArray)→Bool
 | [],[]=>true
 | x::r,y::s=>attrEq x y&&alEq r s
 | _,_=>false
def foEq:Fo→Fo→Bool
 | .nil,.nil=>true
 | .cons k sp n t al kids r,.cons k' sp' n' t' al' kids' r'=>(k==k')&&(sp==sp')&&(n.toList==n'.toList)&&(t.toList==t'.toList)&&alEq al al'&&foEq kids kids'&&foEq r r'
 | _,_=>false
theorem attrEq_iff (x y:ByteArray × ByteArray):attrEq x y=true↔x=y:=by
 obtain ⟨a,b⟩:=x
 obtain ⟨c,d⟩:=y
 simp only[attrEq,Bool.and_eq_true,beq_iff_eq,Prod.mk.injEq]
 exact ⟨fun ⟨h1,h2⟩=>⟨str_ext h1,str_ext h2⟩,fun ⟨h1,h2⟩=>⟨by rw[h1],by rw[h2]⟩⟩
theorem alEq_iff:∀a b:List (ByteArray × ByteArray),alEq a b=true↔a=b
 | [],[]=>by simp[alEq]
 | x::r,y::s=>by simp only[alEq,Bool.and_eq_true,attrEq_iff,alEq_iff r s,List.cons.injEq]
 | [],_::_=>by simp[alEq]
 | _::_,[]=>by simp[alEq]
theorem foEq_iff:∀F G:Fo,foEq F G=true↔F=G
 | .nil,.nil=>by simp[foEq]
 | .cons k sp n t al kids r,.cons k' sp' n' t' al' kids' r'=>by
  simp only[foEq,Bool.and_eq_true,beq_iff_eq,alEq_iff,foEq_iff kids kids',foEq_iff r r',Fo.cons.injEq]
  constructor
  ·rintro ⟨⟨⟨⟨⟨⟨a,b⟩,c⟩,d⟩,e⟩,f⟩,g⟩;exact ⟨a,b,str_ext c,str_ext d,e,f,g⟩
  ·rintro ⟨a,b,c,d,e,f,g⟩;exact ⟨⟨⟨⟨⟨⟨a,b⟩,by rw[c]⟩,by rw[d]⟩,e⟩,f⟩,g⟩
 | .nil,.cons _ _ _ _ _ _ _=>by simp[foEq]
 | .cons _ _ _ _ _ _ _,.nil=>by simp[foEq]
theorem alEq_len {a b:List (ByteArray × ByteArray)} (h:¬a.length=b.length):alEq a b=false:=by
 rw[←Bool.not_eq_true,alEq_iff];rintro rfl;exact h rfl
theorem foEq_len {F G:Fo} (h:¬F.len=G.len):foEq F G=false:=by
 rw[←Bool.not_eq_true,foEq_iff];rintro rfl;exact h rfl
theorem neq_attr (x y:ByteArray × ByteArray) (w:World):(binOp .neq 81 (.agg #[.string x.1,.string x.2]) (.agg #[.string y.1,.string y.2])).run Tryz.prog w=.ok (.bool (!attrEq x y)) w:=by
 have hS:Tryz.prog.underlying 81 = some (.struct (Tryz.prog.fieldsOf 81)):=by kernel_rfl
 have hp:Tryz.prog.stoodInHeld 81 = false:=by kernel_rfl
 obtain ⟨a,b⟩:=x
 obtain ⟨c,d⟩:=y
 have u9:=Tryz.underlying9
 simp only[attrEq]
 rw[run_neq_struct,show (10000:Nat)=9999+1 from rfl,run_equalIn_agg w 9999 81 _ _ hS hp]
 simp only[Program.fieldsOf,Tryz.underlying81]
 clear hS hp
 go_simp
 by_cases h1:a.toList=c.toList <;> by_cases h2:b.toList=d.toList <;> simp[h1,h2]
theorem l03SameAttrs_any (al al':List (ByteArray × ByteArray)) (w:World) (A A':Option Addr) (c c' b b' o o' lo hi lo' hi':Nat) (hA:RowAt lo hi A al.length b o) (hA':RowAt lo' hi' A' al'.length b' o') (hh:hi≤w.heap.size) (hh':hi'≤w.heap.size)
 (hal:AsAt w b o al) (hal':AsAt w b' o' al'):
 Calls Tryz.prog 63 #[.slice A al.length c,.slice A' al'.length c'] w fun e w'=>e=.returned (.bool (alEq al al'))∧Below w.heap.size w w':=by
 have hlen:=hA.1
 have hlen':=hA'.1
 unfold maxLen at hlen hlen'
 have HA:=Lib.hid hA
 have HS:=Lib.hid hal
 have HA':=Lib.hid hA'
 have HS':=Lib.hid hal'
 clear hA hal hA' hal'
 by_cases hl:al.length=al'.length
 ·have HL:=Lib.hid hl
  have hl2:((al.length:Int) != (al'.length:Int))=false:=by simp;omega
  clear hl
  go_enter Tryz.func63,Tryz.ntmps63
  go_wp2
  go_loopw [5] (fun i wr=>∃(k:Nat) (suf suf':List (ByteArray × ByteArray)),i=.int .i64 (k:Int)∧k+suf.length=al.length∧Hid (AsAt w b (o+k*2) suf∧AsAt w b' (o'+k*2) suf'∧suf.length=suf'.length∧alEq al al'=alEq suf suf'∧Below w.heap.size w wr)) (fun i wr=>al.length-(intOf i).toNat)
  case atStart=>exact ⟨0,al,al',rfl,by omega,Lib.hid ⟨by simpa using HS.out,by simpa using HS'.out,HL.out,rfl,Below.refl _ _⟩⟩
  case round=>
   obtain ⟨k,suf,suf',rfl,hk,HH⟩:=hrel
   cases suf with
   | nil=>
    cases suf' with
    | cons _ _=>have:=HH.out.2.2.1;simp at this
    | nil=>
     have hkl:k=al.length:=by simpa using hk
     clear hk
     subst hkl
     go_wp2
     go_ret
     exact ⟨by rw[HH.out.2.2.2.1];rfl,HH.out.2.2.2.2⟩
   | cons x r=>
    cases suf' with
    | nil=>have:=HH.out.2.2.1;simp at this
    | cons y s=>
     obtain ⟨⟨s1,s2,s3,s4,s5⟩,⟨s1',s2',s3',s4',s5'⟩,hls,he,hB⟩:=HH.out
     have hkl:k<al.length:=by simp at hk;omega
     have hkl':k<al'.length:=by have:=HL.out;omega
     obtain ⟨rfl,hlo,hhi⟩:=HA.out.2 (by omega)
     obtain ⟨rfl,hlo',hhi'⟩:=HA'.out.2 (by omega)
     have t1:=(hB.cell (p:=⟨b,o+k*2,none⟩) (by show b<_;omega)).trans s1
     have t2:=(hB.cell (p:=⟨b,o+k*2+1,none⟩) (by show b<_;omega)).trans s2
     have t1':=(hB.cell (p:=⟨b',o'+k*2,none⟩) (by show b'<_;omega)).trans s1'
     have t2':=(hB.cell (p:=⟨b',o'+k*2+1,none⟩) (by show b'<_;omega)).trans s2'
     have H5:=Lib.hid (And.intro s5 s5')
     have HB:=Lib.hid hB
     have HE:=Lib.hid (And.intro hls he)
     simp at hk
     have hnq:=neq_attr x y
     clear HH s1 s2 s5 s1' s2' s5' hB hls he
     have hl3:(k:Int)<(al'.length:Int):=by omega
     cases hq:attrEq x y with
     | true=>
      rw[hq]at hnq
      have HQ:=Lib.hid hq
      clear hq
      go_wp2
      go_quiet (fail)
      go_wp2
      go_roundw
      case rel=>exact ⟨k+1,r,s,by go_num,by omega,Lib.hid ⟨by rw[show o+(k+1)*2=o+k*2+2 by omega];exact H5.out.1,by rw[show o'+(k+1)*2=o'+k*2+2 by omega];exact H5.out.2,by have:=HE.out.1;simpa using this,by rw[HE.out.2,alEq,HQ.out];rfl,below_drewN HB.out _⟩⟩
      case measure=>simp[intOf];omega
     | false=>
      rw[hq]at hnq
      have HQ:=Lib.hid hq
      clear hq
      go_wp2
      go_quiet (fail)
      go_wp2
      go_ret
      exact ⟨by rw[HE.out.2,alEq,HQ.out];rfl,below_drewN HB.out _⟩
 ·have HL:=Lib.hid hl
  have hl2:((al.length:Int) != (al'.length:Int))=true:=by simp;omega
  clear hl
  go_enter Tryz.func63,Tryz.ntmps63
  go_wp2
  go_ret
  exact ⟨by rw[alEq_len HL.out];rfl,Below.refl _ _⟩
end Go.Proofs.YthdkkpbhijlpaaaGreatDoor
namespace Go.Proofs.YthdkkpbhijlpaaaGreatDoor
open Go.ChangeShapes Go.WideShapes Go.ChangeAt Go.RowKit Go.Deep
theorem slicesEqual_any (al al':List (ByteArray × ByteArray)) (w:World) (A A':Option Addr) (c c' b b' o o' lo hi lo' hi':Nat) (hA:RowAt lo hi A al.length b o) (hA':RowAt lo' hi' A' al'.length b' o') (hh:hi≤w.heap.size) (hh':hi'≤w.heap.size)
 (hal:AsAt w b o al) (hal':AsAt w b' o' al'):
 Calls Tryz.prog 118 #[.slice A al.length c,.slice A' al'.length c'] w fun e w'=>e=.returned (.bool (alEq al al'))∧Below w.heap.size w w':=by
 have hlen:=hA.1
 have hlen':=hA'.1
 unfold maxLen at hlen hlen'
 have HA:=Lib.hid hA
 have HS:=Lib.hid hal
 have HA':=Lib.hid hA'
 have HS':=Lib.hid hal'
 clear hA hal hA' hal'
 by_cases hl:al.length=al'.length
 ·have HL:=Lib.hid hl
  have hl2:((al.length:Int) != (al'.length:Int))=false:=by simp;omega
  clear hl
  go_enter Tryz.func118,Tryz.ntmps118
  go_wp2
  go_loopw [13] (fun i wr=>∃(k:Nat) (suf suf':List (ByteArray × ByteArray)),i=.int .i64 (k:Int)∧k+suf.length=al.length∧Hid (AsAt w b (o+k*2) suf∧AsAt w b' (o'+k*2) suf'∧suf.length=suf'.length∧alEq al al'=alEq suf suf'∧Below w.heap.size w wr)) (fun i wr=>al.length-(intOf i).toNat)
  case atStart=>exact ⟨0,al,al',rfl,by omega,Lib.hid ⟨by simpa using HS.out,by simpa using HS'.out,HL.out,rfl,Below.refl _ _⟩⟩
  case round=>
   obtain ⟨k,suf,suf',rfl,hk,HH⟩:=hrel
   cases suf with
   | nil=>
    cases suf' with
    | cons _ _=>have:=HH.out.2.2.1;simp at this
    | nil=>
     have hkl:k=al.length:=by simpa using hk
     clear hk
     subst hkl
     go_wp2
     go_ret
     exact ⟨by rw[HH.out.2.2.2.1];rfl,HH.out.2.2.2.2⟩
   | cons x r=>
    cases suf' with
    | nil=>have:=HH.out.2.2.1;simp at this
    | cons y s=>
     obtain ⟨⟨s1,s2,s3,s4,s5⟩,⟨s1',s2',s3',s4',s5'⟩,hls,he,hB⟩:=HH.out
     have hkl:k<al.length:=by simp at hk;omega
     have hkl':k<al'.length:=by have:=HL.out;omega
     obtain ⟨rfl,hlo,hhi⟩:=HA.out.2 (by omega)
     obtain ⟨rfl,hlo',hhi'⟩:=HA'.out.2 (by omega)
     have t1:=(hB.cell (p:=⟨b,o+k*2,none⟩) (by show b<_;omega)).trans s1
     have t2:=(hB.cell (p:=⟨b,o+k*2+1,none⟩) (by show b<_;omega)).trans s2
     have t1':=(hB.cell (p:=⟨b',o'+k*2,none⟩) (by show b'<_;omega)).trans s1'
     have t2':=(hB.cell (p:=⟨b',o'+k*2+1,none⟩) (by show b'<_;omega)).trans s2'
     have H5:=Lib.hid (And.intro s5 s5')
     have HB:=Lib.hid hB
     have HE:=Lib.hid (And.intro hls he)
     simp at hk
     have hnq:=neq_attr x y
     clear HH s1 s2 s5 s1' s2' s5' hB hls he
     have hl3:(k:Int)<(al'.length:Int):=by omega
     cases hq:attrEq x y with
     | true=>
      rw[hq]at hnq
      have HQ:=Lib.hid hq
      clear hq
      go_wp2
      go_quiet (fail)
      go_wp2
      go_roundw
      case rel=>exact ⟨k+1,r,s,by go_num,by omega,Lib.hid ⟨by rw[show o+(k+1)*2=o+k*2+2 by omega];exact H5.out.1,by rw[show o'+(k+1)*2=o'+k*2+2 by omega];exact H5.out.2,by have:=HE.out.1;simpa using this,by rw[HE.out.2,alEq,HQ.out];rfl,below_drewN HB.out _⟩⟩
      case measure=>simp[intOf];omega
     | false=>
      rw[hq]at hnq
      have HQ:=Lib.hid hq
      clear hq
      go_wp2
      go_quiet (fail)
      go_wp2
      go_ret
      exact ⟨by rw[HE.out.2,alEq,HQ.out];rfl,below_drewN HB.out _⟩
 ·have HL:=Lib.hid hl
  have hl2:((al.length:Int) != (al'.length:Int))=true:=by simp;omega
  clear hl
  go_enter Tryz.func118,Tryz.ntmps118
  go_wp2
  go_ret
  exact ⟨by rw[alEq_len HL.out];rfl,Below.refl _ _⟩
def nodeEq (k sp:Int) (n t:ByteArray) (al:List (ByteArray × ByteArray)) (kids:Fo) (k' sp':Int) (n' t':ByteArray) (al':List (ByteArray × ByteArray)) (kids':Fo):Bool:=
 (k==k')&&(sp==sp')&&(n.toList==n'.toList)&&(t.toList==t'.toList)&&alEq al al'&&foEq kids kids'
def EqFOK (F:Fo):Prop:=∀(G:Fo) (w:World) (A A':Option Addr) (c c' b b' o o' lo hi lo' hi':Nat),RowAt lo hi A F.len b o→RowAt lo' hi' A' G.len b' o'→hi≤w.heap.size→hi'≤w.heap.size→FoAt w lo hi b o F→FoAt w lo' hi' b' o' G →
 Calls Tryz.prog 64 #[.slice A F.len c,.slice A' G.len c',Value.func (.func 65) #[] #[]] w fun e w'=>e=.returned (.bool (foEq F G))∧Below w.heap.size w w'
set_option maxHeartbeats 2000000 in
theorem sameNode_any (k sp:Int) (n t:ByteArray) (al:List (ByteArray × ByteArray)) (kids:Fo) (ih:EqFOK kids) (k' sp':Int) (n' t':ByteArray) (al':List (ByteArray × ByteArray)) (kids':Fo) (w:World) (A K A' K':Option Addr) (c kc c' kc' b o kb ko b' o' kb' ko' lo hi lo' hi':Nat)
 (hA:RowAt lo hi A al.length b o) (hal:AsAt w b o al) (hK:RowAt lo hi K kids.len kb ko) (hk:FoAt w lo hi kb ko kids) (hh:hi≤w.heap.size)
 (hA':RowAt lo' hi' A' al'.length b' o') (hal':AsAt w b' o' al') (hK':RowAt lo' hi' K' kids'.len kb' ko') (hk':FoAt w lo' hi' kb' ko' kids') (hh':hi'≤w.heap.size):
 Calls Tryz.prog 65 #[.agg #[.int .i64 k,.int .i64 sp,.string n,.string t,.slice A al.length c,.slice K kids.len kc],.agg #[.int .i64 k',.int .i64 sp',.string n',.string t',.slice A' al'.length c',.slice K' kids'.len kc']] w fun e w'=>
  e=.returned (.bool (nodeEq k sp n t al kids k' sp' n' t' al' kids'))∧Below w.heap.size w w':=by
 have HA:=Lib.hid (And.intro hA hal)
 have HK:=Lib.hid (And.intro hK hk)
 have HA':=Lib.hid (And.intro hA' hal')
 have HK':=Lib.hid (And.intro hK' hk')
 have HI:=Lib.hid ih
 clear hA hal hK hk hA' hal' hK' hk' ih
 by_cases h1:k=k'
 ·subst h1
  by_cases h2:sp=sp'
  ·subst h2
   cases h3:n.toList==n'.toList with
   | true=>
    cases h4:t.toList==t'.toList with
    | true=>
     cases h5:alEq al al' with
     | true=>
      have H5:=Lib.hid h5
      have HE:=Lib.hid (show nodeEq k sp n t al kids k sp n' t' al' kids'=foEq kids kids' by simp[nodeEq,h3,h4,h5])
      clear h5
      go_enter Tryz.func65,Tryz.ntmps65
      go_wp2_with (first | (go_at_call 118;refine (slicesEqual_any al al' _ A A' c c' b b' o o' lo hi lo' hi' HA.out.1 HA'.out.1 ?p1 ?p2 ?p3 ?p4).mono ?p5;(case p1=>(simp;omega));(case p2=>(simp;omega));(case p3=>exact HA.out.2.but HA.out.1 (((But.refl No w).alloc _).alloc _) hh (fun _ h=>h.elim));(case p4=>exact HA'.out.2.but HA'.out.1 (((But.refl No w).alloc _).alloc _) hh' (fun _ h=>h.elim));rintro e w1 ⟨rfl,hB1⟩;rw[H5.out];simp only[World.size_alloc]at hB1;obtain ⟨L1,L2,B3⟩:=two_lay hB1;have r5:=L1.1 5;have r5':=L2.1 5;have KB:=Lib.hid B3;simp at r5 r5';clear L1 L2 B3 hB1) | (go_at_call 64;go_loud (refine (HI.out kids' _ K K' kc kc' kb kb' ko ko' lo hi lo' hi' HK.out.1 HK'.out.1 (Nat.le_trans hh KB.out.size) (Nat.le_trans hh' KB.out.size) (HK.out.2.but HK.out.1 (But.of_below (C:=No) KB.out) hh (fun _ h=>h.elim)) (HK'.out.2.but HK'.out.1 (But.of_below (C:=No) KB.out) hh' (fun _ h=>h.elim))).mono ?_;rintro e w2 ⟨rfl,hB2⟩;have KB2:=Lib.hid (KB.out.trans (hB2.mono KB.out.size));clear hB2)))
      go_ret
      exact ⟨by rw[HE.out];rfl,KB2.out⟩
     | false=>
      have H5:=Lib.hid h5
      have HE:=Lib.hid (show nodeEq k sp n t al kids k sp n' t' al' kids'=false by simp[nodeEq,h5])
      clear h5
      go_enter Tryz.func65,Tryz.ntmps65
      go_wp2_with (go_at_call 118;refine (slicesEqual_any al al' _ A A' c c' b b' o o' lo hi lo' hi' HA.out.1 HA'.out.1 ?r1 ?r2 ?r3 ?r4).mono ?r5;(case r1=>(simp;omega));(case r2=>(simp;omega));(case r3=>exact HA.out.2.but HA.out.1 (((But.refl No w).alloc _).alloc _) hh (fun _ h=>h.elim));(case r4=>exact HA'.out.2.but HA'.out.1 (((But.refl No w).alloc _).alloc _) hh' (fun _ h=>h.elim));rintro e w1 ⟨rfl,hB1⟩;rw[H5.out];simp only[World.size_alloc]at hB1;obtain ⟨L1,L2,B3⟩:=two_lay hB1;have r5:=L1.1 5;have r5':=L2.1 5;have KB:=Lib.hid B3;simp at r5 r5';clear L1 L2 B3 hB1)
      go_ret
      exact ⟨by rw[HE.out];rfl,KB.out⟩
    | false=>
     have HE:=Lib.hid (show nodeEq k sp n t al kids k sp n' t' al' kids'=false by simp[nodeEq,h4])
     go_enter Tryz.func65,Tryz.ntmps65
     go_wp2
     go_ret
     exact ⟨by rw[HE.out];rfl,by go_grown⟩
   | false=>
    have HE:=Lib.hid (show nodeEq k sp n t al kids k sp n' t' al' kids'=false by simp[nodeEq,h3])
    go_enter Tryz.func65,Tryz.ntmps65
    go_wp2
    go_ret
    exact ⟨by rw[HE.out];rfl,by go_grown⟩
  ·have h2':(sp==sp')=false:=by simpa using h2
   have HE:=Lib.hid (show nodeEq k sp n t al kids k sp' n' t' al' kids'=false by simp[nodeEq,h2])
   clear h2
   go_enter Tryz.func65,Tryz.ntmps65
   go_wp2
   go_ret
   exact ⟨by rw[HE.out];rfl,by go_grown⟩
 ·have h1':(k==k')=false:=by simpa using h1
  have HE:=Lib.hid (show nodeEq k sp n t al kids k' sp' n' t' al' kids'=false by simp[nodeEq,h1])
  clear h1
  go_enter Tryz.func65,Tryz.ntmps65
  go_wp2
  go_ret
  exact ⟨by rw[HE.out];rfl,by go_grown⟩
set_option maxHeartbeats 2000000 in
theorem equalFunc_lt:∀(N:Nat) (F:Fo),F.nodes<N→EqFOK F:=by
 intro N
 induction N with
 | zero=>intro F hF;omega
 | succ N IH=>
 intro F hF G w A A' c c' b b' o o' lo hi lo' hi' hA hA' hh hh' hFo hFo'
 have hlen:=hA.1
 have hlen':=hA'.1
 unfold maxLen at hlen hlen'
 have HA:=Lib.hid hA
 have HS:=Lib.hid hFo
 have HA':=Lib.hid hA'
 have HS':=Lib.hid hFo'
 have HF:=Lib.hid hF
 have HI:=Lib.hid IH
 clear hA hFo hF IH hA' hFo'
 by_cases hl:F.len=G.len
 ·have HL:=Lib.hid hl
  have hl2:((F.len:Int) != (G.len:Int))=false:=by simp;omega
  clear hl
  go_enter Tryz.func64,Tryz.ntmps64
  go_wp2
  go_loopw [17] (fun i wr=>∃(k:Nat) (suf suf':Fo),i=.int .i64 (k:Int)∧k+suf.len=F.len∧Hid (FoAt w lo hi b (o+k*6) suf∧FoAt w lo' hi' b' (o'+k*6) suf'∧suf.len=suf'.len∧foEq F G=foEq suf suf'∧Below w.heap.size w wr∧suf.nodes<N+1)) (fun i wr=>F.len-(intOf i).toNat)
  case atStart=>exact ⟨0,F,G,rfl,by omega,Lib.hid ⟨by simpa using HS.out,by simpa using HS'.out,HL.out,rfl,Below.refl _ _,HF.out⟩⟩
  case round=>
   obtain ⟨k,suf,suf',rfl,hk,HH⟩:=hrel
   cases suf with
   | nil=>
    cases suf' with
    | cons _ _ _ _ _ _ _=>have:=HH.out.2.2.1;simp[Fo.len]at this
    | nil=>
     have hkl:k=F.len:=by simpa[Fo.len]using hk
     clear hk
     subst hkl
     go_wp2
     go_ret
     exact ⟨by rw[HH.out.2.2.2.1];rfl,HH.out.2.2.2.2.1⟩
   | cons xk xs xn xt xa kids r=>
    cases suf' with
    | nil=>have:=HH.out.2.2.1;simp[Fo.len]at this
    | cons yk ys yn yt ya ykids s=>
     have hkl:k<F.len:=by simp[Fo.len]at hk;omega
     have hkl':k<G.len:=by have:=HL.out;omega
     obtain ⟨⟨⟨s0,s1,s2,s3,z2,z3⟩,⟨A4,c4,b4,o4,s4,r4,a4⟩,⟨A5,c5,b5,o5,s5,r5,a5⟩,sr⟩,⟨⟨s0',s1',s2',s3',_,_⟩,⟨A4',c4',b4',o4',s4',r4',a4'⟩,⟨A5',c5',b5',o5',s5',r5',a5'⟩,sr'⟩,hls,he,hB,hnd⟩:=HH.out
     obtain ⟨rfl,hlo,hhi⟩:=HA.out.2 (by omega)
     obtain ⟨rfl,hlo',hhi'⟩:=HA'.out.2 (by omega)
     have hb:b<w.heap.size:=by omega
     have hb':b'<w.heap.size:=by omega
     have hl3:(k:Int)<(G.len:Int):=by omega
     have t0:=(hB.cell (p:=⟨b,_,none⟩) hb).trans s0
     have t1:=(hB.cell (p:=⟨b,_,none⟩) hb).trans s1
     have t2:=(hB.cell (p:=⟨b,_,none⟩) hb).trans s2
     have t3:=(hB.cell (p:=⟨b,_,none⟩) hb).trans s3
     have t4:=(hB.cell (p:=⟨b,_,none⟩) hb).trans s4
     have t5:=(hB.cell (p:=⟨b,_,none⟩) hb).trans s5
     have t0':=(hB.cell (p:=⟨b',_,none⟩) hb').trans s0'
     have t1':=(hB.cell (p:=⟨b',_,none⟩) hb').trans s1'
     have t2':=(hB.cell (p:=⟨b',_,none⟩) hb').trans s2'
     have t3':=(hB.cell (p:=⟨b',_,none⟩) hb').trans s3'
     have t4':=(hB.cell (p:=⟨b',_,none⟩) hb').trans s4'
     have t5':=(hB.cell (p:=⟨b',_,none⟩) hb').trans s5'
     have HR:=Lib.hid (And.intro sr sr')
     have HB:=Lib.hid hB
     have H4:=Lib.hid (And.intro a4 a4')
     have H5:=Lib.hid (And.intro a5 a5')
     have R4:=Lib.hid (And.intro r4.2 r4'.2)
     have R5:=Lib.hid (And.intro r5.2 r5'.2)
     have HND:=Lib.hid hnd
     have HK:=Lib.hid hk
     have HE:=Lib.hid (And.intro hls he)
     have hcat:foEq (.cons xk xs xn xt xa kids r) (.cons yk ys yn yt ya ykids s)=(nodeEq xk xs xn xt xa kids yk ys yn yt ya ykids&&foEq r s):=rfl
     have HC:=Lib.hid hcat
     clear HH s0 s1 s2 s3 s4 s5 sr s0' s1' s2' s3' s4' s5' sr' hB hnd a4 a5 r4 r5 a4' a5' r4' r5' hk hls he hcat
     have HBX:=Lib.hid (show But No w ((wr.alloc (.cells #[.int .i64 xk,.int .i64 xs,.string xn,.string xt,.slice A4 xa.length c4,.slice A5 kids.len c5] 56)).alloc (.cells #[.int .i64 yk,.int .i64 ys,.string yn,.string yt,.slice A4' ya.length c4',.slice A5' ykids.len c5'] 56)) from (((But.of_below (C:=No) HB.out).alloc _).alloc _))
     have hbw':b'<wr.heap.size:=Nat.lt_of_lt_of_le hb' HB.out.size
     have u0':=(((Below.refl wr.heap.size wr).alloc (Nat.le_refl _) (.cells #[.int .i64 xk,.int .i64 xs,.string xn,.string xt,.slice A4 xa.length c4,.slice A5 kids.len c5] 56)).cell (p:=⟨b',o'+k*6,none⟩) hbw').trans t0'
     have u1':=(((Below.refl wr.heap.size wr).alloc (Nat.le_refl _) (.cells #[.int .i64 xk,.int .i64 xs,.string xn,.string xt,.slice A4 xa.length c4,.slice A5 kids.len c5] 56)).cell (p:=⟨b',o'+k*6+1,none⟩) hbw').trans t1'
     have u2':=(((Below.refl wr.heap.size wr).alloc (Nat.le_refl _) (.cells #[.int .i64 xk,.int .i64 xs,.string xn,.string xt,.slice A4 xa.length c4,.slice A5 kids.len c5] 56)).cell (p:=⟨b',o'+k*6+2,none⟩) hbw').trans t2'
     have u3':=(((Below.refl wr.heap.size wr).alloc (Nat.le_refl _) (.cells #[.int .i64 xk,.int .i64 xs,.string xn,.string xt,.slice A4 xa.length c4,.slice A5 kids.len c5] 56)).cell (p:=⟨b',o'+k*6+3,none⟩) hbw').trans t3'
     have u4':=(((Below.refl wr.heap.size wr).alloc (Nat.le_refl _) (.cells #[.int .i64 xk,.int .i64 xs,.string xn,.string xt,.slice A4 xa.length c4,.slice A5 kids.len c5] 56)).cell (p:=⟨b',o'+k*6+4,none⟩) hbw').trans t4'
     have u5':=(((Below.refl wr.heap.size wr).alloc (Nat.le_refl _) (.cells #[.int .i64 xk,.int .i64 xs,.string xn,.string xt,.slice A4 xa.length c4,.slice A5 kids.len c5] 56)).cell (p:=⟨b',o'+k*6+5,none⟩) hbw').trans t5'
     cases hq:nodeEq xk xs xn xt xa kids yk ys yn yt ya ykids with
     | true=>
      have HQ:=Lib.hid hq
      clear hq
      go_wp2_with (go_at_call 65;refine (sameNode_any xk xs xn xt xa kids (HI.out kids (by have:=HND.out;simp[Fo.nodes]at this;omega)) yk ys yn yt ya ykids _ A4 A5 A4' A5' c4 c5 c4' c5' b4 o4 b5 o5 b4' o4' b5' o5' lo hi lo' hi' R4.out.1 (H4.out.1.but R4.out.1 HBX.out hh (fun _ h=>h.elim)) R5.out.1 (H5.out.1.but R5.out.1 HBX.out hh (fun _ h=>h.elim)) (Nat.le_trans hh HBX.out.size) R4.out.2 (H4.out.2.but R4.out.2 HBX.out hh' (fun _ h=>h.elim)) R5.out.2 (H5.out.2.but R5.out.2 HBX.out hh' (fun _ h=>h.elim)) (Nat.le_trans hh' HBX.out.size)).mono ?_;rintro e w' ⟨rfl,hB'⟩;rw[HQ.out];have HB':=Lib.hid hB';clear hB')
      go_roundw
      case rel=>exact ⟨k+1,r,s,by go_num,by have:=HK.out;simp[Fo.len]at this;omega,Lib.hid ⟨by rw[show o+(k+1)*6=o+k*6+6 by omega];exact HR.out.1,by rw[show o'+(k+1)*6=o'+k*6+6 by omega];exact HR.out.2,by have:=HE.out.1;simpa[Fo.len]using this,by rw[HE.out.2,HC.out,HQ.out];rfl,(((HB.out.alloc HB.out.size _).alloc (Nat.le_trans HB.out.size (by simp)) _).trans (HB'.out.mono (Nat.le_trans HB.out.size (by simp;omega)))),by have:=HND.out;simp[Fo.nodes]at this;omega⟩⟩
      case measure=>simp[intOf];omega
     | false=>
      have HQ:=Lib.hid hq
      clear hq
      go_wp2_with (go_at_call 65;refine (sameNode_any xk xs xn xt xa kids (HI.out kids (by have:=HND.out;simp[Fo.nodes]at this;omega)) yk ys yn yt ya ykids _ A4 A5 A4' A5' c4 c5 c4' c5' b4 o4 b5 o5 b4' o4' b5' o5' lo hi lo' hi' R4.out.1 (H4.out.1.but R4.out.1 HBX.out hh (fun _ h=>h.elim)) R5.out.1 (H5.out.1.but R5.out.1 HBX.out hh (fun _ h=>h.elim)) (Nat.le_trans hh HBX.out.size) R4.out.2 (H4.out.2.but R4.out.2 HBX.out hh' (fun _ h=>h.elim)) R5.out.2 (H5.out.2.but R5.out.2 HBX.out hh' (fun _ h=>h.elim)) (Nat.le_trans hh' HBX.out.size)).mono ?_;rintro e w' ⟨rfl,hB'⟩;rw[HQ.out];have HB':=Lib.hid hB';clear hB')
      go_ret
      exact ⟨by rw[HE.out.2,HC.out,HQ.out];rfl,(((HB.out.alloc HB.out.size _).alloc (Nat.le_trans HB.out.size (by simp)) _).trans (HB'.out.mono (Nat.le_trans HB.out.size (by simp;omega))))⟩
 ·have HL:=Lib.hid hl
  have hl2:((F.len:Int) != (G.len:Int))=true:=by simp;omega
  clear hl
  go_enter Tryz.func64,Tryz.ntmps64
  go_wp2
  go_ret
  exact ⟨by rw[foEq_len HL.out];rfl,Below.refl _ _⟩
theorem equalFunc_any (F:Fo):EqFOK F:=equalFunc_lt (F.nodes+1) F (Nat.lt_succ_self _)
end Go.Proofs.YthdkkpbhijlpaaaGreatDoor
