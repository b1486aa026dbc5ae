import Derived.Test.YthdkkpbhijlpaaaGreatDoorQ39
import Derived.Test.YthdkkpbhijlpaaaGreatDoorQ35
import Derived.Test.YthdkkpbhijlpaaaGreatDoorQ38
set_option linter.unusedVariables false
namespace Go.Proofs.YthdkkpbhijlpaaaGreatDoor
open Go.ChangeShapes Go.WideShapes Go.ChangeAt Go.RowKit Go.Deep
def SameOK (F:Fo):Prop:=∀(G:Fo) (w:World) (A A':Option Addr) (c c' b b' o o' lo hi lo' hi':Nat),RowAt lo hi A F.len b o→RowAt lo' hi' A' G.len b' o'→hi≤w.heap.size→hi'≤w.heap.size→FoAt w lo hi b o F→FoAt w lo' hi' b' o' G →
 Calls Tryz.prog 38 #[.slice A F.len c,.slice A' G.len c'] w fun e w'=>e=.returned (.bool (foEq F G))∧Below w.heap.size w w'
set_option maxHeartbeats 4000000 in
theorem l03Same_lt:∀(N:Nat) (F:Fo),F.nodes<N→SameOK F:=by
 intro N
 induction N with
 | zero=>intro F hF;omega
 | succ N IH=>
 intro F hF G w A A' c c' b b' o o' lo hi lo' hi' hA hA' hh hh' hFo hFo'
 have hlen:=hA.1
 have hlen':=hA'.1
 unfold maxLen at hlen hlen'
 have HA:=Lib.hid hA
 have HS:=Lib.hid hFo
 have HA':=Lib.hid hA'
 have HS':=Lib.hid hFo'
 have HF:=Lib.hid hF
 have HI:=Lib.hid IH
 clear hA hFo hF IH hA' hFo'
 by_cases hl:F.len=G.len
 ·have HL:=Lib.hid hl
  have hl2:((F.len:Int) != (G.len:Int))=false:=by simp;omega
  clear hl
  go_enter Tryz.func38,Tryz.ntmps38
  go_wp2
  go_loopw [5] (fun i wr=>∃(k:Nat) (suf suf':Fo),i=.int .i64 (k:Int)∧k+suf.len=F.len∧Hid (FoAt w lo hi b (o+k*6) suf∧FoAt w lo' hi' b' (o'+k*6) suf'∧suf.len=suf'.len∧foEq F G=foEq suf suf'∧Below w.heap.size w wr∧suf.nodes<N+1)) (fun i wr=>F.len-(intOf i).toNat)
  case atStart=>exact ⟨0,F,G,rfl,by omega,Lib.hid ⟨by simpa using HS.out,by simpa using HS'.out,HL.out,rfl,Below.refl _ _,HF.out⟩⟩
  case round=>
   obtain ⟨k,suf,suf',rfl,hk,HH⟩:=hrel
   cases suf with
   | nil=>
    cases suf' with
    | cons _ _ _ _ _ _ _=>have:=HH.out.2.2.1;simp[Fo.len]at this
    | nil=>
     have hkl:k=F.len:=by simpa[Fo.len]using hk
     clear hk
     subst hkl
     go_wp2
     go_ret
     exact ⟨by rw[HH.out.2.2.2.1];rfl,HH.out.2.2.2.2.1⟩
   | cons xk xs xn xt xa kids r=>
    cases suf' with
    | nil=>have:=HH.out.2.2.1;simp[Fo.len]at this
    | cons yk ys yn yt ya ykids s=>
     have hkl:k<F.len:=by simp[Fo.len]at hk;omega
     have hkl':k<G.len:=by have:=HL.out;omega
     obtain ⟨⟨⟨s0,s1,s2,s3,z2,z3⟩,⟨A4,c4,b4,o4,s4,r4,a4⟩,⟨A5,c5,b5,o5,s5,r5,a5⟩,sr⟩,⟨⟨s0',s1',s2',s3',_,_⟩,⟨A4',c4',b4',o4',s4',r4',a4'⟩,⟨A5',c5',b5',o5',s5',r5',a5'⟩,sr'⟩,hls,he,hB,hnd⟩:=HH.out
     obtain ⟨rfl,hlo,hhi⟩:=HA.out.2 (by omega)
     obtain ⟨rfl,hlo',hhi'⟩:=HA'.out.2 (by omega)
     have hb:b<w.heap.size:=by omega
     have hb':b'<w.heap.size:=by omega
     have hl3:(k:Int)<(G.len:Int):=by omega
     have t0:=(hB.cell (p:=⟨b,_,none⟩) hb).trans s0
     have t1:=(hB.cell (p:=⟨b,_,none⟩) hb).trans s1
     have t2:=(hB.cell (p:=⟨b,_,none⟩) hb).trans s2
     have t3:=(hB.cell (p:=⟨b,_,none⟩) hb).trans s3
     have t4:=(hB.cell (p:=⟨b,_,none⟩) hb).trans s4
     have t5:=(hB.cell (p:=⟨b,_,none⟩) hb).trans s5
     have t0':=(hB.cell (p:=⟨b',_,none⟩) hb').trans s0'
     have t1':=(hB.cell (p:=⟨b',_,none⟩) hb').trans s1'
     have t2':=(hB.cell (p:=⟨b',_,none⟩) hb').trans s2'
     have t3':=(hB.cell (p:=⟨b',_,none⟩) hb').trans s3'
     have t4':=(hB.cell (p:=⟨b',_,none⟩) hb').trans s4'
     have t5':=(hB.cell (p:=⟨b',_,none⟩) hb').trans s5'
     have HR:=Lib.hid (And.intro sr sr')
     have HB:=Lib.hid hB
     have H4:=Lib.hid (And.intro a4 a4')
     have H5:=Lib.hid (And.intro a5 a5')
     have R4:=Lib.hid (And.intro r4.2 r4'.2)
     have R5:=Lib.hid (And.intro r5.2 r5'.2)
     have HND:=Lib.hid hnd
     have HK:=Lib.hid hk
     have HE:=Lib.hid (And.intro hls he)
     have hcat:foEq (.cons xk xs xn xt xa kids r) (.cons yk ys yn yt ya ykids s)=(nodeEq xk xs xn xt xa kids yk ys yn yt ya ykids&&foEq r s):=rfl
     have HC:=Lib.hid hcat
     clear HH s0 s1 s2 s3 s4 s5 sr s0' s1' s2' s3' s4' s5' sr' hB hnd a4 a5 r4 r5 a4' a5' r4' r5' hk hls he hcat
     have HBX:=Lib.hid (show But No w ((wr.alloc (.cells #[.int .i64 xk,.int .i64 xs,.string xn,.string xt,.slice A4 xa.length c4,.slice A5 kids.len c5] 56)).alloc (.cells #[.int .i64 yk,.int .i64 ys,.string yn,.string yt,.slice A4' ya.length c4',.slice A5' ykids.len c5'] 56)) from (((But.of_below (C:=No) HB.out).alloc _).alloc _))
     have hbw':b'<wr.heap.size:=Nat.lt_of_lt_of_le hb' HB.out.size
     have u0':=(((Below.refl wr.heap.size wr).alloc (Nat.le_refl _) (.cells #[.int .i64 xk,.int .i64 xs,.string xn,.string xt,.slice A4 xa.length c4,.slice A5 kids.len c5] 56)).cell (p:=⟨b',o'+k*6,none⟩) hbw').trans t0'
     have u1':=(((Below.refl wr.heap.size wr).alloc (Nat.le_refl _) (.cells #[.int .i64 xk,.int .i64 xs,.string xn,.string xt,.slice A4 xa.length c4,.slice A5 kids.len c5] 56)).cell (p:=⟨b',o'+k*6+1,none⟩) hbw').trans t1'
     have u2':=(((Below.refl wr.heap.size wr).alloc (Nat.le_refl _) (.cells #[.int .i64 xk,.int .i64 xs,.string xn,.string xt,.slice A4 xa.length c4,.slice A5 kids.len c5] 56)).cell (p:=⟨b',o'+k*6+2,none⟩) hbw').trans t2'
     have u3':=(((Below.refl wr.heap.size wr).alloc (Nat.le_refl _) (.cells #[.int .i64 xk,.int .i64 xs,.string xn,.string xt,.slice A4 xa.length c4,.slice A5 kids.len c5] 56)).cell (p:=⟨b',o'+k*6+3,none⟩) hbw').trans t3'
     have u4':=(((Below.refl wr.heap.size wr).alloc (Nat.le_refl _) (.cells #[.int .i64 xk,.int .i64 xs,.string xn,.string xt,.slice A4 xa.length c4,.slice A5 kids.len c5] 56)).cell (p:=⟨b',o'+k*6+4,none⟩) hbw').trans t4'
     have u5':=(((Below.refl wr.heap.size wr).alloc (Nat.le_refl _) (.cells #[.int .i64 xk,.int .i64 xs,.string xn,.string xt,.slice A4 xa.length c4,.slice A5 kids.len c5] 56)).cell (p:=⟨b',o'+k*6+5,none⟩) hbw').trans t5'
     by_cases h1:xk=yk
     ·subst h1
      by_cases h2:xs=ys
      ·subst h2
       cases h3:xn.toList==yn.toList with
       | true=>
        cases h4:xt.toList==yt.toList with
        | true=>
         cases h5:alEq xa ya with
         | true=>
          have HA5:=Lib.hid h5
          cases hq:foEq kids ykids with
          | true=>
           have HX:=Lib.hid (show nodeEq xk xs xn xt xa kids xk xs yn yt ya ykids=true by simp[nodeEq,h3,h4,h5,hq])
           have HQ:=Lib.hid hq
           clear hq h5
           go_wp2_with (first | (go_at_call 63;refine (l03SameAttrs_any xa ya _ A4 A4' c4 c4' b4 b4' o4 o4' lo hi lo' hi' R4.out.1 R4.out.2 (Nat.le_trans hh HBX.out.size) (Nat.le_trans hh' HBX.out.size) (H4.out.1.but R4.out.1 HBX.out hh (fun _ h=>h.elim)) (H4.out.2.but R4.out.2 HBX.out hh' (fun _ h=>h.elim))).mono ?_;rintro e w1 ⟨rfl,hB1⟩;rw[HA5.out];simp only[World.size_alloc]at hB1;obtain ⟨L1,L2,B3⟩:=two_lay hB1;have q5:=L1.1 5;have q5':=L2.1 5;have KB:=Lib.hid (HB.out.trans (B3.mono HB.out.size));simp at q5 q5';clear L1 L2 B3 hB1) | (go_at_call 38;refine (HI.out kids (by have:=HND.out;simp[Fo.nodes]at this;omega) ykids _ A5 A5' c5 c5' b5 b5' o5 o5' lo hi lo' hi' R5.out.1 R5.out.2 (Nat.le_trans hh KB.out.size) (Nat.le_trans hh' KB.out.size) (H5.out.1.but R5.out.1 (But.of_below (C:=No) KB.out) hh (fun _ h=>h.elim)) (H5.out.2.but R5.out.2 (But.of_below (C:=No) KB.out) hh' (fun _ h=>h.elim))).mono ?_;rintro e w2 ⟨rfl,hB2⟩;rw[HQ.out];have KB2:=Lib.hid (KB.out.trans (hB2.mono KB.out.size));clear hB2))
           go_roundw
           case rel=>exact ⟨k+1,r,s,by go_num,by have:=HK.out;simp[Fo.len]at this;omega,Lib.hid ⟨by rw[show o+(k+1)*6=o+k*6+6 by omega];exact HR.out.1,by rw[show o'+(k+1)*6=o'+k*6+6 by omega];exact HR.out.2,by have:=HE.out.1;simpa[Fo.len]using this,by rw[HE.out.2,HC.out,HX.out];rfl,KB2.out,by have:=HND.out;simp[Fo.nodes]at this;omega⟩⟩
           case measure=>simp[intOf];omega
          | false=>
           have HX:=Lib.hid (show nodeEq xk xs xn xt xa kids xk xs yn yt ya ykids=false by simp[nodeEq,hq])
           have HQ:=Lib.hid hq
           clear hq h5
           go_wp2_with (first | (go_at_call 63;refine (l03SameAttrs_any xa ya _ A4 A4' c4 c4' b4 b4' o4 o4' lo hi lo' hi' R4.out.1 R4.out.2 (Nat.le_trans hh HBX.out.size) (Nat.le_trans hh' HBX.out.size) (H4.out.1.but R4.out.1 HBX.out hh (fun _ h=>h.elim)) (H4.out.2.but R4.out.2 HBX.out hh' (fun _ h=>h.elim))).mono ?_;rintro e w1 ⟨rfl,hB1⟩;rw[HA5.out];simp only[World.size_alloc]at hB1;obtain ⟨L1,L2,B3⟩:=two_lay hB1;have q5:=L1.1 5;have q5':=L2.1 5;have KB:=Lib.hid (HB.out.trans (B3.mono HB.out.size));simp at q5 q5';clear L1 L2 B3 hB1) | (go_at_call 38;refine (HI.out kids (by have:=HND.out;simp[Fo.nodes]at this;omega) ykids _ A5 A5' c5 c5' b5 b5' o5 o5' lo hi lo' hi' R5.out.1 R5.out.2 (Nat.le_trans hh KB.out.size) (Nat.le_trans hh' KB.out.size) (H5.out.1.but R5.out.1 (But.of_below (C:=No) KB.out) hh (fun _ h=>h.elim)) (H5.out.2.but R5.out.2 (But.of_below (C:=No) KB.out) hh' (fun _ h=>h.elim))).mono ?_;rintro e w2 ⟨rfl,hB2⟩;rw[HQ.out];have KB2:=Lib.hid (KB.out.trans (hB2.mono KB.out.size));clear hB2))
           go_ret
           exact ⟨by rw[HE.out.2,HC.out,HX.out];rfl,KB2.out⟩
         | false=>
          have HA5:=Lib.hid h5
          have HX:=Lib.hid (show nodeEq xk xs xn xt xa kids xk xs yn yt ya ykids=false by simp[nodeEq,h5])
          clear h5
          go_wp2_with (go_at_call 63;refine (l03SameAttrs_any xa ya _ A4 A4' c4 c4' b4 b4' o4 o4' lo hi lo' hi' R4.out.1 R4.out.2 (Nat.le_trans hh HBX.out.size) (Nat.le_trans hh' HBX.out.size) (H4.out.1.but R4.out.1 HBX.out hh (fun _ h=>h.elim)) (H4.out.2.but R4.out.2 HBX.out hh' (fun _ h=>h.elim))).mono ?_;rintro e w1 ⟨rfl,hB1⟩;rw[HA5.out];simp only[World.size_alloc]at hB1;obtain ⟨L1,L2,B3⟩:=two_lay hB1;have q5:=L1.1 5;have q5':=L2.1 5;have KB:=Lib.hid (HB.out.trans (B3.mono HB.out.size));simp at q5 q5';clear L1 L2 B3 hB1)
          go_ret
          exact ⟨by rw[HE.out.2,HC.out,HX.out];rfl,KB.out⟩
        | false=>
         have HX:=Lib.hid (show nodeEq xk xs xn xt xa kids xk xs yn yt ya ykids=false by simp[nodeEq,h4])
         go_wp2
         go_ret
         exact ⟨by rw[HE.out.2,HC.out,HX.out];rfl,((HB.out.alloc HB.out.size _).alloc (Nat.le_trans HB.out.size (by simp)) _)⟩
       | false=>
        have HX:=Lib.hid (show nodeEq xk xs xn xt xa kids xk xs yn yt ya ykids=false by simp[nodeEq,h3])
        go_wp2
        go_ret
        exact ⟨by rw[HE.out.2,HC.out,HX.out];rfl,((HB.out.alloc HB.out.size _).alloc (Nat.le_trans HB.out.size (by simp)) _)⟩
      ·have h2':(xs != ys)=true:=by simpa using h2
       have HX:=Lib.hid (show nodeEq xk xs xn xt xa kids xk ys yn yt ya ykids=false by simp[nodeEq,h2])
       clear h2
       go_wp2
       go_ret
       exact ⟨by rw[HE.out.2,HC.out,HX.out];rfl,((HB.out.alloc HB.out.size _).alloc (Nat.le_trans HB.out.size (by simp)) _)⟩
     ·have h1':(xk != yk)=true:=by simpa using h1
      have HX:=Lib.hid (show nodeEq xk xs xn xt xa kids yk ys yn yt ya ykids=false by simp[nodeEq,h1])
      clear h1
      go_wp2
      go_ret
      exact ⟨by rw[HE.out.2,HC.out,HX.out];rfl,((HB.out.alloc HB.out.size _).alloc (Nat.le_trans HB.out.size (by simp)) _)⟩
 ·have HL:=Lib.hid hl
  have hl2:((F.len:Int) != (G.len:Int))=true:=by simp;omega
  clear hl
  go_enter Tryz.func38,Tryz.ntmps38
  go_wp2
  go_ret
  exact ⟨by rw[foEq_len HL.out];rfl,Below.refl _ _⟩
theorem l03Same_any (F:Fo):SameOK F:=l03Same_lt (F.nodes+1) F (Nat.lt_succ_self _)
end Go.Proofs.YthdkkpbhijlpaaaGreatDoor
namespace Go.Proofs.YthdkkpbhijlpaaaGreatDoor
open Go.ChangeShapes Go.WideShapes Go.ChangeAt Go.RowKit Go.Deep
noncomputable def sameB (F G:Fo):Bool:=goodB F&&foEq F G
theorem same_good {F G:Fo} (h:goodB F=false):sameB F G=false:=by rw[sameB,h];rfl
theorem same_yes {F G:Fo} (h:goodB F=true):sameB F G=foEq F G:=by rw[sameB,h];rfl
theorem implSameTree_any (F G:Fo) (w:World) (A A':Option Addr) (c c' b b' o o' lo hi lo' hi':Nat) (hd:F.nodes≤1048576) (_:G.nodes≤1048576) (hh:hi≤w.heap.size) (hh':hi'≤w.heap.size) (hA:RowAt lo hi A F.len b o) (hA':RowAt lo' hi' A' G.len b' o') (hF:FoAt w lo hi b o F) (hG:FoAt w lo' hi' b' o' G):
 Calls Tryz.prog 39 #[.slice A F.len c,.slice A' G.len c'] w fun e w'=>e=.returned (.bool (sameB F G))∧Below w.heap.size w w':=by
 have HA:=Lib.hid hA
 have HF:=Lib.hid hF
 have HA':=Lib.hid hA'
 have HG:=Lib.hid hG
 clear hA hF hA' hG
 cases hk:goodB F with
 | true=>
  have HE:=Lib.hid (same_yes (G:=G) hk)
  have HK:=Lib.hid hk
  clear hk
  go_enter Tryz.func39,Tryz.ntmps39
  go_wp2_with (first | (go_at_call 56;refine (implTreeOK_any F _ A c b o lo hi hd hh HA.out HF.out).mono ?_;rintro e w1 ⟨rfl,hB⟩;rw[HK.out];have B1:=Lib.hid hB;clear hB) | (go_at_call 64;refine (equalFunc_any F G _ A A' c c' b b' o o' lo hi lo' hi' HA.out HA'.out (Nat.le_trans hh B1.out.size) (Nat.le_trans hh' B1.out.size) (HF.out.but HA.out (But.of_below (C:=No) B1.out) hh (fun _ h=>h.elim)) (HG.out.but HA'.out (But.of_below (C:=No) B1.out) hh' (fun _ h=>h.elim))).mono ?_;rintro e w2 ⟨rfl,hB⟩;have B2:=Lib.hid (B1.out.trans (hB.mono B1.out.size));clear hB))
  go_ret
  exact ⟨by rw[HE.out];rfl,B2.out⟩
 | false=>
  have HE:=Lib.hid (same_good (G:=G) hk)
  have HK:=Lib.hid hk
  clear hk
  go_enter Tryz.func39,Tryz.ntmps39
  go_wp2_with (go_at_call 56;refine (implTreeOK_any F _ A c b o lo hi hd hh HA.out HF.out).mono ?_;rintro e w1 ⟨rfl,hB⟩;rw[HK.out];have B1:=Lib.hid hB;clear hB)
  go_ret
  exact ⟨by rw[HE.out];rfl,B1.out⟩
end Go.Proofs.YthdkkpbhijlpaaaGreatDoor
namespace Go.Proofs.YthdkkpbhijlpaaaGreatDoor
open Go.ChangeShapes Go.WideShapes Go.ChangeAt Go.RowKit Go.Deep
theorem foEq_comm (F G:Fo):foEq F G=foEq G F:=by
 rw[Bool.eq_iff_iff,foEq_iff,foEq_iff]
 exact eq_comm
noncomputable def stbB (F:Fo):Bool:=if faultOf F=0 then (if (againOf F).2=0 then foEq (againOf F).1 F else false) else false
noncomputable def stbC (F:Fo):Int:=if faultOf F=0 then (againOf F).2 else faultOf F
set_option maxHeartbeats 2000000 in
theorem specStable_any (F:Fo) (w:World) (A:Option Addr) (c b o lo hi:Nat) (hd:F.nodes≤1048576) (hh:hi≤w.heap.size) (hA:RowAt lo hi A F.len b o) (hF:FoAt w lo hi b o F):
 Calls Tryz.prog 16 #[.slice A F.len c] w fun e w'=>e=.returned (.tuple #[.bool (stbB F),.int .i64 (stbC F)])∧Below w.heap.size w w':=by
 have HA:=Lib.hid hA
 have HF:=Lib.hid hF
 clear hA hF
 by_cases hl:F.len≤4096
 ·by_cases hk:faultOf F=0
  ·have HK:=Lib.hid hk
   have HAG:=Lib.hid (fun W h1 h2=>l06Again_any F (good_of hk) W A c b o lo hi h1 HA.out h2)
   have HLEN:Hid ((againOf F).1.len≤maxLen):=Lib.hid (by have:=Fo.len_cnt (againOf F).1;have:(againOf F).1.cnt≤960:=bOf_cn _;unfold maxLen;omega)
   have E1:Hid (stbB F=(if (againOf F).2=0 then foEq (againOf F).1 F else false)):=Lib.hid (by unfold stbB;rw[if_pos hk])
   have E2:Hid (stbC F=(againOf F).2):=Lib.hid (by unfold stbC;rw[if_pos hk])
   clear hk
   generalize againOf F=R at HAG HLEN E1 E2
   obtain ⟨R1,R2⟩:=R
   simp only at HLEN E1 E2
   by_cases hR:R2=0
   ·subst hR
    go_enter Tryz.func16,Tryz.ntmps16
    go_wp2_with (first
     | (go_at_call 24;refine (l03Ask_any F _ A c b o lo hi hd hh HA.out HF.out).mono ?_;rintro e w1 ⟨rfl,hB⟩;rw[HK.out];have B1:=Lib.hid hB;clear hB)
     | (go_at_call 25;refine (HAG.out _ (Nat.le_trans hh B1.out.size) (FoAt.below HA.out HF.out B1.out hh)).mono ?_;rintro e w2 ⟨v,bl,rfl,hG,hB⟩;obtain ⟨A4,c4,bs4,rfl,hK⟩:=KR.of hG HLEN.out;obtain ⟨b4,k1,k2⟩:=hK.read;have HO:=Lib.hid (And.intro k1 (And.intro k2 (B1.out.trans (hB.mono B1.out.size))));clear hG hB hK k1 k2)
     | (go_at_call 38;refine (l03Same_any R1 F _ A4 A c4 c b4 b 0 o _ _ lo hi HO.out.1 HA.out (Nat.le_refl _) (Nat.le_trans hh HO.out.2.2.size) HO.out.2.1 (FoAt.below HA.out HF.out HO.out.2.2 hh)).mono ?_;rintro e w3 ⟨rfl,hB⟩;have B3:=Lib.hid (HO.out.2.2.trans (hB.mono HO.out.2.2.size));clear hB))
    go_ret2
    exact ⟨by rw[E1.out,E2.out];rfl,B3.out⟩
   ·have g1:(R2==0)=false:=by simpa using hR
    go_enter Tryz.func16,Tryz.ntmps16
    go_wp2_with (first
     | (go_at_call 24;refine (l03Ask_any F _ A c b o lo hi hd hh HA.out HF.out).mono ?_;rintro e w1 ⟨rfl,hB⟩;rw[HK.out];have B1:=Lib.hid hB;clear hB)
     | (go_at_call 25;refine (HAG.out _ (Nat.le_trans hh B1.out.size) (FoAt.below HA.out HF.out B1.out hh)).mono ?_;rintro e w2 ⟨v,bl,rfl,hG,hB⟩;have HO:=Lib.hid (B1.out.trans (hB.mono B1.out.size));clear hG hB))
    go_ret2
    exact ⟨by rw[E1.out,E2.out,if_neg hR];rfl,HO.out⟩
  ·have E1:Hid (stbB F=false):=Lib.hid (by unfold stbB;rw[if_neg hk])
   have E2:Hid (stbC F=faultOf F):=Lib.hid (by unfold stbC;rw[if_neg hk])
   have hk':(faultOf F != 0)=true:=by simpa using hk
   clear hk
   go_enter Tryz.func16,Tryz.ntmps16
   go_wp2_with (go_at_call 24;refine (l03Ask_any F _ A c b o lo hi hd hh HA.out HF.out).mono ?_;rintro e w1 ⟨rfl,hB⟩;have B1:=Lib.hid hB;clear hB)
   go_ret2
   exact ⟨by rw[E1.out,E2.out];rfl,B1.out⟩
 ·have hl':(F.len:Int)>4096:=by omega
  have E1:Hid (stbB F=false):=Lib.hid (by unfold stbB;rw[if_neg (by rw[fault_long hl];decide)])
  have E2:Hid (stbC F=2):=Lib.hid (by unfold stbC;rw[if_neg (by rw[fault_long hl];decide),fault_long hl])
  go_enter Tryz.func16,Tryz.ntmps16
  go_wp2
  go_ret2
  exact ⟨by rw[E1.out,E2.out];rfl,Below.refl _ _⟩
set_option maxHeartbeats 2000000 in
theorem implStable_any (F:Fo) (w:World) (hE:Env2 w) (A:Option Addr) (c b o lo hi:Nat) (hd:F.nodes≤1048576) (hh:hi≤w.heap.size) (hA:RowAt lo hi A F.len b o) (hF:FoAt w lo hi b o F):
 Calls Tryz.prog 17 #[.slice A F.len c] w fun e w'=>e=.returned (.tuple #[.bool (stbB F),.int .i64 (stbC F)])∧Below w.heap.size w w':=by
 have HA:=Lib.hid hA
 have HF:=Lib.hid hF
 have HR:=Lib.hid (implReparse_any F w hE A c b o lo hi hd hh hA hF)
 have HGD:Hid (Good (outR F).1):=by
  refine Lib.hid ?_
  unfold outR
  split
  ·exact bOf_good _
  ·exact ⟨by simp[Fo.nodes],by simp[Fo.deep],trivial⟩
 have HLEN:Hid ((outR F).1.len≤maxLen):=Lib.hid (by have:=Fo.len_cnt (outR F).1;have:=outR_cn F;unfold maxLen;omega)
 have E2:Hid (stbC F=(outR F).2):=Lib.hid (by unfold stbC outR;split <;> rfl)
 have E1:Hid (stbB F=(if (outR F).2=0 then sameB F (outR F).1 else false)):=by
  refine Lib.hid ?_
  unfold stbB outR sameB
  split
  ·rename_i hk
   rw[goodB_true (good_of hk),Bool.true_and,foEq_comm]
  ·first | rfl | (rename_i hk;rw[if_neg hk])
 clear hA hF hE
 generalize outR F=R at HR HGD HLEN E1 E2
 obtain ⟨R1,R2⟩:=R
 simp only at HGD HLEN E1 E2
 by_cases hR:R2=0
 ·subst hR
  go_enter Tryz.func17,Tryz.ntmps17
  go_wp2_with (first
   | (go_at_call 10;refine HR.out.mono ?_;rintro e w2 ⟨v,bl,rfl,hG,hB⟩;obtain ⟨A4,c4,bs4,rfl,hK⟩:=KR.of hG HLEN.out;obtain ⟨b4,k1,k2⟩:=hK.read;have HO:=Lib.hid (And.intro k1 (And.intro k2 hB));clear hG hB hK k1 k2)
   | (go_at_call 39;refine (implSameTree_any F R1 _ A A4 c c4 b b4 o 0 lo hi _ _ hd (by have:=HGD.out.1;omega) (Nat.le_trans hh HO.out.2.2.size) (Nat.le_refl _) HA.out HO.out.1 (FoAt.below HA.out HF.out HO.out.2.2 hh) HO.out.2.1).mono ?_;rintro e w3 ⟨rfl,hB⟩;have B3:=Lib.hid (HO.out.2.2.trans (hB.mono HO.out.2.2.size));clear hB))
  go_ret2
  exact ⟨by rw[E1.out,E2.out];rfl,B3.out⟩
 ·have g1:(R2 != 0)=true:=by simpa using hR
  go_enter Tryz.func17,Tryz.ntmps17
  go_wp2_with (go_at_call 10;refine HR.out.mono ?_;rintro e w2 ⟨v,bl,rfl,hG,hB⟩;have HO:=Lib.hid hB;clear hG hB)
  go_ret2
  exact ⟨by rw[E1.out,E2.out,if_neg hR];rfl,HO.out⟩
end Go.Proofs.YthdkkpbhijlpaaaGreatDoor
namespace Go.Proofs.YthdkkpbhijlpaaaGreatDoor
open Go.ChangeShapes Go.WideShapes Go.ChangeAt Go.RowKit Go.Deep
set_option maxHeartbeats 1000000 in
theorem lawStable_walk (F:Fo) (w:World) (A:Option Addr) (c b o hi:Nat) (h:CameIn w A b o hi F) (hE:Env2 w):
 Calls Tryz.prog 5 #[.slice A F.len c] w fun e w'=>e=.returned (.bool true)∧Below w.heap.size w w':=by
 have hml:=h.1.1
 have hsz:=szNodeS_any F 1048576 w A c b o hi (by omega) h.1 h.2.1 h.2.2
 have H:=Lib.hid h
 have HL:=Lib.hid hml
 have HV:=Lib.hid hE
 clear h hml hE
 by_cases hs:F.len+F.size≤1048576
 ·have HS:=Lib.hid hs
  have HN:=Lib.hid (Nat.le_trans (Fo.nodes_le F) hs)
  have HE:=Lib.hid (left_le hs)
  have hnn:0≤((1048576:Nat):Int)-((F.len+F.size:Nat):Int):=by omega
  clear hs
  go_enter Tryz.func5,Tryz.ntmps5
  go_wp2_with (go_at_call 7;refine hsz.mono ?_;rintro e w1 ⟨rfl,hB1⟩;rw[HE.out];have B1:=Lib.hid hB1;clear hB1 hsz)
  refine (copy_any F _ A c b o hi HS.out (H.out.next B1.out)).mono ?_
  rintro e w2 ⟨rfl,hB2,hM2⟩
  have B2:=Lib.hid hB2
  have M2:=Lib.hid hM2
  clear hB2 hM2
  go_wp2_with fail
  refine (specStable_any F _ _ _ _ _ _ _ HN.out M2.out.1 (M2.out.row HL.out) M2.out.2.2).mono ?_
  rintro e w3 ⟨rfl,hB3⟩
  have B3:=Lib.hid (B1.out.trans (B2.out.mono B1.out.size) |>.trans (hB3.mono (Nat.le_trans B1.out.size B2.out.size)))
  clear hB3
  go_wp2_with fail
  refine (copy_any F _ A c b o hi HS.out (H.out.next B3.out)).mono ?_
  rintro e w4 ⟨rfl,hB4,hM4⟩
  have B4:=Lib.hid (B3.out.trans (hB4.mono B3.out.size))
  have M4:=Lib.hid hM4
  clear hB4 hM4
  go_wp2_with fail
  refine (implStable_any F _ (HV.out.below B4.out) _ _ _ _ _ _ HN.out M4.out.1 (M4.out.row HL.out) M4.out.2.2).mono ?_
  rintro e w5 ⟨rfl,hB5⟩
  have B5:=Lib.hid (B4.out.trans (hB5.mono B4.out.size))
  have M5:=Lib.hid (M4.out.next hB5)
  clear hB5
  go_wp2_with fail
  refine (copy_any F _ A c b o hi HS.out (H.out.next B5.out)).mono ?_
  rintro e w6 ⟨rfl,hB6,hM6⟩
  have B6:=Lib.hid (B5.out.trans (hB6.mono B5.out.size))
  have M6:=Lib.hid hM6
  have M5':=Lib.hid (M5.out.next hB6)
  clear hB6 hM6
  go_wp2_with fail
  refine (alike_any F _ _ _ _ _ _ _ HL.out M5'.out M6.out).mono ?_
  rintro e w7 ⟨rfl,hB7⟩
  have B7:=Lib.hid (B6.out.trans (hB7.mono B6.out.size))
  clear hB7
  go_wp2
  go_ret
  exact ⟨rfl,B7.out⟩
 ·have HE:=Lib.hid (left_gt hs)
  clear hs
  go_enter Tryz.func5,Tryz.ntmps5
  go_wp2_with (go_at_call 7;refine hsz.mono ?_;rintro e w1 ⟨rfl,hB1⟩;rw[HE.out];have B1:=Lib.hid hB1;clear hB1 hsz)
  go_ret
  exact ⟨rfl,B1.out⟩
end Go.Proofs.YthdkkpbhijlpaaaGreatDoor
