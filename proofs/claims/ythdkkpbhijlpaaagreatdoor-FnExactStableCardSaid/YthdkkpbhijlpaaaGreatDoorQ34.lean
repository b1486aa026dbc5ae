import Derived.Deep.RegionHeld3
import Derived.Test.YthdkkpbhijlpaaaGreatDoorQ28
import Derived.Test.YthdkkpbhijlpaaaGreatDoorQ33
import Derived.Test.YthdkkpbhijlpaaaGreatDoorQ30
import Derived.Test.YthdkkpbhijlpaaaGreatDoorQ10
import Derived.Test.YthdkkpbhijlpaaaGreatDoorQ08
import Derived.Test.YthdkkpbhijlpaaaGreatDoorQ17
set_option linter.unusedVariables false
namespace Go.Proofs.YthdkkpbhijlpaaaGreatDoor
open Go.ChangeShapes Go.WideShapes Go.ChangeAt Go.RowKit Go.Deep
theorem run_on {s:ByteArray} {a:Nat} {z y:Zi} (hlt:a<s.size) (ht:z.take (nextOf s a z.raw)=.ok y):(runZ s (s.size-(a+(nextOf s a z.raw).l)) (a+(nextOf s a z.raw).l) y).fin=(runZ s (s.size-a) a z).fin:=by
 have hnl:=nextOf_len (raw:=z.raw) hlt
 rw[show s.size-a=(s.size-a-1)+1 by omega,runZ_ok hlt ht,runZ_fuel s (s.size-(a+(nextOf s a z.raw).l)) (s.size-a-1) _ y (by omega) (by omega)]
theorem run_off {s:ByteArray} {a:Nat} {z:Zi} {c:Int} (hlt:a<s.size) (ht:z.take (nextOf s a z.raw)=.bad c):(runZ s (s.size-a) a z).fin=(.nil,c):=by
 rw[show s.size-a=(s.size-a-1)+1 by omega,runZ_bad hlt ht]
 rfl
def SpRel (s:ByteArray) (w:World) (bb a:Nat) (wr:World):Prop:=
 (∃z sv nv nvs bl,BS wr w.heap.size bb z sv nv nvs bl∧Below w.heap.size w wr∧(runZ s (s.size-a) a z).fin=builtOf s) ∨
 (∃c:Int,c≠0∧wr.cell? ⟨bb,3,none⟩=some (.int .i64 c)∧Below w.heap.size w wr∧builtOf s=(.nil,c))
theorem SpRel.out {s:ByteArray} {w W w':World} {bb a:Nat} {z:Zi} {sv nv:Value} {nvs:List Value} {bl ex:List Nat} {e:Ending} (hlt:a<s.size) (hrun:(runZ s (s.size-a) a z).fin=builtOf s) (hS:BS W w.heap.size bb z sv nv nvs bl) (hB:Below w.heap.size w W)
 (hO:OutS w.heap.size bb (FpS bb sv nv bl) ex (z.take (nextOf s a z.raw)) W e w'):SpRel s w bb (a+(nextOf s a z.raw).l) w':=by
 cases hR:z.take (nextOf s a z.raw) with
 | bad c=>
  rw[hR]at hO
  exact Or.inr ⟨c,take_bad_ne hR,hO.2.1,hB.trans hO.2.2,by rw[←hrun,run_off hlt hR]⟩
 | ok y=>
  rw[hR]at hO
  obtain ⟨_,hb,sv',nv',nvs',bl',hS',_⟩:=hO
  exact Or.inl ⟨y,sv',nv',nvs',bl',hS',hB.trans (hb.below (fun q hq=>(hS.lt q hq).1) hB.size),by rw[run_on hlt hR,hrun]⟩
theorem SpRel.pop {s:ByteArray} {w W w':World} {bb a:Nat} {z y:Zi} {sv nv:Value} {nvs:List Value} {bl:List Nat} (hrun:(runZ s (s.size-a) a y).fin=builtOf s) (hS:BS W w.heap.size bb z sv nv nvs bl) (hB:Below w.heap.size w W)
 (hO:BSOut w.heap.size bb (FpS bb sv nv bl) W y w'):SpRel s w bb a w':=by
 obtain ⟨hb,sv',nv',nvs',bl',hS',_⟩:=hO
 exact Or.inl ⟨y,sv',nv',nvs',bl',hS',hB.trans (hb.below (fun q hq=>(hS.lt q hq).1) hB.size),hrun⟩
theorem BS.start {W:World} {B bb gn:Nat} (hl:Lay W bb #[.slice none 0 0,.slice (some ⟨gn,0,none⟩) 1 1,.int .i64 0,.int .i64 0]) (hn:W.ownsRow B 56 6 (.slice (some ⟨gn,0,none⟩) 1 1) 1 [.int .i64 0,.int .i64 0,.string ⟨#[]⟩,.string ⟨#[]⟩,.slice none 0 0,.slice none 0 0]) (hb:B≤bb) (hne:gn≠bb):
 BS W B bb ⟨.nil,[],0⟩ (.slice none 0 0) (.slice (some ⟨gn,0,none⟩) 1 1) [.int .i64 0,.int .i64 0,.string ⟨#[]⟩,.string ⟨#[]⟩,.slice none 0 0,.slice none 0 0] [] where
 nod:=⟨_,[],rfl,GRow.nil _ _,by simp[ownL,Value.ownBlock]⟩
 nd:=List.nodup_nil
 nrow:=hn
 srow:=World.ownsRow_nil _ _ _ _
 dn:=by
  intro k hk
  have:k=gn:=by have:=mem_ownL.1 hk;injection this with this;exact this.symm
  subst this
  exact ⟨by simp,hne,by simp[ownL,Value.ownBlock]⟩
 ds:=by intro k hk;simp[ownL,Value.ownBlock]at hk
 db:=by simp
 lay:=hl
 le:=hb
 fit:=⟨by simp[cntZ,Fo.len],by simp,by simp,fun x hx=>by simp[Fo.last]at hx⟩
theorem BS.code {w:World} {B bb:Nat} {z:Zi} {sv nv:Value} {nvs:List Value} {bl:List Nat} (h:BS w B bb z sv nv nvs bl):w.cell? ⟨bb,3,none⟩=some (.int .i64 0):=h.lay.1 3
theorem BS.slice0 {w:World} {B bb:Nat} {z:Zi} {sv nv:Value} {nvs:List Value} {bl:List Nat} (h:BS w B bb z sv nv nvs bl):∃A c,sv=.slice A z.up.length c:=by
 obtain ⟨A,c,b,e,_⟩:=h.os
 rw[opensOf_len]at e
 exact ⟨A,c,e⟩
theorem BSOut.refl {B bb:Nat} {w w':World} {z:Zi} {sv nv:Value} {nvs:List Value} {bl:List Nat} (h:BS w B bb z sv nv nvs bl) (hB:Below w.heap.size w w'):BSOut B bb (FpS bb sv nv bl) w z w':=
 ⟨But.of_below hB,sv,nv,nvs,bl,h.next hB,fun _ hq=>Or.inl hq⟩
set_option maxHeartbeats 16000000 in
set_option maxRecDepth 100000 in
theorem l05Build_any (s:ByteArray) (w:World) (hs:s.size≤4096):
 Calls Tryz.prog 43 #[.string s] w (BuiltOut (builtOf s) w):=by
 have H0:Hid (SpRel s w (w.heap.size+1) 0 ((w.alloc (.cells #[.int .i64 0,.int .i64 0,.string ⟨#[]⟩,.string ⟨#[]⟩,.slice none 0 0,.slice none 0 0] 56)).alloc (.cells #[.slice none 0 0,.slice (some ⟨w.heap.size,0,none⟩) 1 1,.int .i64 0,.int .i64 0] 108))):=by
  have hn:=World.ownsRow_lit (e:=56) (size:=6) w #[.int .i64 0,.int .i64 0,.string ⟨#[]⟩,.string ⟨#[]⟩,.slice none 0 0,.slice none 0 0] 1 (Nat.le_refl w.heap.size) (by decide) rfl
  have hA:=(Below.refl (w.heap.size+1) (w.alloc (.cells #[.int .i64 0,.int .i64 0,.string ⟨#[]⟩,.string ⟨#[]⟩,.slice none 0 0,.slice none 0 0] 56))).alloc (by simp) (.cells #[.slice none 0 0,.slice (some ⟨w.heap.size,0,none⟩) 1 1,.int .i64 0,.int .i64 0] 108)
  have hl:=Lay.new (w.alloc (.cells #[.int .i64 0,.int .i64 0,.string ⟨#[]⟩,.string ⟨#[]⟩,.slice none 0 0,.slice none 0 0] 56)) #[.slice none 0 0,.slice (some ⟨w.heap.size,0,none⟩) 1 1,.int .i64 0,.int .i64 0] 108
  rw[show (w.alloc (.cells #[.int .i64 0,.int .i64 0,.string ⟨#[]⟩,.string ⟨#[]⟩,.slice none 0 0,.slice none 0 0] 56)).heap.size=w.heap.size+1 by simp]at hl
  refine Lib.hid (Or.inl ⟨⟨.nil,[],0⟩,_,_,_,_,BS.start hl (ownsRow_same hn fun k hk=>?_) (Nat.le_succ _) (by omega),?_,rfl⟩)
  ·injection hk with hk
   subst hk
   exact hA.block _ (Nat.lt_succ_self _)
  ·exact ((Below.refl w.heap.size w).alloc (Nat.le_refl _) _).alloc (by simp) _
 go_enter Tryz.func43,Tryz.ntmps43
 go_wp2
 go_loopw [5] (fun i wr=>∃(a:Nat),i=.int .i64 (a:Int)∧a≤s.size∧Hid (SpRel s w (w.heap.size+1) a wr)) (fun i wr=>s.size-(intOf i).toNat)
 case atStart=>exact ⟨0,rfl,Nat.zero_le _,H0⟩
 case round=>
  clear H0
  obtain ⟨a,rfl,ha,HH⟩:=hrel
  rcases HH.out with ⟨z,sv,nv,nvs,bl,hS,hB,hrun⟩ | ⟨c,hc,h3,hB,hbo⟩
  ·clear HH
   have p3:wr.cell? ⟨w.heap.size+1,3,none⟩=some (.int .i64 0):=hS.code
   have HS:=Lib.hid hS
   have HB:=Lib.hid hB
   have HRUN:=Lib.hid hrun
   clear hrun
   by_cases hlt:a<s.size
   ·have hnl:=nextOf_len (raw:=z.raw) hlt
    have hnn:=nextOf_name (s:=s) (raw:=z.raw) (a:=a)
    have hnt:=nextOf_text (s:=s) (raw:=z.raw) (a:=a)
    have HR:=Lib.hid (rawS_any w.heap.size (w.heap.size+1) z sv nv nvs bl wr hS)
    have hbb:=(hS.lt _ (Or.inl rfl)).2
    obtain ⟨A0,c0,hsv⟩:=hS.slice0
    have p0:wr.cell? ⟨w.heap.size+1,0,none⟩=some sv:=hS.lay.1 0
    rw[hsv]at p0
    have HSV:=Lib.hid hsv
    have HNX:=Lib.hid (fun W=>l04Next_any s z.raw a (by omega) hlt (by have:=rawIn_size (opensOf z.up);unfold Zi.raw;omega) W)
    have HRP:Hid (0<z.raw.size→(nextOf s a z.raw).k≠1→(runZ s (s.size-(a+(nextOf s a z.raw).l)) (a+(nextOf s a z.raw).l) (z.to (z.up.length-1))).fin=builtOf s):=Lib.hid fun h1 h2=>by rw[raw_pop h1 hlt h2,HRUN.out]
    have HRN:Hid (∀y,z.take (nextOf s a z.raw)=.ok y→(runZ s (s.size-(a+(nextOf s a z.raw).l)) (a+(nextOf s a z.raw).l) y).fin=builtOf s):=Lib.hid fun y hy=>by rw[run_on hlt hy,HRUN.out]
    have HSO:Hid (∀(ex:List Nat) (e:Ending) (W w':World),BS W w.heap.size (w.heap.size+1) z sv nv nvs bl→Below w.heap.size w W→OutS w.heap.size (w.heap.size+1) (FpS (w.heap.size+1) sv nv bl) ex (z.take (nextOf s a z.raw)) W e w'→SpRel s w (w.heap.size+1) (a+(nextOf s a z.raw).l) w'):=Lib.hid fun ex e W w' h1 h2 h3=>SpRel.out hlt HRUN.out h1 h2 h3
    have hro:=fun h:0<z.raw.size=>raw_open h
    have hm10:=hS.fit.2.2.1
    have HRO:=Lib.hid hro
    clear hro hS hB HRUN hsv
    generalize hT:nextOf s a z.raw=T at hnl hnn hnt HNX HRP HRN HSO
    clear hT
    obtain ⟨tk,ta,tl,tn,tt,tal,ts⟩:=T
    simp only at hnl hnn hnt HRP HRN HSO
    go_wp2_with (go_at_call 71;refine HR.out.mono ?_;rintro e w1 ⟨rfl,hB1⟩;have B1:=Lib.hid hB1;clear hB1)
    refine (HNX.out w1).mono ?_
    rintro e w2 ⟨⟨TA,tc,rfl,ba,ha1,ha2,ha3,ha4,ha5⟩,hB2⟩
    have B2:=Lib.hid (B1.out.trans (hB2.mono B1.out.size))
    have A3:=Lib.hid ((Below.refl w2.heap.size w2).alloc (Nat.le_refl _) (.cells #[.int .i64 tk,.int .i64 (ta:Int),.int .i64 (tl:Int),.string tn,.string tt,.slice TA tal.length tc,.bool ts] 88))
    have L3:=Lib.hid (Lay.new w2 #[.int .i64 tk,.int .i64 (ta:Int),.int .i64 (tl:Int),.string tn,.string tt,.slice TA tal.length tc,.bool ts] 88)
    have S3:=Lib.hid ((HS.out.next B2.out).next A3.out)
    have B3:=Lib.hid ((HB.out.trans (B2.out.mono HB.out.size)).trans (A3.out.mono (Nat.le_trans HB.out.size B2.out.size)))
    have hs12:=B1.out.size
    have hs2:=hB2.size
    have HAT:Hid ((tal.length≤tc∧tal.length≤maxLen∧AlRow (w2.alloc (.cells #[.int .i64 tk,.int .i64 (ta:Int),.int .i64 (tl:Int),.string tn,.string tt,.slice TA tal.length tc,.bool ts] 88)) TA tal ba)∧ba.Nodup∧∀q ∈ ba,w.heap.size≤q∧q<(w2.alloc (.cells #[.int .i64 tk,.int .i64 (ta:Int),.int .i64 (tl:Int),.string tn,.string tt,.slice TA tal.length tc,.bool ts] 88)).heap.size∧¬FpS (w.heap.size+1) sv nv bl q):=
     Lib.hid ⟨⟨ha1,ha2,ha3.same fun q hq=>A3.out.block q (ha5 q hq).2⟩,ha4,fun q hq=>⟨by have:=(ha5 q hq).1;have:=HB.out.size;omega,Nat.lt_of_lt_of_le (ha5 q hq).2 A3.out.size,fun h=>by have:=(HS.out.lt q h).2;have:=(ha5 q hq).1;omega⟩⟩
    have q0:(w2.alloc (.cells #[.int .i64 tk,.int .i64 (ta:Int),.int .i64 (tl:Int),.string tn,.string tt,.slice TA tal.length tc,.bool ts] 88)).cell? ⟨w.heap.size+1,0,none⟩=some (.slice A0 z.up.length c0):=(A3.out.cell (p:=⟨w.heap.size+1,0,none⟩) (by show w.heap.size+1<w2.heap.size;omega)).trans ((B2.out.cell (p:=⟨w.heap.size+1,0,none⟩) hbb).trans p0)
    clear hB2 ha1 ha2 ha3 ha4 ha5 HR HNX
    unfold Tk.val
    dsimp only
    obtain ⟨R,hR⟩:∃R,z.raw=R:=⟨_,rfl⟩
    rw[hR]at HRP HRO ⊢
    clear hR
    by_cases hA:0<R.size∧tk≠1
    ·obtain ⟨hr,hk⟩:=hA
     obtain ⟨hup,_,_⟩:=HRO.out hr
     have HP:=Lib.hid (HRP.out hr hk)
     have hl:R.toList.length=R.size:=by rw[ByteArray.toList_eq,Array.length_toList];rfl
     have hr1:¬R.toList=[]:=fun h=>by rw[h]at hl;simp only[List.length_nil]at hl;omega
     have hr2:R.toList.isEmpty=false:=by simpa using hr1
     have hk':(tk != 1)=true:=by simpa using hk
     obtain ⟨m,hm⟩:∃m,z.up.length=m+1:=⟨z.up.length-1,by omega⟩
     have HM:Hid (z.up.length-1=m∧m≤z.up.length):=Lib.hid ⟨by omega,by omega⟩
     rw[hm]at q0 hm10
     clear HRP HRN HSO HRO hl hm hup p0 hk
     go_wp2_with (go_at_call 73;refine (pop_any w.heap.size (w.heap.size+1) m z sv nv nvs bl _ S3.out HM.out.2).mono ?_;rintro e w4 ⟨rfl,hO⟩;have HO:=Lib.hid hO;clear hO)
     go_roundw
     case rel=>exact ⟨a+tl,by go_num,hnl.2,Lib.hid (SpRel.pop (by have:=HP.out;rw[HM.out.1]at this;exact this) S3.out B3.out HO.out)⟩
     case measure=>(simp[intOf] <;> omega)
    ·have hne:(R=⟨#[]⟩∨tk=1):=by
      by_cases hk:tk=1
      ·exact Or.inr hk
      ·refine Or.inl (ByteArray.ext (Array.eq_empty_of_size_eq_zero ?_))
       show R.size=0
       rcases Nat.eq_zero_or_pos R.size with h | h
       ·exact h
       ·exact absurd ⟨h,hk⟩ hA
     clear hA HRP HRO
     by_cases hk1:tk=1
     ·subst hk1
      have hkey:z.take ⟨1,ta,tl,tn,tt,tal,ts⟩=z.words tt:=by unfold Zi.take;rw[if_pos rfl]
      have HW:Hid (Calls Tryz.prog 74 #[.pointer (some ⟨w.heap.size+1,0,none⟩),.int .i64 2,.string tt] (w2.alloc (.cells #[.int .i64 1,.int .i64 (ta:Int),.int .i64 (tl:Int),.string tn,.string tt,.slice TA tal.length tc,.bool ts] 88)) fun e w'=>e=.returned (.tuple #[])∧SpRel s w (w.heap.size+1) (a+tl) w'):=
       Lib.hid ((words_any w.heap.size (w.heap.size+1) z sv nv nvs bl tt _ (by omega) S3.out).mono fun e w' hO=>⟨hO.ret.1,HSO.out [] e _ w' S3.out B3.out (by rw[hkey];exact hO)⟩)
      clear hkey HRN HSO HAT p0 HSV
      rcases Nat.eq_zero_or_pos R.size with hr | hr
      ·have hR0:R=⟨#[]⟩:=ByteArray.ext (Array.eq_empty_of_size_eq_zero hr)
       subst hR0
       clear hr hne
       go_wp2_with (go_at_call 74;refine HW.out.mono ?_;rintro e w4 ⟨rfl,hO⟩;have HO:=Lib.hid hO;clear hO)
       go_roundw
       case rel=>exact ⟨a+tl,by go_num,hnl.2,HO⟩
       case measure=>(simp[intOf] <;> omega)
      ·have hl:R.toList.length=R.size:=by rw[ByteArray.toList_eq,Array.length_toList];rfl
       have hr1:¬R.toList=[]:=fun h=>by rw[h]at hl;simp only[List.length_nil]at hl;omega
       have hr2:R.toList.isEmpty=false:=by simpa using hr1
       clear hl hne
       go_wp2_with (go_at_call 74;refine HW.out.mono ?_;rintro e w4 ⟨rfl,hO⟩;have HO:=Lib.hid hO;clear hO)
       go_roundw
       case rel=>exact ⟨a+tl,by go_num,hnl.2,HO⟩
       case measure=>(simp[intOf] <;> omega)
     ·obtain rfl:R=⟨#[]⟩:=hne.resolve_right hk1
      clear hne
      by_cases hk4:tk=4
      ·subst hk4
       have hkey:z.take ⟨4,ta,tl,tn,tt,tal,ts⟩=z.add 3 0 ⟨#[]⟩ tt []:=by simp[Zi.take]
       have HW:Hid (Calls Tryz.prog 74 #[.pointer (some ⟨w.heap.size+1,0,none⟩),.int .i64 3,.string tt] (w2.alloc (.cells #[.int .i64 4,.int .i64 (ta:Int),.int .i64 (tl:Int),.string tn,.string tt,.slice TA tal.length tc,.bool ts] 88)) fun e w'=>e=.returned (.tuple #[])∧SpRel s w (w.heap.size+1) (a+tl) w'):=
        Lib.hid ((words_new w.heap.size (w.heap.size+1) z sv nv nvs bl 3 tt _ (by unfold maxLen;omega) S3.out (Or.inl rfl)).mono fun e w' hO=>⟨hO.ret.1,HSO.out [] e _ w' S3.out B3.out (by rw[hkey];exact hO)⟩)
       clear hkey HRN HSO HAT p0 HSV hk1
       go_wp2_with (go_at_call 74;refine HW.out.mono ?_;rintro e w4 ⟨rfl,hO⟩;have HO:=Lib.hid hO;clear hO)
       go_roundw
       case rel=>exact ⟨a+tl,by go_num,hnl.2,HO⟩
       case measure=>(simp[intOf] <;> omega)
      ·by_cases hk2:tk=2
       ·subst hk2
        have hkey:z.take ⟨2,ta,tl,tn,tt,tal,ts⟩=z.begin ⟨2,ta,tl,tn,tt,tal,ts⟩:=by simp[Zi.take]
        have HW:Hid (Calls Tryz.prog 75 #[.pointer (some ⟨w.heap.size+1,0,none⟩),.agg #[.int .i64 2,.int .i64 (ta:Int),.int .i64 (tl:Int),.string tn,.string tt,.slice TA tal.length tc,.bool ts]] (w2.alloc (.cells #[.int .i64 2,.int .i64 (ta:Int),.int .i64 (tl:Int),.string tn,.string tt,.slice TA tal.length tc,.bool ts] 88)) fun e w'=>e=.returned (.tuple #[])∧SpRel s w (w.heap.size+1) (a+tl) w'):=
         Lib.hid ((open_any w.heap.size (w.heap.size+1) z sv nv nvs bl ⟨2,ta,tl,tn,tt,tal,ts⟩ ta TA tc _ S3.out ba (by unfold maxLen;simp only;omega) HAT.out.1 HAT.out.2.1 HAT.out.2.2).mono fun e w' hO=>⟨hO.ret.1,HSO.out ba e _ w' S3.out B3.out (by rw[hkey];exact hO)⟩)
        clear hkey HRN HSO HAT p0 HSV hk1 hk4
        go_wp2_with (go_at_call 75;refine HW.out.mono ?_;rintro e w4 ⟨rfl,hO⟩;have HO:=Lib.hid hO;clear hO)
        go_roundw
        case rel=>exact ⟨a+tl,by go_num,hnl.2,HO⟩
        case measure=>(simp[intOf] <;> omega)
       ·by_cases hk3:tk=3
        ·subst hk3
         have hkey:z.take ⟨3,ta,tl,tn,tt,tal,ts⟩=.ok (z.close tn):=by simp[Zi.take]
         have HRC:=Lib.hid (HRN.out _ hkey)
         obtain ⟨A1,c1,b1,e1,ho⟩:=S3.out.os
         rw[HSV.out,opensOf_len]at e1
         injection e1 with e1 e2 e3
         subst e1 e3
         have q3:(w2.alloc (.cells #[.int .i64 3,.int .i64 (ta:Int),.int .i64 (tl:Int),.string tn,.string tt,.slice TA tal.length tc,.bool ts] 88)).cell? ⟨w2.heap.size,3,none⟩=some (.string tn):=L3.out.1 3
         have hcl:∀W,Below (w2.alloc (.cells #[.int .i64 3,.int .i64 (ta:Int),.int .i64 (tl:Int),.string tn,.string tt,.slice TA tal.length tc,.bool ts] 88)).heap.size (w2.alloc (.cells #[.int .i64 3,.int .i64 (ta:Int),.int .i64 (tl:Int),.string tn,.string tt,.slice TA tal.length tc,.bool ts] 88)) W→Calls Tryz.prog 76 #[.slice A0 (opensOf z.up).length c0,.string tn] W fun e w'=>e=.returned (.int .i64 ((cutOf (nameIs tn) (opensOf z.up):Nat)-1))∧Below (w2.alloc (.cells #[.int .i64 3,.int .i64 (ta:Int),.int .i64 (tl:Int),.string tn,.string tt,.slice TA tal.length tc,.bool ts] 88)).heap.size (w2.alloc (.cells #[.int .i64 3,.int .i64 (ta:Int),.int .i64 (tl:Int),.string tn,.string tt,.slice TA tal.length tc,.bool ts] 88)) w':=fun W hW=>
          (l05Close_any (opensOf z.up) tn W A0 c0 b1 0 (ho.next hW)).mono fun e w' ⟨h1,h2⟩=>⟨h1,hW.trans (h2.mono hW.size)⟩
         have hle:cutOf (nameIs tn) (opensOf z.up)≤z.up.length:=by have:=cutOf_le (nameIs tn) (opensOf z.up);rwa[opensOf_len]at this
         unfold Zi.close at HRC
         rw[opensOf_len]at hcl
         generalize cutOf (nameIs tn) (opensOf z.up)=J at hcl hle HRC
         clear hkey HRN HSO HAT p0 HSV hk1 hk4 hk2 ho
         cases J with
         | zero=>
          have HRZ:=Lib.hid HRC.out
          rw[if_neg (Nat.lt_irrefl 0)]at HRZ
          have HCL:=Lib.hid (fun W hW=>(hcl W hW).mono fun e w' (h:_∧_)=>(⟨h.1.trans (by rfl),h.2⟩:e=.returned (.int .i64 (-1))∧_))
          clear hcl hle HRC hnn hnt
          go_wp2_with fail
          go_region_held3 (fun w'=>w'.cell? ⟨w.heap.size+1,0,none⟩=some (.slice A0 z.up.length c0)∧w'.cell? ⟨w2.heap.size,3,none⟩=some (.string tn)) (first | exact And.intro q0 q3 | exact And.intro y0 y3 | go_keep) (first | (go_at_call 76;refine (HCL.out _ (by first | exact Below.refl _ _ | exact (Below.refl _ _).drew)).mono ?_;rintro e w4 ⟨rfl,hO⟩;have y0:=(hO.cell (p:=⟨w.heap.size+1,0,none⟩) (by simp;omega)).trans q0;have y3:=(hO.cell (p:=⟨w2.heap.size,3,none⟩) (by simp)).trans q3;have HO:=Lib.hid hO;clear hO))
          go_wp2_with fail
          go_roundw
          case rel=>exact ⟨a+tl,by go_num,hnl.2,Lib.hid (SpRel.pop HRZ.out S3.out B3.out (BSOut.refl S3.out HO.out))⟩
          case measure=>(simp[intOf] <;> omega)
         | succ j=>
          have HRZ:=Lib.hid HRC.out
          rw[if_pos (Nat.succ_pos j),Nat.add_sub_cancel]at HRZ
          have HCL:=Lib.hid (fun W hW=>(hcl W hW).mono fun e w' (h:_∧_)=>(⟨h.1.trans (by rw[show ((j+1:Nat):Int)-1=(j:Int) by omega]),h.2⟩:e=.returned (.int .i64 (j:Int))∧_))
          clear hcl HRC
          go_wp2_with fail
          go_region_held3 (fun w'=>w'.cell? ⟨w.heap.size+1,0,none⟩=some (.slice A0 z.up.length c0)∧w'.cell? ⟨w2.heap.size,3,none⟩=some (.string tn)) (first | exact And.intro q0 q3 | exact And.intro y0 y3 | go_keep) (first | (go_at_call 76;refine (HCL.out _ (by first | exact Below.refl _ _ | exact (Below.refl _ _).drew)).mono ?_;rintro e w4 ⟨rfl,hO⟩;have y0:=(hO.cell (p:=⟨w.heap.size+1,0,none⟩) (by simp;omega)).trans q0;have y3:=(hO.cell (p:=⟨w2.heap.size,3,none⟩) (by simp)).trans q3;have HO:=Lib.hid hO;clear hO))
          have S4:=Lib.hid (S3.out.next HO.out)
          have B4:=Lib.hid (B3.out.trans (HO.out.mono B3.out.size))
          go_wp2_with (first
           | (go_at_call 73;refine (pop_any w.heap.size (w.heap.size+1) j z sv nv nvs bl _ S4.out (by omega)).mono ?_;rintro e w5 ⟨rfl,hO⟩;have HO:=Lib.hid hO;clear hO))
          go_roundw
          case rel=>exact ⟨a+tl,by go_num,hnl.2,Lib.hid (SpRel.pop HRZ.out S4.out B4.out HO.out)⟩
          case measure=>(simp[intOf] <;> omega)
        ·have hkey:z.take ⟨tk,ta,tl,tn,tt,tal,ts⟩=.ok z:=by unfold Zi.take;rw[if_neg hk1,if_neg hk4,if_neg hk2,if_neg hk3]
         have HRC:=Lib.hid (HRN.out _ hkey)
         have g1:(tk==1)=false:=by simpa using hk1
         have g2:(tk==2)=false:=by simpa using hk2
         have g3:(tk==3)=false:=by simpa using hk3
         have g4:(tk==4)=false:=by simpa using hk4
         clear hkey HRN HSO HAT p0 HSV
         go_wp2_with fail
         go_roundw
         case rel=>exact ⟨a+tl,by go_num,hnl.2,Lib.hid (SpRel.pop HRC.out S3.out B3.out (BSOut.refl S3.out (Below.refl _ _)))⟩
         case measure=>(simp[intOf] <;> omega)
   ·obtain rfl:a=s.size:=by omega
    have HF:Hid (builtOf s=(z.done,0)):=Lib.hid (by have:=HRUN.out;rw[Nat.sub_self,runZ_end s 0 _ z (Nat.le_refl _)]at this;exact this.symm)
    have hl0:=Zi.to_len z 0 (Nat.zero_le _)
    clear hS hB HRUN
    go_wp2_with (go_at_call 73;refine (pop_any w.heap.size (w.heap.size+1) 0 z sv nv nvs bl _ HS.out (Nat.zero_le _)).mono ?_;rintro e w2 ⟨rfl,hb2,sv2,nv2,nvs2,bl2,hS2,_⟩;obtain ⟨gn,cap,v,bF,rest,hnv,hcell,hG,_⟩:=hS2.kids;have q1:w2.cell? ⟨w.heap.size+1,1,none⟩=some nv2:=hS2.lay.1 1;rw[hnv,hl0]at q1;have q5:=hcell.1;rw[hl0]at q5;have HGR:=Lib.hid hG;have HB2:=Lib.hid (HB.out.trans (hb2.below (fun q hq=>(HS.out.lt q hq).1) HB.out.size));clear hb2 hS2 hcell hG hnv)
    go_ret2
    rw[HF.out]
    exact ⟨v,bF,rfl,HGR.out,HB2.out⟩
  ·have h0:(c==0)=false:=by simpa using hc
   have h1:(c != 0)=true:=by simpa using hc
   have HBO:=Lib.hid hbo
   have HB:=Lib.hid hB
   clear HH hbo hB hc
   by_cases hlt:a<s.size
   ·go_wp2
    go_region_held3 (fun w'=>w'.cell? ⟨w.heap.size+1,3,none⟩=some (.int .i64 c)) (first | exact h3 | go_keep) (fail)
    go_wp2
    go_ret2
    rw[HBO.out]
    exact ⟨_,[],rfl,GRow.lit HB.out.size,(HB.out.alloc HB.out.size _).drew⟩
   ·go_wp2
    go_region_held3 (fun w'=>w'.cell? ⟨w.heap.size+1,3,none⟩=some (.int .i64 c)) (first | exact h3 | go_keep) (fail)
    go_wp2
    go_ret2
    rw[HBO.out]
    exact ⟨_,[],rfl,GRow.lit HB.out.size,(HB.out.alloc HB.out.size _).drew⟩
end Go.Proofs.YthdkkpbhijlpaaaGreatDoor
namespace Go.Proofs.YthdkkpbhijlpaaaGreatDoor
open Go.ChangeShapes Go.WideShapes Go.ChangeAt Go.RowKit Go.Deep
theorem markText_at (n:Nat) (i:Int) (hi:i=(n:Int)) (h1:1≤n) (h2:n≤1073741824) (w:World):
 Calls Tryz.prog 29 #[.int .i64 i] w fun e w'=>e=.returned (.string (markT n))∧Below w.heap.size w w':=by
 subst hi
 exact markText_any n h1 h2 w
theorem heldAttrS_any (al:List (ByteArray × ByteArray)) (m:Nat) (w:World) (A:Option Addr) (c b o lo hi:Nat) (h1:1≤m) (h2:m+2*al.length≤1073741824) (hA:RowAt lo hi A al.length b o) (hh:hi≤w.heap.size) (hal:AsAt w b o (markAl al m)):
 Calls Tryz.prog 31 #[.slice A al.length c,.int .i64 (m:Int)] w fun e w'=>e=.returned (.int .i64 ((m+2*al.length:Nat):Int))∧Below w.heap.size w w':=by
 have hlen:=hA.1
 unfold maxLen at hlen
 have HA:=Lib.hid hA
 have HS:=Lib.hid hal
 clear hA hal
 go_enter Tryz.func31,Tryz.ntmps31
 go_wp2
 go_loopw [1,5] (fun x i wr=>∃(k mm:Nat) (suf:List (ByteArray × ByteArray)),x=.int .i64 (mm:Int)∧i=.int .i64 (k:Int)∧k+suf.length=al.length∧mm+2*suf.length=m+2*al.length∧1≤mm∧Hid (AsAt w b (o+k*2) (markAl suf mm)∧Below w.heap.size w wr)) (fun x i wr=>al.length-(intOf i).toNat)
 case atStart=>exact ⟨0,m,al,rfl,rfl,by omega,rfl,h1,Lib.hid ⟨by simpa using HS.out,Below.refl _ _⟩⟩
 case round=>
  obtain ⟨k,mm,suf,rfl,rfl,hk,hmm,hm1,HH⟩:=hrel
  cases suf with
  | nil=>
   have hkl:k=al.length:=by simpa using hk
   have hml:mm=m+2*al.length:=by simpa using hmm
   clear hk hmm
   subst hkl
   subst hml
   go_wp2
   go_ret
   exact ⟨rfl,HH.out.2⟩
  | cons x r=>
   obtain ⟨⟨s1,s2,_,_,s5⟩,hB⟩:=HH.out
   simp only[List.length_cons]at hk hmm
   obtain ⟨rfl,hlo,hhi⟩:=HA.out.2 (by omega)
   have hkl:k<al.length:=by omega
   have hb:b<w.heap.size:=by omega
   have t1:=(hB.cell (p:=⟨b,o+k*2,none⟩) hb).trans s1
   have t2:=(hB.cell (p:=⟨b,o+k*2+1,none⟩) hb).trans s2
   have hbr:b<wr.heap.size:=Nat.lt_of_lt_of_le hb hB.size
   have H5:=Lib.hid s5
   have HB:=Lib.hid hB
   clear HH s1 s2 s5 hB
   go_wp2
   go_region_held3 (fun w'=>w'.cell? ⟨b,o+k*2,none⟩=some (.string (markT mm))∧w'.cell? ⟨b,o+k*2+1,none⟩=some (.string (markT (mm+1)))) (first | exact And.intro u1 u2 | go_keep) (first | (go_at_call 29;refine (markText_any mm hm1 (by omega) _).mono ?_;rintro e w1 ⟨rfl,hB1⟩;have u1:=(hB1.cell (p:=⟨b,o+k*2,none⟩) hbr).trans t1;have u2:=(hB1.cell (p:=⟨b,o+k*2+1,none⟩) hbr).trans t2;have B1:=Lib.hid (HB.out.drew.trans (hB1.mono HB.out.size));clear hB1))
   have hb1:b<w1.heap.size:=Nat.lt_of_lt_of_le hb B1.out.size
   go_wp2
   go_region_held3 (fun w'=>w'.cell? ⟨b,o+k*2+1,none⟩=some (.string (markT (mm+1)))) (first | exact u3 | go_keep) (first | (go_at_call 29;refine (markText_at (mm+1) _ (by omega) (by omega) (by omega) _).mono ?_;rintro e w2 ⟨rfl,hB2⟩;have u3:=(hB2.cell (p:=⟨b,o+k*2+1,none⟩) hb1).trans u2;have B2:=Lib.hid (B1.out.drew.trans (hB2.mono B1.out.size));clear hB2))
   go_wp2
   go_roundw
   case rel=>exact ⟨k+1,mm+2,r,by go_num,by go_num,by omega,by omega,by omega,Lib.hid ⟨by rw[show o+(k+1)*2=o+k*2+2 by omega];exact H5.out,B2.out⟩⟩
   case measure=>simp[intOf];omega
end Go.Proofs.YthdkkpbhijlpaaaGreatDoor
namespace Go.Proofs.YthdkkpbhijlpaaaGreatDoor
open Go.ChangeShapes Go.WideShapes Go.ChangeAt Go.RowKit Go.Deep
def HeldOK (F:Fo):Prop:=∀(m:Nat) (w:World) (A:Option Addr) (c b o lo hi:Nat),1≤m→m+F.cnt≤1073741824→RowAt lo hi A F.len b o→hi≤w.heap.size→FoAt w lo hi b o (markFo F m) →
 Calls Tryz.prog 13 #[.slice A F.len c,.int .i64 (m:Int)] w fun e w'=>e=.returned (.int .i64 ((m+F.cnt:Nat):Int))∧Below w.heap.size w w'
theorem heldAttrS_at (i:Int) (al:List (ByteArray × ByteArray)) (m:Nat) (hi':i=(m:Int)) (w:World) (A:Option Addr) (c b o lo hi:Nat) (h1:1≤m) (h2:m+2*al.length≤1073741824) (hA:RowAt lo hi A al.length b o) (hh:hi≤w.heap.size) (hal:AsAt w b o (markAl al m)):
 Calls Tryz.prog 31 #[.slice A al.length c,.int .i64 i] w fun e w'=>e=.returned (.int .i64 ((m+2*al.length:Nat):Int))∧Below w.heap.size w w':=by
 subst hi'
 exact heldAttrS_any al m w A c b o lo hi h1 h2 hA hh hal
theorem HeldOK.at {F:Fo} (h:HeldOK F) (i:Int) (m:Nat) (hi':i=(m:Int)) (w:World) (A:Option Addr) (c b o lo hi:Nat) (h1:1≤m) (h2:m+F.cnt≤1073741824) (hA:RowAt lo hi A F.len b o) (hh:hi≤w.heap.size) (hF:FoAt w lo hi b o (markFo F m)):
 Calls Tryz.prog 13 #[.slice A F.len c,.int .i64 i] w fun e w'=>e=.returned (.int .i64 ((m+F.cnt:Nat):Int))∧Below w.heap.size w w':=by
 subst hi'
 exact h m w A c b o lo hi h1 h2 hA hh hF
set_option maxHeartbeats 4000000 in
theorem heldNodeS_lt:∀(N:Nat) (F:Fo),F.nodes<N→HeldOK F:=by
 intro N
 induction N with
 | zero=>intro F hF;omega
 | succ N IH=>
 intro F hF m w A c b o lo hi h1 h2 hA hh hFo
 have hlen:=hA.1
 unfold maxLen at hlen
 have HA:=Lib.hid hA
 have HS:=Lib.hid hFo
 have HF:=Lib.hid hF
 have HI:=Lib.hid IH
 clear hA hFo hF IH
 go_enter Tryz.func13,Tryz.ntmps13
 go_wp2
 go_loopw [1,5] (fun x i wr=>∃(k mm:Nat) (suf:Fo),x=.int .i64 (mm:Int)∧i=.int .i64 (k:Int)∧k+suf.len=F.len∧mm+suf.cnt=m+F.cnt∧1≤mm∧Hid (FoAt w lo hi b (o+k*6) (markFo suf mm)∧Below w.heap.size w wr∧suf.nodes<N+1)) (fun x i wr=>F.len-(intOf i).toNat)
 case atStart=>exact ⟨0,m,F,rfl,rfl,by omega,rfl,h1,Lib.hid ⟨by simpa using HS.out,Below.refl _ _,HF.out⟩⟩
 case round=>
  obtain ⟨k,mm,suf,rfl,rfl,hk,hmm,hm1,HH⟩:=hrel
  cases suf with
  | nil=>
   have hkl:k=F.len:=by simpa[Fo.len]using hk
   have hml:mm=m+F.cnt:=by simpa[Fo.cnt]using hmm
   clear hk hmm
   subst hkl
   subst hml
   go_wp2
   go_ret
   exact ⟨rfl,HH.out.2.1⟩
  | cons xk xs xn xt xa kids r=>
   obtain ⟨⟨⟨s0,s1,s2,s3,_,_⟩,⟨A4,c4,b4,o4,s4,r4,a4⟩,⟨A5,c5,b5,o5,s5,r5,a5⟩,sr⟩,hB,hT⟩:=HH.out
   rw[markAl_len]at s4 r4
   rw[markFo_len]at s5 r5
   simp only[Fo.len]at hk
   simp only[Fo.cnt]at hmm
   obtain ⟨rfl,hlo,hhi⟩:=HA.out.2 (by omega)
   have hkl:k<F.len:=by omega
   have hb:b<w.heap.size:=by omega
   have t0:=(hB.cell (p:=⟨b,o+k*6,none⟩) hb).trans s0
   have t1:=(hB.cell (p:=⟨b,o+k*6+1,none⟩) hb).trans s1
   have t2:=(hB.cell (p:=⟨b,o+k*6+2,none⟩) hb).trans s2
   have e1:(((mm+1:Nat):Int) != (mm:Int)+1)=false:=by simp
   have HC:=Lib.hid (And.intro s2 (And.intro s3 (And.intro s4 s5)))
   have H4:=Lib.hid (And.intro r4 a4)
   have H5:=Lib.hid (And.intro r5 a5)
   have HR:=Lib.hid sr
   have HB:=Lib.hid hB
   have HT:Hid (kids.nodes<N∧r.nodes<N+1):=Lib.hid (by simp[Fo.nodes]at hT;omega)
   clear HH s0 s1 s2 s3 s4 s5 sr hB hT r4 a4 r5 a5
   go_wp2_with fail
   have hbr:b<wr.heap.size:=Nat.lt_of_lt_of_le hb HB.out.size
   go_region_held3 (fun w'=>w'.cell? ⟨b,o+k*6+2,none⟩=some (.string (markT (mm+2)))) (first | exact u2 | go_keep) (first | (go_at_call 29;refine (markText_at (mm+2) _ (by omega) (by omega) (by omega) _).mono ?_;rintro e w1 ⟨rfl,hB1⟩;have u2:=(hB1.cell (p:=⟨b,o+k*6+2,none⟩) hbr).trans t2;have B1:=Lib.hid (HB.out.drew.trans (hB1.mono HB.out.size));clear hB1))
   have hb1:b<w1.heap.size:=Nat.lt_of_lt_of_le hb B1.out.size
   have v3:=(B1.out.cell (p:=⟨b,o+k*6+3,none⟩) hb).trans HC.out.2.1
   go_wp2_with fail
   go_region_held3 (fun w'=>w'.cell? ⟨b,o+k*6+3,none⟩=some (.string (markT (mm+3)))) (first | exact u3 | go_keep) (first | (go_at_call 29;refine (markText_at (mm+3) _ (by omega) (by omega) (by omega) _).mono ?_;rintro e w2 ⟨rfl,hB2⟩;have u3:=(hB2.cell (p:=⟨b,o+k*6+3,none⟩) hb1).trans v3;have B2:=Lib.hid (B1.out.drew.trans (hB2.mono B1.out.size));clear hB2))
   have v4:=(B2.out.cell (p:=⟨b,o+k*6+4,none⟩) hb).trans HC.out.2.2.1
   clear t0 t1 t2 v3 u2 u3 e1
   go_wp2_with fail
   refine (heldAttrS_at _ xa (mm+4) (by omega) _ A4 c4 b4 o4 lo hi (by omega) (by omega) H4.out.1.2 (Nat.le_trans hh B2.out.size) (AsAt.but (al:=markAl xa (mm+4)) (by rw[markAl_len];exact H4.out.1.2) H4.out.2 (But.of_below (C:=No) B2.out) hh (fun _ h=>False.elim h))).mono ?_
   rintro e w3 ⟨rfl,hB3⟩
   have B3:=Lib.hid (B2.out.trans (hB3.mono B2.out.size))
   have v5:=(B3.out.cell (p:=⟨b,o+k*6+5,none⟩) hb).trans HC.out.2.2.2
   clear hB3 v4
   go_wp2_with fail
   refine ((HI.out kids HT.out.1).at _ (mm+4+2*xa.length) (by omega) _ A5 c5 b5 o5 lo hi (by omega) (by omega) H5.out.1.2 (Nat.le_trans hh B3.out.size) (FoAt.but (F:=markFo kids (mm+4+2*xa.length)) (by rw[markFo_len];exact H5.out.1.2) H5.out.2 (But.of_below (C:=No) B3.out) hh (fun _ h=>False.elim h))).mono ?_
   rintro e w4 ⟨rfl,hB4⟩
   have B4:=Lib.hid (B3.out.trans (hB4.mono B3.out.size))
   clear hB4 v5
   go_wp2_with fail
   go_roundw
   case rel=>exact ⟨k+1,mm+4+2*xa.length+kids.cnt,r,by go_num,by go_num,by omega,by omega,by omega,Lib.hid ⟨by rw[show o+(k+1)*6=o+k*6+6 by omega];exact HR.out,B4.out,HT.out.2⟩⟩
   case measure=>simp[intOf];omega
theorem heldNodeS_any (F:Fo):HeldOK F:=heldNodeS_lt (F.nodes+1) F (Nat.lt_succ_self _)
end Go.Proofs.YthdkkpbhijlpaaaGreatDoor
namespace Go.Proofs.YthdkkpbhijlpaaaGreatDoor
open Go.ChangeShapes Go.WideShapes Go.ChangeAt Go.RowKit Go.Deep
structure KR (w:World) (A:Option Addr) (G:Fo) (bs:List Nat) (lo hi:Nat):Prop where
 row:KRow w A G bs
 nd:bs.Nodup
 at':∀k ∈ bs,lo≤k∧k<hi
 le:hi≤w.heap.size
 len:G.len≤maxLen
theorem KR.of {w:World} {B:Nat} {v:Value} {G:Fo} {bl:List Nat} (h:GRow w B v G bl) (hl:G.len≤maxLen):∃A c bs,v=.slice A G.len c∧KR w A G bs B w.heap.size:=by
 obtain ⟨A,c,bs,h1,_,h3,h4,h5⟩:=h.form
 exact ⟨A,c,bs,h1,h3,h4,h5,Nat.le_refl _,hl⟩
theorem KR.next {w w':World} {A:Option Addr} {G:Fo} {bs:List Nat} {lo hi:Nat} (h:KR w A G bs lo hi) (hB:Below w.heap.size w w'):KR w' A G bs lo hi:=
 ⟨h.row.same fun k hk=>hB.block k (by have:=(h.at' k hk).2;have:=h.le;omega),h.nd,h.at',Nat.le_trans h.le hB.size,h.len⟩
theorem KR.only {w w':World} {A:Option Addr} {G:Fo} {bs cs:List Nat} {lo hi:Nat} (h:KR w A G bs lo hi) (hB:OnlyAt w w' cs) (hc:∀k ∈ cs,¬(lo≤k∧k<hi)):KR w' A G bs lo hi:=
 ⟨h.row.same fun k hk=>hB.block k (by have:=(h.at' k hk).2;have:=h.le;omega) (fun e=>hc k e (h.at' k hk)),h.nd,h.at',Nat.le_trans h.le hB.size,h.len⟩
theorem KR.read {w:World} {A:Option Addr} {G:Fo} {bs:List Nat} {lo hi:Nat} (h:KR w A G bs lo hi):∃b,RowAt lo hi A G.len b 0∧FoAt w lo hi b 0 G:=by
 rcases h.row with ⟨h0,hb⟩ | ⟨c,b',e1,e2,e3⟩
 ·refine ⟨0,⟨h.len,fun hp=>by omega⟩,?_⟩
  cases G with
  | nil=>trivial
  | cons _ _ _ _ _ _ _=>simp[Fo.len]at h0
 ·have hc:=h.at' c (by rw[e2];simp)
  exact ⟨c,⟨h.len,fun _=>⟨e1,hc.1,hc.2⟩⟩,e3.at fun k hk=>h.at' k (by rw[e2];simp[hk])⟩
theorem eqKR {w:World} {A A':Option Addr} {c c':Nat} {G:Fo} {bs bs':List Nat} {lo hi lo' hi':Nat} (h:KR w A G bs lo hi) (h':KR w A' G bs' lo' hi'):
 Calls Tryz.prog 11 #[.slice A G.len c,.slice A' G.len c'] w fun e w'=>e=.returned (.bool true)∧Below w.heap.size w w':=by
 obtain ⟨b,h1,h2⟩:=h.read
 obtain ⟨b',h1',h2'⟩:=h'.read
 exact eqNodeS_same G w A A' c c' b b' 0 0 lo hi lo' hi' h1 h1' h.le h'.le h2 h2'
theorem markKR {w:World} {A:Option Addr} {c:Nat} {G:Fo} {bs:List Nat} {lo hi:Nat} (h:KR w A G bs lo hi) (hc:1+G.cnt≤1073741824):
 Calls Tryz.prog 12 #[.slice A G.len c,.int .i64 1] w fun e w'=>e=.returned (.int .i64 ((1+G.cnt:Nat):Int))∧KR w' A (markFo G 1) bs lo hi∧OnlyAt w w' bs:=by
 refine (markNodeS_any G 1 w A c bs (Nat.le_refl _) hc h.len h.row h.nd (fun k hk=>by have:=(h.at' k hk).2;have:=h.le;omega)).mono ?_
 rintro e w' ⟨h1,h2,h3⟩
 exact ⟨h1,⟨h2,h.nd,h.at',Nat.le_trans h.le h3.size,by rw[markFo_len];exact h.len⟩,h3⟩
theorem heldKR {w:World} {A:Option Addr} {c:Nat} {G:Fo} {bs:List Nat} {lo hi:Nat} (h:KR w A (markFo G 1) bs lo hi) (hc:1+G.cnt≤1073741824):
 Calls Tryz.prog 13 #[.slice A G.len c,.int .i64 1] w fun e w'=>e=.returned (.int .i64 ((1+G.cnt:Nat):Int))∧Below w.heap.size w w':=by
 obtain ⟨b,h1,h2⟩:=h.read
 rw[markFo_len]at h1
 exact heldNodeS_any G 1 w A c b 0 lo hi (Nat.le_refl _) hc h1 h.le h2
end Go.Proofs.YthdkkpbhijlpaaaGreatDoor
namespace Go.Proofs.YthdkkpbhijlpaaaGreatDoor
open Go.ChangeShapes Go.WideShapes Go.ChangeAt Go.RowKit Go.Deep
theorem Fo.small_cnt:∀(F:Fo),F.cnt≤1048576→F.small
 | .nil,_=>trivial
 | .cons _ _ _ _ al kids rest,h=>by
  simp only[Fo.cnt]at h
  have:=Fo.len_cnt kids
  exact ⟨by omega,by omega,Fo.small_cnt kids (by omega),Fo.small_cnt rest (by omega)⟩
noncomputable def bOf (s:ByteArray):Fo × Int:=if 4096<s.size then (.nil,8) else builtOf s
theorem bOf_cn (s:ByteArray):(bOf s).1.cnt≤960:=by
 unfold bOf
 split
 ·exact Nat.zero_le _
 ·exact builtOf_cn s
theorem BuiltOut.mono0 {r:Fo × Int} {w w1:World} {e:Ending} {w':World} (h:BuiltOut r w1 e w') (hB:Below w.heap.size w w1):BuiltOut r w e w':=by
 obtain ⟨v,bl,e1,h2,h3⟩:=h
 exact ⟨v,bl,e1,h2.low hB.size,hB.trans (h3.mono hB.size)⟩
set_option maxHeartbeats 1000000 in
theorem build_out (s:ByteArray) (w:World) (hE:Env2 w):
 Calls Tryz.prog 36 #[.string s] w (BuiltOut (bOf s) w):=by
 by_cases h:s.size≤4096
 ·have e:bOf s=builtOf s:=by unfold bOf;rw[if_neg (by omega)]
  rw[e]
  exact build_any s w h hE
 ·have e:bOf s=(.nil,8):=by unfold bOf;rw[if_pos (by omega)]
  rw[e]
  have h':(s.size:Int)>4096:=by omega
  clear e hE
  go_enter Tryz.func36,Tryz.ntmps36
  go_wp2
  go_ret2
  exact ⟨_,[],rfl,GRow.nil _ _,Below.refl _ _⟩
theorem copyB_any (F:Fo) (v:Value) (bl:List Nat) (w0:Nat) (w:World) (hc:F.cnt≤960) (h:GRow w w0 v F bl):
 Calls Tryz.prog 26 #[v] w (RowOut F w):=by
 have hl:=Fo.len_cnt F
 obtain ⟨A,c,bs,rfl,hK⟩:=KR.of h (by unfold maxLen;omega)
 obtain ⟨b,h1,h2⟩:=hK.read
 exact l03Copy_any F w A c b 0 w0 w.heap.size (Fo.small_cnt F (by omega)) (by omega) h1 (Nat.le_refl _) h2
end Go.Proofs.YthdkkpbhijlpaaaGreatDoor
