import Derived.Deep.RegionHeld3
import Derived.BigQuiet
import Derived.ScopeJumps
import Derived.LoopN
import Derived.Test.YthdkkpbhijlpaaaGreatDoorQ25
set_option linter.unusedVariables false
namespace Go.Proofs.YthdkkpbhijlpaaaGreatDoor
open Go.ChangeShapes Go.WideShapes Go.ChangeAt Go.RowKit Go.Shelf Go.Deep
set_option maxHeartbeats 2000000 in
set_option maxRecDepth 100000 in
theorem readRaw_any (s raw:ByteArray) (T:Tk) (g i:Nat) (hs:s.size≤65536) (hraw:raw.size≤65536) (hi:i≤s.size) (w:World) (h:RdAt w g T s i raw):
 Calls Tryz.prog 167 #[.pointer (some ⟨g,0,none⟩)] w (StOut g s raw w .nilFunc { T with k:=1,t:=s.extract i (rawEnd s raw i)} (rawEnd s raw i)):=by
 obtain ⟨A,c,L,hO,h6,hz⟩:=h
 have hg:=Lay.lt L
 have HO:=Lib.hid hO
 have HZ:=Lib.hid hz
 have HLW:=Lib.hid L
 have hre:=rawEnd_le s raw i hi
 have HE0:=Lib.hid (show rawEnd s raw s.size=s.size from rawEnd_past (by omega))
 have hsz:=tl_size s i
 have hsz2:((tl s i).size:Int)=(s.size:Int)-(i:Int):=by omega
 have HSZ:=Lib.hid hsz
 have hb1:((tl s i).size:Int)≤65536:=by omega
 have HER:=Lib.hid (fun k w=>endsRaw_any s raw (i+k) hs hraw w)
 have HCF:=Lib.hid (fun k (h:i+k≤s.size)=>cutFrom_at s i k h)
 have HRH:Hid (∀k,i+k<s.size→rawHit s raw (i+k)=true→rawEnd s raw (i+k)=i+k):=Lib.hid fun k h1 h2=>rawEnd_hit h1 h2
 have HRM:Hid (∀k,i+k<s.size→rawHit s raw (i+k)=false→rawEnd s raw (i+k)=rawEnd s raw (i+k+1)):=Lib.hid fun k h1 h2=>rawEnd_miss h1 h2
 clear hO hz L hsz hsz2
 go_enter Tryz.func167,Tryz.ntmps167
 go_wp2
 go_loopw [3] (fun z wr=>∃k:Nat,i+k≤s.size∧z=.int .i64 k∧Hid (rawEnd s raw (i+k)=rawEnd s raw i)∧Hid (Lay wr g #[.int .i64 T.k,.int .i64 (T.a:Int),.int .i64 (T.l:Int),.string T.n,.string T.t,.slice A T.al.length c,.bool T.s,.string (tl s i),.string raw])∧Hid (But (· = g) w wr)) (fun z _=>s.size-(intOf z).toNat)
 case atStart=>exact ⟨0,by omega,rfl,Lib.hid rfl,HLW,Lib.hid (But.refl _ _)⟩
 case round=>
  obtain ⟨k,hk,rfl,HR,HL,HB⟩:=hrel
  have c7:=HL.out.1 7
  have c8:=HL.out.1 8
  have hgr:=Lay.lt HL.out
  by_cases hlt:i+k<s.size
  ·have hd:(k:Int)<((tl s i).size:Int):=by have:=HSZ.out;omega
   have hx:=HCF.out k hk
   cases hh:rawHit s raw (i+k) with
   | true=>
    have HE:=Lib.hid ((HRH.out k hlt hh).symm.trans HR.out)
    have HC:=Lib.hid (HER.out k)
    rw[hh]at HC
    clear hh
    go_wp2
    go_region_held3 (fun w'=>w'.cell? ⟨g,7,none⟩=some (.string (tl s i))∧w'.cell? ⟨g,8,none⟩=some (.string raw)) (first | exact And.intro u7 u8 | exact And.intro c7 c8 | go_keep) (first | (go_at_call 166;refine (HC.out _).mono ?_;rintro e w1 ⟨rfl,hB1⟩;have u7:=(hB1.cell (p:=⟨g,7,none⟩) hgr).trans c7;have u8:=(hB1.cell (p:=⟨g,8,none⟩) hgr).trans c8;have B1:Hid (Below wr.heap.size wr w1):=Lib.hid ((Below.refl wr.heap.size wr).drew.trans hB1);clear hB1))
    have LW1:=HL.out.below B1.out hgr
    have m0:=LW1.1
    have m1:=LW1.2
    have LS:=Lib.hid (show Lay (w1.setCell ⟨g,0,none⟩ (.int .i64 1)) g #[.int .i64 1,.int .i64 (T.a:Int),.int .i64 (T.l:Int),.string T.n,.string T.t,.slice A T.al.length c,.bool T.s,.string (tl s i),.string raw] from LW1.set 0 _)
    have BS:=Lib.hid (only_trans (only_then HB.out B1.out) (only_set w1 g 0 (.int .i64 1)))
    clear LW1 c7 c8 u7 u8
    go_wp2_with (go_at_call 220;refine (take_any s i k g hs hk _ (LS.out.1 7) (LS.out.2 7)).mono ?_;rintro e w2 ⟨rfl,hM⟩;have hM2:=hM.lay LS.out;have p0:=hM2.1.1;have p1:=hM2.1.2;have L2:=Lib.hid hM2.1;have B2:=Lib.hid (only_trans BS.out hM2.2);clear hM hM2)
    go_ret
    rw[←HE.out]
    have LF:Lay (w2.setCell ⟨g,4,none⟩ (.string (s.extract i (i+k)))) g #[.int .i64 1,.int .i64 (T.a:Int),.int .i64 (T.l:Int),.string T.n,.string (s.extract i (i+k)),.slice A T.al.length c,.bool T.s,.string (tl s (i+k)),.string raw]:=L2.out.set 4 (.string (s.extract i (i+k)))
    have BF:=only_trans B2.out (only_set _ g 4 (.string (s.extract i (i+k))))
    exact ⟨rfl,RdAt.mk' (T':={ T with k:=1,t:=s.extract i (i+k)}) HO.out h6 HZ.out rfl LF rfl rfl BF,only_below BF (Nat.le_of_lt hg)⟩
   | false=>
    have HE:=Lib.hid ((HRM.out k hlt hh).symm.trans HR.out)
    have HC:=Lib.hid (HER.out k)
    rw[hh]at HC
    clear hh
    go_wp2
    go_region_held3 (fun w'=>w'.cell? ⟨g,7,none⟩=some (.string (tl s i))∧w'.cell? ⟨g,8,none⟩=some (.string raw)) (first | exact And.intro u7 u8 | exact And.intro c7 c8 | go_keep) (first | (go_at_call 166;refine (HC.out _).mono ?_;rintro e w1 ⟨rfl,hB1⟩;have u7:=(hB1.cell (p:=⟨g,7,none⟩) hgr).trans c7;have u8:=(hB1.cell (p:=⟨g,8,none⟩) hgr).trans c8;have B1:Hid (Below wr.heap.size wr w1):=Lib.hid ((Below.refl wr.heap.size wr).drew.trans hB1);clear hB1))
    go_wp2
    go_roundw
    case rel=>exact ⟨k+1,by omega,by go_num,HE,Lib.hid (HL.out.below B1.out hgr),Lib.hid (only_then HB.out B1.out)⟩
    case measure=>simp[intOf];omega
  ·have hd:decide ((k:Int)<((tl s i).size:Int))=false:=by have:=HSZ.out;simp;omega
   have hd2:decide (k<(tl s i).size)=false:=by have:=HSZ.out;simp;omega
   have hd3:¬k<(tl s i).size:=by have:=HSZ.out;omega
   have HE:Hid (i+k=rawEnd s raw i):=Lib.hid (by rw[←HR.out,show i+k=s.size by omega];exact HE0.out.symm)
   have c7':=HL.out.2 7
   go_wp2
   go_quiet (fail)
   have B1:Hid (Below wr.heap.size wr (wr.drewN nq)):=Lib.hid (below_drewN (Below.refl _ _) nq)
   have u7:=True.intro
   have u8:=True.intro
   generalize wr.drewN nq=w1 at B1 ⊢
   have LW1:=HL.out.below B1.out hgr
   have m0:=LW1.1
   have m1:=LW1.2
   have LS:=Lib.hid (show Lay (w1.setCell ⟨g,0,none⟩ (.int .i64 1)) g #[.int .i64 1,.int .i64 (T.a:Int),.int .i64 (T.l:Int),.string T.n,.string T.t,.slice A T.al.length c,.bool T.s,.string (tl s i),.string raw] from LW1.set 0 _)
   have BS:=Lib.hid (only_trans (only_then HB.out B1.out) (only_set w1 g 0 (.int .i64 1)))
   clear LW1 c7 c8 u7 u8
   go_wp2_with (go_at_call 220;refine (take_any s i k g hs hk _ (LS.out.1 7) (LS.out.2 7)).mono ?_;rintro e w2 ⟨rfl,hM⟩;have hM2:=hM.lay LS.out;have p0:=hM2.1.1;have p1:=hM2.1.2;have L2:=Lib.hid hM2.1;have B2:=Lib.hid (only_trans BS.out hM2.2);clear hM hM2)
   go_ret
   rw[←HE.out]
   have LF:Lay (w2.setCell ⟨g,4,none⟩ (.string (s.extract i (i+k)))) g #[.int .i64 1,.int .i64 (T.a:Int),.int .i64 (T.l:Int),.string T.n,.string (s.extract i (i+k)),.slice A T.al.length c,.bool T.s,.string (tl s (i+k)),.string raw]:=L2.out.set 4 (.string (s.extract i (i+k)))
   have BF:=only_trans B2.out (only_set _ g 4 (.string (s.extract i (i+k))))
   exact ⟨rfl,RdAt.mk' (T':={ T with k:=1,t:=s.extract i (i+k)}) HO.out h6 HZ.out rfl LF rfl rfl BF,only_below BF (Nat.le_of_lt hg)⟩
end Go.Proofs.YthdkkpbhijlpaaaGreatDoor
namespace Go.Proofs.YthdkkpbhijlpaaaGreatDoor
open Go.ChangeShapes Go.WideShapes Go.ChangeAt Go.RowKit Go.Shelf Go.Deep
def begV (p b1 b2 b3 b4 b5 b6:Bool):Value:=if p=true then .func (.func 167) #[] #[] else if b1=true then .func (.func 169) #[] #[]
 else if b2=true then .func (.func 170) #[] #[] else if b3=true then .func (.func 171) #[] #[]
 else if b4=true∨b5=true∨b6=true then .func (.func 172) #[] #[] else .func (.func 173) #[] #[]
def rawRd (s raw:ByteArray) (i:Nat):Bool:=decide (0<raw.size)&&!rawHit s raw i
def begB (s raw:ByteArray) (i:Nat):Value:=begV (rawRd s raw i) (Lib.hasPrefix (rest s i) [60]&&letB (byteAt s (i+1))) (Lib.hasPrefix (rest s i) [60,47]&&letB (byteAt s (i+2)))
 (Lib.hasPrefix (rest s i) [60,33,45,45]) (Lib.hasPrefix (rest s i) [60,33]) (Lib.hasPrefix (rest s i) [60,63]) (Lib.hasPrefix (rest s i) [60,47])
set_option maxHeartbeats 4000000 in
set_option maxRecDepth 100000 in
theorem readBeginning_any (s raw:ByteArray) (T:Tk) (g i:Nat) (hs:s.size≤65536) (hraw:raw.size≤65536) (w:World) (h:RdAt w g T s i raw):
 Calls Tryz.prog 107 #[.pointer (some ⟨g,0,none⟩)] w (StOut g s raw w (begB s raw i) T i):=by
 obtain ⟨A,c,L,hO,h6,hz⟩:=h
 have hg:=Lay.lt L
 have HO:=Lib.hid hO
 have HZ:=Lib.hid hz
 have HL:=Lib.hid L
 have c7:=L.1 7
 have c8:=L.1 8
 have HC:=Lib.hid (fun w=>endsRaw_any s raw i hs hraw w)
 have h1:Hid (∀w,Calls Tryz.prog 168 #[.string (tl s i),.string ⟨#[60]⟩] w fun e w'=>e=.returned (.bool (Lib.hasPrefix (rest s i) [60]&&letB (byteAt s (i+1))))∧w=w'):=Lib.hid fun w=>beginsWithLetter_any s ⟨#[60]⟩ i w
 have h2:Hid (∀w,Calls Tryz.prog 168 #[.string (tl s i),.string ⟨#[60,47]⟩] w fun e w'=>e=.returned (.bool (Lib.hasPrefix (rest s i) [60,47]&&letB (byteAt s (i+2))))∧w=w'):=Lib.hid fun w=>beginsWithLetter_any s ⟨#[60,47]⟩ i w
 have hp:∀(p:ByteArray),Hid (∀w,Calls Tryz.prog 150 #[.string (tl s i),.string p] w fun e w'=>e=.returned (.bool (Lib.hasPrefix (rest s i) p.data.toList))∧w'=w):=fun p=>Lib.hid fun w=>by have:=strings_HasPrefix (tl s i) p w;rw[tl_list]at this;exact this
 have h3:Hid (∀w,Calls Tryz.prog 150 #[.string (tl s i),.string ⟨#[60,33,45,45]⟩] w fun e w'=>e=.returned (.bool (Lib.hasPrefix (rest s i) [60,33,45,45]))∧w'=w):=hp ⟨#[60,33,45,45]⟩
 have h4:Hid (∀w,Calls Tryz.prog 150 #[.string (tl s i),.string ⟨#[60,33]⟩] w fun e w'=>e=.returned (.bool (Lib.hasPrefix (rest s i) [60,33]))∧w'=w):=hp ⟨#[60,33]⟩
 have h5:Hid (∀w,Calls Tryz.prog 150 #[.string (tl s i),.string ⟨#[60,63]⟩] w fun e w'=>e=.returned (.bool (Lib.hasPrefix (rest s i) [60,63]))∧w'=w):=hp ⟨#[60,63]⟩
 have h6':Hid (∀w,Calls Tryz.prog 150 #[.string (tl s i),.string ⟨#[60,47]⟩] w fun e w'=>e=.returned (.bool (Lib.hasPrefix (rest s i) [60,47]))∧w'=w):=hp ⟨#[60,47]⟩
 have HV:=Lib.hid (show begB s raw i=begV (rawRd s raw i) (Lib.hasPrefix (rest s i) [60]&&letB (byteAt s (i+1))) (Lib.hasPrefix (rest s i) [60,47]&&letB (byteAt s (i+2))) (Lib.hasPrefix (rest s i) [60,33,45,45]) (Lib.hasPrefix (rest s i) [60,33]) (Lib.hasPrefix (rest s i) [60,63]) (Lib.hasPrefix (rest s i) [60,47]) from rfl)
 have HR:=Lib.hid (show rawRd s raw i=(decide (0<raw.size)&&!rawHit s raw i) from rfl)
 generalize begB s raw i=V at HV ⊢
 generalize rawRd s raw i=p at HV HR
 clear hp
 generalize (Lib.hasPrefix (rest s i) [60]&&letB (byteAt s (i+1)))=b1 at h1 HV
 generalize (Lib.hasPrefix (rest s i) [60,47]&&letB (byteAt s (i+2)))=b2 at h2 HV
 generalize Lib.hasPrefix (rest s i) [60,33,45,45]=b3 at h3 HV
 generalize Lib.hasPrefix (rest s i) [60,33]=b4 at h4 HV
 generalize Lib.hasPrefix (rest s i) [60,63]=b5 at h5 HV
 generalize Lib.hasPrefix (rest s i) [60,47]=b6 at h6' HV
 clear hO hz L
 by_cases hr0:0<raw.size
 ·have hrl:¬raw.toList=[]:=by rw[←List.length_eq_zero_iff,ByteArray.toList_eq,Array.length_toList];show ¬raw.size=0;omega
  have hrl2:raw.toList.isEmpty=false:=by simpa using hrl
  rw[decide_eq_true hr0,Bool.true_and]at HR
  generalize rawHit s raw i=hit at HR HC
  cases hit with
  | false=>
   have hp1:p=true:=HR.out
   subst hp1
   have HV2:Hid (V=.func (.func 167) #[] #[]):=Lib.hid (by rw[HV.out];rfl)
   clear HV HR h1 h2 h3 h4 h5 h6'
   go_enter Tryz.func107,Tryz.ntmps107
   go_wp2
   go_region_held3 (fun w'=>w'.cell? ⟨g,7,none⟩=some (.string (tl s i))∧w'.cell? ⟨g,8,none⟩=some (.string raw)) (first | exact And.intro u7 u8 | exact And.intro c7 c8 | go_keep) (first | (go_at_call 166;refine (HC.out _).mono ?_;rintro e w1 ⟨rfl,hB1⟩;have u7:=(hB1.cell (p:=⟨g,7,none⟩) hg).trans c7;have u8:=(hB1.cell (p:=⟨g,8,none⟩) hg).trans c8;have B1:Hid (Below w.heap.size w w1):=Lib.hid ((Below.refl w.heap.size w).drew.trans hB1);clear hB1))
   go_wp2
   (try rw[Exit.noGoto_ret])
   go_ret
   rw[HV2.out]
   exact ⟨rfl,RdAt.mk' HO.out h6 HZ.out rfl (HL.out.below B1.out hg) rfl rfl (But.of_below B1.out),B1.out.mono (Nat.le_of_lt hg)⟩
  | true=>
   have hp1:p=false:=HR.out
   subst hp1
   clear HR
   go_enter Tryz.func107,Tryz.ntmps107
   go_wp2
   go_region_held3 (fun w'=>w'.cell? ⟨g,7,none⟩=some (.string (tl s i))∧w'.cell? ⟨g,8,none⟩=some (.string raw)) (first | exact And.intro u7 u8 | exact And.intro c7 c8 | go_keep) (first | (go_at_call 166;refine (HC.out _).mono ?_;rintro e w1 ⟨rfl,hB1⟩;have u7:=(hB1.cell (p:=⟨g,7,none⟩) hg).trans c7;have u8:=(hB1.cell (p:=⟨g,8,none⟩) hg).trans c8;have B1:Hid (Below w.heap.size w w1):=Lib.hid ((Below.refl w.heap.size w).drew.trans hB1);clear hB1))
   go_wp2_with (first
    | (go_at_call 168;have tk1:=tok2;refine (h2.out _).mono ?_;rintro e w' ⟨rfl,rfl⟩)
    | (go_at_call 168;have tok2:True:=trivial;refine (h1.out _).mono ?_;rintro e w' ⟨rfl,rfl⟩)
    | (go_at_call 150;have tk1:=tok5;refine (h6'.out _).mono ?_;rintro e w' ⟨rfl,rfl⟩)
    | (go_at_call 150;have tk1:=tok4;have tok5:True:=trivial;refine (h5.out _).mono ?_;rintro e w' ⟨rfl,rfl⟩)
    | (go_at_call 150;have tk1:=tok3;have tok4:True:=trivial;refine (h4.out _).mono ?_;rintro e w' ⟨rfl,rfl⟩)
    | (go_at_call 150;have tok3:True:=trivial;refine (h3.out _).mono ?_;rintro e w' ⟨rfl,rfl⟩))
   all_goals
    go_ret
    refine ⟨?_,RdAt.mk' HO.out h6 HZ.out rfl (HL.out.below B1.out hg) rfl rfl (But.of_below B1.out),B1.out.mono (Nat.le_of_lt hg)⟩
    rw[HV.out]
    clear HO HZ HL B1 HV
    first
     | (simp[begV, *];done)
     | (exfalso;simp_all)
 ·have hrl:raw.toList=[]:=by rw[←List.length_eq_zero_iff,ByteArray.toList_eq,Array.length_toList];show raw.size=0;omega
  have hrl2:raw.toList.isEmpty=true:=by simpa using hrl
  rw[decide_eq_false hr0,Bool.false_and]at HR
  have hp1:p=false:=HR.out
  subst hp1
  clear HR
  go_enter Tryz.func107,Tryz.ntmps107
  go_wp2
  go_quiet (fail)
  have B1:Hid (Below w.heap.size w (w.drewN nq)):=Lib.hid (below_drewN (Below.refl _ _) nq)
  have u7:=(B1.out.cell (p:=⟨g,7,none⟩) hg).trans c7
  generalize w.drewN nq=w1 at B1 u7 ⊢
  go_wp2_with (first
   | (go_at_call 168;have tk1:=tok2;refine (h2.out _).mono ?_;rintro e w' ⟨rfl,rfl⟩)
   | (go_at_call 168;have tok2:True:=trivial;refine (h1.out _).mono ?_;rintro e w' ⟨rfl,rfl⟩)
   | (go_at_call 150;have tk1:=tok5;refine (h6'.out _).mono ?_;rintro e w' ⟨rfl,rfl⟩)
   | (go_at_call 150;have tk1:=tok4;have tok5:True:=trivial;refine (h5.out _).mono ?_;rintro e w' ⟨rfl,rfl⟩)
   | (go_at_call 150;have tk1:=tok3;have tok4:True:=trivial;refine (h4.out _).mono ?_;rintro e w' ⟨rfl,rfl⟩)
   | (go_at_call 150;have tok3:True:=trivial;refine (h3.out _).mono ?_;rintro e w' ⟨rfl,rfl⟩))
  all_goals
   go_ret
   refine ⟨?_,RdAt.mk' HO.out h6 HZ.out rfl (HL.out.below B1.out hg) rfl rfl (But.of_below B1.out),B1.out.mono (Nat.le_of_lt hg)⟩
   rw[HV.out]
   clear HO HZ HL B1 HV
   first
    | (simp[begV, *];done)
    | (exfalso;simp_all)
end Go.Proofs.YthdkkpbhijlpaaaGreatDoor
namespace Go.Proofs.YthdkkpbhijlpaaaGreatDoor
open Go.ChangeShapes Go.WideShapes Go.ChangeAt Go.RowKit Go.Shelf Go.Deep
theorem wp_scope_ahead {P:Program} {a:Act} {w:World} {Q:Exit→Act→World→Prop} {c rest:Code} (l:Nat) (hf:findLabel c l=some rest)
 (first:c.wp P (Exit.jump l (fun a w=>rest.wp P (Exit.jump l (fun _ _=>False) Q) a w) Q) a w):(Code.scope c).wp P Q a w:=
 wp_scope_jumps l _ (fun _ _=>0) hf first fun a w h=>Go.wp_mono h fun e a w hq=>by
  cases e with
  | goto l'=>exact ⟨hq.1,hq.2.elim⟩
  | _=>exact hq
theorem take_to (s:ByteArray) (i n j g:Nat) (z:Int) (hz:z=(n:Int)) (hj:i+n=j) (hs:s.size≤65536) (h:j≤s.size) (w:World) (hc:w.cell? ⟨g,7,none⟩=some (.string (tl s i))) (hf:w.frozen? ⟨g,7,none⟩=false):
 Calls Tryz.prog 220 #[.pointer (some ⟨g,0,none⟩),.int .i64 z] w fun e w'=>e=.returned (.string (s.extract i j))∧Mv g s j w w':=by
 subst hz;subst hj;exact take_any s i n g hs h w hc hf
def attrI (s:ByteArray) (i:Nat):ByteArray × ByteArray × Nat:=
 if byteAt s (aEq s i)=61 then
  (if byteAt s (aVal s i)=34∨byteAt s (aVal s i)=39 then (lowX s i (aEnd s i),unX s (aVal s i+1) (findTo s (s.extract (aVal s i) (aVal s i+1)) (aVal s i+1)).1,gone s (s.extract (aVal s i) (aVal s i+1)) (aVal s i+1))
   else (lowX s i (aEnd s i),unX s (aVal s i) (aStop s i),aStop s i))
  else (lowX s i (aEnd s i),⟨#[]⟩,aEq s i)
theorem quote_at {s:ByteArray} {j:Nat} {c:UInt8} (h:byteAt s j=(c.toNat:Int)):s.extract j (j+1)=⟨#[c]⟩:=by
 have hj:j<s.size:=by
  rcases Nat.lt_or_ge j s.size with h1 | h1
  ·exact h1
  ·rw[byteAt,dif_neg (by omega)]at h;have:=c.toNat_lt;omega
 rw[byteAt_in hj]at h
 apply bytes_ext
 rw[extract_list,List.drop_take,show s.data.toList.drop j=rest s j from rfl,rest_cons hj,show j+1-j=1 by omega]
 exact congrArg (fun x=>[x]) (UInt8.toNat_inj.1 (by omega))
theorem unEsc (s:ByteArray) (a b:Nat) (hs:s.size≤65536) (w:World) (hw:Env w):Calls Tryz.prog 226 #[.string (s.extract a b)] w fun e w'=>e=.returned (.string (unX s a b))∧Below w.heap.size w w':=
 implUn_small (s.extract a b) (by rw[ByteArray.size_extract];omega) w hw
theorem unEsc0 (w:World) (hw:Env w):Calls Tryz.prog 226 #[.string ⟨#[]⟩] w fun e w'=>e=.returned (.string ⟨#[]⟩)∧Below w.heap.size w w':=
 implUn_small ⟨#[]⟩ (by decide) w hw
set_option maxHeartbeats 4000000 in
set_option maxRecDepth 1000000 in
theorem readAttr_bare (s raw:ByteArray) (T:Tk) (g i:Nat) (hs:s.size≤65536) (hi:i<s.size) (w:World) (hE:Env2 w) (h6g:5 + 1≤g) (h:RdAt w g T s i raw) (h61:byteAt s (aEq s i)≠61):
 Calls Tryz.prog 258 #[.pointer (some ⟨g,0,none⟩)] w (StOut g s raw w (.func (.func 223) #[] #[]) { T with al:=keepA T.al (attrI s i).1 (attrI s i).2.1 } (attrI s i).2.2):=by
 obtain ⟨A,c,L,hO,h6,hz⟩:=h
 have hg:=Lay.lt L
 have HO:=Lib.hid hO
 have HZ:=Lib.hid hz
 have HE:=Lib.hid hE
 have L1:=Lib.hid L
 have c7:=L.1 7
 have hE1:=aEnd_le hi
 have hE2:=aEq_le hi
 have hcut:∀w,(Instr.slice 9 (.string (tl s i)) (some (.int .i64 1)) none none).run Tryz.prog w=.ok (.string (tl s (i+1))) w:=cutFrom_at s i 1 hi
 have HI:=Lib.hid (lengthTo_any s attrCs inAttr attrMarks (i+1) hs hi)
 have hr:=runAt_le inAttr s (i+1) hi
 have hEe:i+(1+runAt inAttr s (i+1))=aEnd s i:=by unfold aEnd;omega
 have HLW:Hid (∀w,Calls Tryz.prog 218 #[.string (s.extract i (aEnd s i))] w fun e w'=>e=.returned (.string (lowX s i (aEnd s i)))∧Below w.heap.size w w'):=Lib.hid (fun w=>implLowerOf_small (s.extract i (aEnd s i)) w (by rw[ByteArray.size_extract];omega))
 have hnm:=lowX_size s i (aEnd s i)
 have HSK:Hid (∀w (_:g<w.heap.size) (_:w.cell? ⟨g,7,none⟩=some (.string (tl s (aEnd s i)))) (_:w.frozen? ⟨g,7,none⟩=false),Calls Tryz.prog 257 #[.pointer (some ⟨g,0,none⟩),.string blankCs] w fun e w'=>e=.returned (.string (s.extract (aEnd s i) (aEq s i)))∧Mv g s (aEq s i) w w'):=
  Lib.hid fun w h1 h2 h3=>skip_any s blankCs blankB blank_cs (asc_of (by decide)) (by decide) (aEnd s i) g hs hE1.2 w h1 h2 h3
 have HEQ:Hid (∀w (_:w.cell? ⟨g,7,none⟩=some (.string (tl s (aEq s i)))) (_:w.frozen? ⟨g,7,none⟩=false),Calls Tryz.prog 259 #[.pointer (some ⟨g,0,none⟩),.string ⟨#[61]⟩] w fun e w'=>e=.returned (.bool (byteAt s (aEq s i)==61))∧Mv g s (if (byteAt s (aEq s i)==61)=true then aEq s i+1 else aEq s i) w w'):=
  Lib.hid fun w h1 h2=>by have:=skipOne_any s ⟨#[61]⟩ (aEq s i) g w h1 h2;rw[pre_one]at this;exact this
 have HV:=Lib.hid (show attrI s i=(lowX s i (aEnd s i),⟨#[]⟩,aEq s i) from if_neg h61)
 have HUN:=Lib.hid unEsc0
 rw[show (byteAt s (aEq s i)==61)=false by simpa using h61,if_neg (by decide)]at HEQ
 clear h61
 generalize lowX s i (aEnd s i)=nm at HLW hnm HV
 generalize hae:aEnd s i=ae at hEe HLW hE1 hE2 HSK HV
 generalize runAt inAttr s (i+1)=n1 at HI hr hEe
 clear hO hz L hE hae
 generalize aEq s i=aq at hE2 HSK HEQ HV
 generalize attrI s i=R at HV ⊢
 obtain rfl:=HV.out
 clear HV
 go_enter Tryz.func258,Tryz.ntmps258
 go_wp2
 refine wp_scope_ahead 0 rfl ?_
 go_wp2_with (first
  | (go_at_call 227;refine (HI.out _).mono ?_;rintro e w2 ⟨rfl,hB⟩;have L2:=Lib.hid (L1.out.below hB hg);have B2:=Lib.hid (But.of_below (C:=fun k=>k=g) hB);clear hB)
  | (go_at_call 220;refine (take_to s i (1+n1) ae g (1+(n1:Int)) (by push_cast;rfl) hEe hs hE1.2 _ (L2.out.1 7) (L2.out.2 7)).mono ?_;rintro e w3 ⟨rfl,hM⟩;have hM2:=hM.lay L2.out;have L3:=Lib.hid hM2.1;have B3:=Lib.hid (only_trans B2.out hM2.2);clear hM hM2)
  | (go_at_call 218;refine (HLW.out _).mono ?_;rintro e w4 ⟨rfl,hB⟩;have L4:=Lib.hid (L3.out.below hB (Lay.lt L3.out));have B4:=Lib.hid (only_then B3.out hB);clear hB)
  | (go_at_call 257;refine (HSK.out _ (Lay.lt L4.out) (L4.out.1 7) (L4.out.2 7)).mono ?_;rintro e w5 ⟨rfl,hM⟩;have hM2:=hM.lay L4.out;have L5:=Lib.hid hM2.1;have B5:=Lib.hid (only_trans B4.out hM2.2);clear hM hM2)
  | (go_at_call 259;refine (HEQ.out _ (L5.out.1 7) (L5.out.2 7)).mono ?_;rintro e w6 ⟨rfl,hM⟩;have hM2:=hM.lay L5.out;have L6:=Lib.hid hM2.1;have B6:=Lib.hid (only_trans B5.out hM2.2);clear hM hM2))
 refine wp_goto ?_
 refine And.intro (a:=0=0) rfl ?_
 have huv:(⟨#[]⟩:ByteArray).size≤65536:=by decide
 go_wp2_with (first
  | (go_at_call 226;refine (HUN.out _ (HE.out.but B6.out h6g).1).mono ?_;rintro e wu ⟨rfl,hB⟩;have LU:=Lib.hid (L6.out.below hB (Lay.lt L6.out));have BU:=Lib.hid (only_then B6.out hB);clear hB)
  | (go_at_call 272;refine (keepAttr_any nm ⟨#[]⟩ s raw T g aq (by omega) huv _ (RdAt.mk' (T':=T) HO.out h6 HZ.out rfl LU.out rfl rfl BU.out)).mono ?_;rintro e wk ⟨rfl,hR,hB⟩;have HR:=Lib.hid hR;have HBK:=Lib.hid ((only_below BU.out (Nat.le_of_lt hg)).trans hB);clear hR hB))
 (try simp only[Exit.jump])
 go_ret
 exact ⟨rfl,HR.out,HBK.out⟩
end Go.Proofs.YthdkkpbhijlpaaaGreatDoor
namespace Go.Proofs.YthdkkpbhijlpaaaGreatDoor
open Go.ChangeShapes Go.WideShapes Go.ChangeAt Go.RowKit Go.Shelf Go.Deep
theorem aVal_le {s:ByteArray} {i:Nat} (hi:i<s.size) (h61:byteAt s (aEq s i)=61):aEq s i+1≤s.size∧aVal s i≤s.size:=by
 have hlt:aEq s i<s.size:=by
  rcases Nat.lt_or_ge (aEq s i) s.size with h1 | h1
  ·exact h1
  ·rw[byteAt,dif_neg (by omega)]at h61;omega
 have:=runAt_le blankB s (aEq s i+1) hlt
 exact ⟨hlt,by unfold aVal;omega⟩
set_option maxHeartbeats 4000000 in
set_option maxRecDepth 1000000 in
theorem readAttr_plain (s raw:ByteArray) (T:Tk) (g i:Nat) (hs:s.size≤65536) (hi:i<s.size) (w:World) (hE:Env2 w) (h6g:5 + 1≤g) (h:RdAt w g T s i raw) (h61:byteAt s (aEq s i)=61) (h34:byteAt s (aVal s i)≠34) (h39:byteAt s (aVal s i)≠39):
 Calls Tryz.prog 258 #[.pointer (some ⟨g,0,none⟩)] w (StOut g s raw w (.func (.func 223) #[] #[]) { T with al:=keepA T.al (attrI s i).1 (attrI s i).2.1 } (attrI s i).2.2):=by
 obtain ⟨A,c,L,hO,h6,hz⟩:=h
 have hg:=Lay.lt L
 have HO:=Lib.hid hO
 have HZ:=Lib.hid hz
 have HE:=Lib.hid hE
 have L1:=Lib.hid L
 have c7:=L.1 7
 have hE1:=aEnd_le hi
 have hE2:=aEq_le hi
 have hcut:∀w,(Instr.slice 9 (.string (tl s i)) (some (.int .i64 1)) none none).run Tryz.prog w=.ok (.string (tl s (i+1))) w:=cutFrom_at s i 1 hi
 have HI:=Lib.hid (lengthTo_any s attrCs inAttr attrMarks (i+1) hs hi)
 have hr:=runAt_le inAttr s (i+1) hi
 have hEe:i+(1+runAt inAttr s (i+1))=aEnd s i:=by unfold aEnd;omega
 have HLW:Hid (∀w,Calls Tryz.prog 218 #[.string (s.extract i (aEnd s i))] w fun e w'=>e=.returned (.string (lowX s i (aEnd s i)))∧Below w.heap.size w w'):=Lib.hid (fun w=>implLowerOf_small (s.extract i (aEnd s i)) w (by rw[ByteArray.size_extract];omega))
 have hnm:=lowX_size s i (aEnd s i)
 have HSK:Hid (∀w (_:g<w.heap.size) (_:w.cell? ⟨g,7,none⟩=some (.string (tl s (aEnd s i)))) (_:w.frozen? ⟨g,7,none⟩=false),Calls Tryz.prog 257 #[.pointer (some ⟨g,0,none⟩),.string blankCs] w fun e w'=>e=.returned (.string (s.extract (aEnd s i) (aEq s i)))∧Mv g s (aEq s i) w w'):=
  Lib.hid fun w h1 h2 h3=>skip_any s blankCs blankB blank_cs (asc_of (by decide)) (by decide) (aEnd s i) g hs hE1.2 w h1 h2 h3
 have HEQ:Hid (∀w (_:w.cell? ⟨g,7,none⟩=some (.string (tl s (aEq s i)))) (_:w.frozen? ⟨g,7,none⟩=false),Calls Tryz.prog 259 #[.pointer (some ⟨g,0,none⟩),.string ⟨#[61]⟩] w fun e w'=>e=.returned (.bool (byteAt s (aEq s i)==61))∧Mv g s (if (byteAt s (aEq s i)==61)=true then aEq s i+1 else aEq s i) w w'):=
  Lib.hid fun w h1 h2=>by have:=skipOne_any s ⟨#[61]⟩ (aEq s i) g w h1 h2;rw[pre_one]at this;exact this
 have hA:=aVal_le hi h61
 have HSK2:Hid (∀w (_:g<w.heap.size) (_:w.cell? ⟨g,7,none⟩=some (.string (tl s (aEq s i+1)))) (_:w.frozen? ⟨g,7,none⟩=false),Calls Tryz.prog 257 #[.pointer (some ⟨g,0,none⟩),.string blankCs] w fun e w'=>e=.returned (.string (s.extract (aEq s i+1) (aVal s i)))∧Mv g s (aVal s i) w w'):=
  Lib.hid fun w h1 h2 h3=>skip_any s blankCs blankB blank_cs (asc_of (by decide)) (by decide) (aEq s i+1) g hs hA.1 w h1 h2 h3
 have HQ1:Hid (∀w (_:w.cell? ⟨g,7,none⟩=some (.string (tl s (aVal s i)))) (_:w.frozen? ⟨g,7,none⟩=false),Calls Tryz.prog 259 #[.pointer (some ⟨g,0,none⟩),.string ⟨#[34]⟩] w fun e w'=>e=.returned (.bool (byteAt s (aVal s i)==34))∧Mv g s (if (byteAt s (aVal s i)==34)=true then aVal s i+1 else aVal s i) w w'):=
  Lib.hid fun w h1 h2=>by have:=skipOne_any s ⟨#[34]⟩ (aVal s i) g w h1 h2;rw[pre_one]at this;exact this
 have HQ2:Hid (∀w (_:w.cell? ⟨g,7,none⟩=some (.string (tl s (aVal s i)))) (_:w.frozen? ⟨g,7,none⟩=false),Calls Tryz.prog 259 #[.pointer (some ⟨g,0,none⟩),.string ⟨#[39]⟩] w fun e w'=>e=.returned (.bool (byteAt s (aVal s i)==39))∧Mv g s (if (byteAt s (aVal s i)==39)=true then aVal s i+1 else aVal s i) w w'):=
  Lib.hid fun w h1 h2=>by have:=skipOne_any s ⟨#[39]⟩ (aVal s i) g w h1 h2;rw[pre_one]at this;exact this
 rw[show (byteAt s (aEq s i)==61)=true by simpa using h61,if_pos rfl]at HEQ
 have HV:=Lib.hid (show attrI s i=(lowX s i (aEnd s i),unX s (aVal s i) (aStop s i),aStop s i) from by unfold attrI;rw[if_pos h61,if_neg (by simp[h34,h39])])
 have HUN:=Lib.hid (unEsc s (aVal s i) (aStop s i) hs)
 have huv:(unX s (aVal s i) (aStop s i)).size≤65536:=Nat.le_trans (unX_size _ _ _) hs
 rw[show (byteAt s (aVal s i)==34)=false by simpa using h34,if_neg (by decide)]at HQ1
 rw[show (byteAt s (aVal s i)==39)=false by simpa using h39,if_neg (by decide)]at HQ2
 have HTT:Hid (∀w (_:g<w.heap.size) (_:w.cell? ⟨g,7,none⟩=some (.string (tl s (aVal s i)))) (_:w.frozen? ⟨g,7,none⟩=false),Calls Tryz.prog 222 #[.pointer (some ⟨g,0,none⟩),.string valCs] w fun e w'=>e=.returned (.string (s.extract (aVal s i) (aStop s i)))∧Mv g s (aStop s i) w w'):=
  Lib.hid fun w h1 h2 h3=>takeTo_any s valCs inVal valMarks (aVal s i) g hs hA.2 w h1 h2 h3
 clear h61 h34 h39
 generalize lowX s i (aEnd s i)=nm at HLW hnm HV
 generalize hae:aEnd s i=ae at hEe HLW hE1 hE2 HSK HV
 generalize runAt inAttr s (i+1)=n1 at HI hr hEe
 clear hO hz L hE hae
 generalize unX s (aVal s i) (aStop s i)=uv at HV HUN huv
 generalize aStop s i=az at HV HUN HTT
 generalize aVal s i=av at HTT HUN HQ1 HQ2 HSK2 hA
 generalize aEq s i=aq at hE2 HSK HEQ HSK2 hA
 generalize attrI s i=R at HV ⊢
 obtain rfl:=HV.out
 clear HV
 go_enter Tryz.func258,Tryz.ntmps258
 go_wp2
 refine wp_scope_ahead 0 rfl ?_
 go_wp2_with (first
  | (go_at_call 257;refine (HSK2.out _ (Lay.lt L6.out) (L6.out.1 7) (L6.out.2 7)).mono ?_;rintro e w7 ⟨rfl,hM⟩;have hM2:=hM.lay L6.out;have L7:=Lib.hid hM2.1;have B7:=Lib.hid (only_trans B6.out hM2.2);have hgw:=Lay.lt hM2.1;have hgne:w7.heap.size≠g:=Nat.ne_of_gt hgw;clear hM hM2)
  | (go_at_call 259;refine (HEQ.out _ (L5.out.1 7) (L5.out.2 7)).mono ?_;rintro e w6 ⟨rfl,hM⟩;have hM2:=hM.lay L5.out;have L6:=Lib.hid hM2.1;have B6:=Lib.hid (only_trans B5.out hM2.2);clear hM hM2)
  | (go_at_call 227;refine (HI.out _).mono ?_;rintro e w2 ⟨rfl,hB⟩;have L2:=Lib.hid (L1.out.below hB hg);have B2:=Lib.hid (But.of_below (C:=fun k=>k=g) hB);clear hB)
  | (go_at_call 220;refine (take_to s i (1+n1) ae g (1+(n1:Int)) (by push_cast;rfl) hEe hs hE1.2 _ (L2.out.1 7) (L2.out.2 7)).mono ?_;rintro e w3 ⟨rfl,hM⟩;have hM2:=hM.lay L2.out;have L3:=Lib.hid hM2.1;have B3:=Lib.hid (only_trans B2.out hM2.2);clear hM hM2)
  | (go_at_call 218;refine (HLW.out _).mono ?_;rintro e w4 ⟨rfl,hB⟩;have L4:=Lib.hid (L3.out.below hB (Lay.lt L3.out));have B4:=Lib.hid (only_then B3.out hB);clear hB)
  | (go_at_call 257;refine (HSK.out _ (Lay.lt L4.out) (L4.out.1 7) (L4.out.2 7)).mono ?_;rintro e w5 ⟨rfl,hM⟩;have hM2:=hM.lay L4.out;have L5:=Lib.hid hM2.1;have B5:=Lib.hid (only_trans B4.out hM2.2);clear hM hM2))
 have L8:=Lib.hid (L7.out.alloc hgw (.cells #[.string ⟨#[34]⟩,.string ⟨#[39]⟩] 9))
 have B8:=Lib.hid (only_then B7.out ((Below.refl w7.heap.size w7).alloc (Nat.le_refl _) (.cells #[.string ⟨#[34]⟩,.string ⟨#[39]⟩] 9)))
 have Q8:=Lib.hid (Lay.new w7 #[.string ⟨#[34]⟩,.string ⟨#[39]⟩] 9)
 refine wp_loop_rounds 3 ?_
 (try rw[rounds_succ])
 go_wp2_with (go_at_call 259;refine (HQ1.out _ (L8.out.1 7) (L8.out.2 7)).mono ?_;rintro e w9 ⟨rfl,hM⟩;have hM2:=hM.lay L8.out;have L9:=Lib.hid hM2.1;have B9:=Lib.hid (only_trans B8.out hM2.2);have q1:=(hM2.2.cell (p:=⟨w7.heap.size,1,none⟩) (by simp) hgne).trans (Q8.out.1 1);clear hM hM2)
 (try rw[rounds_succ])
 go_wp2_with (go_at_call 259;refine (HQ2.out _ (L9.out.1 7) (L9.out.2 7)).mono ?_;rintro e w10 ⟨rfl,hM⟩;have hM2:=hM.lay L9.out;have L10:=Lib.hid hM2.1;have B10:=Lib.hid (only_trans B9.out hM2.2);clear hM hM2)
 (try rw[rounds_succ])
 go_wp2_with (go_at_call 222;refine (HTT.out _ (Lay.lt L10.out) (L10.out.1 7) (L10.out.2 7)).mono ?_;rintro e w11 ⟨rfl,hM⟩;have hM2:=hM.lay L10.out;have L11:=Lib.hid hM2.1;have B11:=Lib.hid (only_trans B10.out hM2.2);clear hM hM2)
 go_step3
 go_wp2_with (first
  | (go_at_call 226;refine (HUN.out _ (HE.out.but B11.out h6g).1).mono ?_;rintro e wu ⟨rfl,hB⟩;have LU:=Lib.hid (L11.out.below hB (Lay.lt L11.out));have BU:=Lib.hid (only_then B11.out hB);clear hB)
  | (go_at_call 272;refine (keepAttr_any nm uv s raw T g az (by omega) huv _ (RdAt.mk' (T':=T) HO.out h6 HZ.out rfl LU.out rfl rfl BU.out)).mono ?_;rintro e wk ⟨rfl,hR,hB⟩;have HR:=Lib.hid hR;have HBK:=Lib.hid ((only_below BU.out (Nat.le_of_lt hg)).trans hB);clear hR hB))
 (try simp only[Exit.jump])
 go_ret
 exact ⟨rfl,HR.out,HBK.out⟩
end Go.Proofs.YthdkkpbhijlpaaaGreatDoor
namespace Go.Proofs.YthdkkpbhijlpaaaGreatDoor
open Go.ChangeShapes Go.WideShapes Go.ChangeAt Go.RowKit Go.Shelf Go.Deep
set_option maxHeartbeats 4000000 in
set_option maxRecDepth 1000000 in
theorem readAttr_dbl (s raw:ByteArray) (T:Tk) (g i:Nat) (hs:s.size≤65536) (hi:i<s.size) (w:World) (hE:Env2 w) (h6g:5 + 1≤g) (h:RdAt w g T s i raw) (h61:byteAt s (aEq s i)=61) (h34:byteAt s (aVal s i)=34):
 Calls Tryz.prog 258 #[.pointer (some ⟨g,0,none⟩)] w (StOut g s raw w (.func (.func 223) #[] #[]) { T with al:=keepA T.al (attrI s i).1 (attrI s i).2.1 } (attrI s i).2.2):=by
 obtain ⟨A,c,L,hO,h6,hz⟩:=h
 have hg:=Lay.lt L
 have HO:=Lib.hid hO
 have HZ:=Lib.hid hz
 have HE:=Lib.hid hE
 have L1:=Lib.hid L
 have c7:=L.1 7
 have hE1:=aEnd_le hi
 have hE2:=aEq_le hi
 have hcut:∀w,(Instr.slice 9 (.string (tl s i)) (some (.int .i64 1)) none none).run Tryz.prog w=.ok (.string (tl s (i+1))) w:=cutFrom_at s i 1 hi
 have HI:=Lib.hid (lengthTo_any s attrCs inAttr attrMarks (i+1) hs hi)
 have hr:=runAt_le inAttr s (i+1) hi
 have hEe:i+(1+runAt inAttr s (i+1))=aEnd s i:=by unfold aEnd;omega
 have HLW:Hid (∀w,Calls Tryz.prog 218 #[.string (s.extract i (aEnd s i))] w fun e w'=>e=.returned (.string (lowX s i (aEnd s i)))∧Below w.heap.size w w'):=Lib.hid (fun w=>implLowerOf_small (s.extract i (aEnd s i)) w (by rw[ByteArray.size_extract];omega))
 have hnm:=lowX_size s i (aEnd s i)
 have HSK:Hid (∀w (_:g<w.heap.size) (_:w.cell? ⟨g,7,none⟩=some (.string (tl s (aEnd s i)))) (_:w.frozen? ⟨g,7,none⟩=false),Calls Tryz.prog 257 #[.pointer (some ⟨g,0,none⟩),.string blankCs] w fun e w'=>e=.returned (.string (s.extract (aEnd s i) (aEq s i)))∧Mv g s (aEq s i) w w'):=
  Lib.hid fun w h1 h2 h3=>skip_any s blankCs blankB blank_cs (asc_of (by decide)) (by decide) (aEnd s i) g hs hE1.2 w h1 h2 h3
 have HEQ:Hid (∀w (_:w.cell? ⟨g,7,none⟩=some (.string (tl s (aEq s i)))) (_:w.frozen? ⟨g,7,none⟩=false),Calls Tryz.prog 259 #[.pointer (some ⟨g,0,none⟩),.string ⟨#[61]⟩] w fun e w'=>e=.returned (.bool (byteAt s (aEq s i)==61))∧Mv g s (if (byteAt s (aEq s i)==61)=true then aEq s i+1 else aEq s i) w w'):=
  Lib.hid fun w h1 h2=>by have:=skipOne_any s ⟨#[61]⟩ (aEq s i) g w h1 h2;rw[pre_one]at this;exact this
 have hA:=aVal_le hi h61
 have HSK2:Hid (∀w (_:g<w.heap.size) (_:w.cell? ⟨g,7,none⟩=some (.string (tl s (aEq s i+1)))) (_:w.frozen? ⟨g,7,none⟩=false),Calls Tryz.prog 257 #[.pointer (some ⟨g,0,none⟩),.string blankCs] w fun e w'=>e=.returned (.string (s.extract (aEq s i+1) (aVal s i)))∧Mv g s (aVal s i) w w'):=
  Lib.hid fun w h1 h2 h3=>skip_any s blankCs blankB blank_cs (asc_of (by decide)) (by decide) (aEq s i+1) g hs hA.1 w h1 h2 h3
 have HQ1:Hid (∀w (_:w.cell? ⟨g,7,none⟩=some (.string (tl s (aVal s i)))) (_:w.frozen? ⟨g,7,none⟩=false),Calls Tryz.prog 259 #[.pointer (some ⟨g,0,none⟩),.string ⟨#[34]⟩] w fun e w'=>e=.returned (.bool (byteAt s (aVal s i)==34))∧Mv g s (if (byteAt s (aVal s i)==34)=true then aVal s i+1 else aVal s i) w w'):=
  Lib.hid fun w h1 h2=>by have:=skipOne_any s ⟨#[34]⟩ (aVal s i) g w h1 h2;rw[pre_one]at this;exact this
 have HQ2:Hid (∀w (_:w.cell? ⟨g,7,none⟩=some (.string (tl s (aVal s i)))) (_:w.frozen? ⟨g,7,none⟩=false),Calls Tryz.prog 259 #[.pointer (some ⟨g,0,none⟩),.string ⟨#[39]⟩] w fun e w'=>e=.returned (.bool (byteAt s (aVal s i)==39))∧Mv g s (if (byteAt s (aVal s i)==39)=true then aVal s i+1 else aVal s i) w w'):=
  Lib.hid fun w h1 h2=>by have:=skipOne_any s ⟨#[39]⟩ (aVal s i) g w h1 h2;rw[pre_one]at this;exact this
 rw[show (byteAt s (aEq s i)==61)=true by simpa using h61,if_pos rfl]at HEQ
 have HV:=Lib.hid (show attrI s i=(lowX s i (aEnd s i),unX s (aVal s i+1) (findTo s ⟨#[34]⟩ (aVal s i+1)).1,gone s ⟨#[34]⟩ (aVal s i+1)) from by unfold attrI;rw[if_pos h61,if_pos (Or.inl h34),quote_at (c:=34) h34])
 have HUN:=Lib.hid (unEsc s (aVal s i+1) (findTo s ⟨#[34]⟩ (aVal s i+1)).1 hs)
 have huv:(unX s (aVal s i+1) (findTo s ⟨#[34]⟩ (aVal s i+1)).1).size≤65536:=Nat.le_trans (unX_size _ _ _) hs
 have hav:aVal s i+1≤s.size:=by
  rcases Nat.lt_or_ge (aVal s i) s.size with h1 | h1
  ·exact h1
  ·rw[byteAt,dif_neg (by omega)]at h34;omega
 rw[show (byteAt s (aVal s i)==34)=true by simpa using h34,if_pos rfl]at HQ1
 have HTT:Hid (∀w (_:Env2 w) (_:g<w.heap.size) (_:w.cell? ⟨g,7,none⟩=some (.string (tl s (aVal s i+1)))) (_:w.frozen? ⟨g,7,none⟩=false),Calls Tryz.prog 225 #[.pointer (some ⟨g,0,none⟩),.string ⟨#[34]⟩] w fun e w'=>e=.returned (.string (s.extract (aVal s i+1) (findTo s ⟨#[34]⟩ (aVal s i+1)).1))∧Mv g s (gone s ⟨#[34]⟩ (aVal s i+1)) w w'):=
  Lib.hid fun w h0 h1 h2 h3=>takeBefore_any s ⟨#[34]⟩ (aVal s i+1) g hs hav w h0 h1 h2 h3
 clear h61 h34
 generalize lowX s i (aEnd s i)=nm at HLW hnm HV
 generalize hae:aEnd s i=ae at hEe HLW hE1 hE2 HSK HV
 generalize runAt inAttr s (i+1)=n1 at HI hr hEe
 clear hO hz L hE hae
 generalize (findTo s ⟨#[34]⟩ (aVal s i+1)).1=fd at HV HUN huv HTT
 generalize unX s (aVal s i+1) fd=uv at HV HUN huv
 generalize gone s ⟨#[34]⟩ (aVal s i+1)=az at HV HTT
 generalize aVal s i=av at HTT HUN HQ1 HQ2 HSK2 hA hav
 generalize aEq s i=aq at hE2 HSK HEQ HSK2 hA
 generalize attrI s i=R at HV ⊢
 obtain rfl:=HV.out
 clear HV
 go_enter Tryz.func258,Tryz.ntmps258
 go_wp2
 refine wp_scope_ahead 0 rfl ?_
 go_wp2_with (first
  | (go_at_call 257;refine (HSK2.out _ (Lay.lt L6.out) (L6.out.1 7) (L6.out.2 7)).mono ?_;rintro e w7 ⟨rfl,hM⟩;have hM2:=hM.lay L6.out;have L7:=Lib.hid hM2.1;have B7:=Lib.hid (only_trans B6.out hM2.2);have hgw:=Lay.lt hM2.1;have hgne:w7.heap.size≠g:=Nat.ne_of_gt hgw;clear hM hM2)
  | (go_at_call 259;refine (HEQ.out _ (L5.out.1 7) (L5.out.2 7)).mono ?_;rintro e w6 ⟨rfl,hM⟩;have hM2:=hM.lay L5.out;have L6:=Lib.hid hM2.1;have B6:=Lib.hid (only_trans B5.out hM2.2);clear hM hM2)
  | (go_at_call 227;refine (HI.out _).mono ?_;rintro e w2 ⟨rfl,hB⟩;have L2:=Lib.hid (L1.out.below hB hg);have B2:=Lib.hid (But.of_below (C:=fun k=>k=g) hB);clear hB)
  | (go_at_call 220;refine (take_to s i (1+n1) ae g (1+(n1:Int)) (by push_cast;rfl) hEe hs hE1.2 _ (L2.out.1 7) (L2.out.2 7)).mono ?_;rintro e w3 ⟨rfl,hM⟩;have hM2:=hM.lay L2.out;have L3:=Lib.hid hM2.1;have B3:=Lib.hid (only_trans B2.out hM2.2);clear hM hM2)
  | (go_at_call 218;refine (HLW.out _).mono ?_;rintro e w4 ⟨rfl,hB⟩;have L4:=Lib.hid (L3.out.below hB (Lay.lt L3.out));have B4:=Lib.hid (only_then B3.out hB);clear hB)
  | (go_at_call 257;refine (HSK.out _ (Lay.lt L4.out) (L4.out.1 7) (L4.out.2 7)).mono ?_;rintro e w5 ⟨rfl,hM⟩;have hM2:=hM.lay L4.out;have L5:=Lib.hid hM2.1;have B5:=Lib.hid (only_trans B4.out hM2.2);clear hM hM2))
 have L8:=Lib.hid (L7.out.alloc hgw (.cells #[.string ⟨#[34]⟩,.string ⟨#[39]⟩] 9))
 have B8:=Lib.hid (only_then B7.out ((Below.refl w7.heap.size w7).alloc (Nat.le_refl _) (.cells #[.string ⟨#[34]⟩,.string ⟨#[39]⟩] 9)))
 have Q8:=Lib.hid (Lay.new w7 #[.string ⟨#[34]⟩,.string ⟨#[39]⟩] 9)
 refine wp_loop_rounds 3 ?_
 (try rw[rounds_succ])
 go_wp2_with (go_at_call 259;refine (HQ1.out _ (L8.out.1 7) (L8.out.2 7)).mono ?_;rintro e w9 ⟨rfl,hM⟩;have hM2:=hM.lay L8.out;have L9:=Lib.hid hM2.1;have B9:=Lib.hid (only_trans B8.out hM2.2);have q1:=(hM2.2.cell (p:=⟨w7.heap.size,1,none⟩) (by simp) hgne).trans (Q8.out.1 1);clear hM hM2)
 go_wp2_with (go_at_call 225;refine (HTT.out _ (HE.out.but B9.out h6g) (Lay.lt L9.out) (L9.out.1 7) (L9.out.2 7)).mono ?_;rintro e w11 ⟨rfl,hM⟩;have hM2:=hM.lay L9.out;have L11:=Lib.hid hM2.1;have B11:=Lib.hid (only_trans B9.out hM2.2);clear hM hM2)
 refine wp_goto ?_
 refine And.intro (a:=0=0) rfl ?_
 go_wp2_with (first
  | (go_at_call 226;refine (HUN.out _ (HE.out.but B11.out h6g).1).mono ?_;rintro e wu ⟨rfl,hB⟩;have LU:=Lib.hid (L11.out.below hB (Lay.lt L11.out));have BU:=Lib.hid (only_then B11.out hB);clear hB)
  | (go_at_call 272;refine (keepAttr_any nm uv s raw T g az (by omega) huv _ (RdAt.mk' (T':=T) HO.out h6 HZ.out rfl LU.out rfl rfl BU.out)).mono ?_;rintro e wk ⟨rfl,hR,hB⟩;have HR:=Lib.hid hR;have HBK:=Lib.hid ((only_below BU.out (Nat.le_of_lt hg)).trans hB);clear hR hB))
 (try simp only[Exit.jump])
 go_ret
 exact ⟨rfl,HR.out,HBK.out⟩
set_option maxHeartbeats 4000000 in
set_option maxRecDepth 1000000 in
theorem readAttr_sgl (s raw:ByteArray) (T:Tk) (g i:Nat) (hs:s.size≤65536) (hi:i<s.size) (w:World) (hE:Env2 w) (h6g:5 + 1≤g) (h:RdAt w g T s i raw) (h61:byteAt s (aEq s i)=61) (h39:byteAt s (aVal s i)=39):
 Calls Tryz.prog 258 #[.pointer (some ⟨g,0,none⟩)] w (StOut g s raw w (.func (.func 223) #[] #[]) { T with al:=keepA T.al (attrI s i).1 (attrI s i).2.1 } (attrI s i).2.2):=by
 obtain ⟨A,c,L,hO,h6,hz⟩:=h
 have hg:=Lay.lt L
 have HO:=Lib.hid hO
 have HZ:=Lib.hid hz
 have HE:=Lib.hid hE
 have L1:=Lib.hid L
 have c7:=L.1 7
 have hE1:=aEnd_le hi
 have hE2:=aEq_le hi
 have hcut:∀w,(Instr.slice 9 (.string (tl s i)) (some (.int .i64 1)) none none).run Tryz.prog w=.ok (.string (tl s (i+1))) w:=cutFrom_at s i 1 hi
 have HI:=Lib.hid (lengthTo_any s attrCs inAttr attrMarks (i+1) hs hi)
 have hr:=runAt_le inAttr s (i+1) hi
 have hEe:i+(1+runAt inAttr s (i+1))=aEnd s i:=by unfold aEnd;omega
 have HLW:Hid (∀w,Calls Tryz.prog 218 #[.string (s.extract i (aEnd s i))] w fun e w'=>e=.returned (.string (lowX s i (aEnd s i)))∧Below w.heap.size w w'):=Lib.hid (fun w=>implLowerOf_small (s.extract i (aEnd s i)) w (by rw[ByteArray.size_extract];omega))
 have hnm:=lowX_size s i (aEnd s i)
 have HSK:Hid (∀w (_:g<w.heap.size) (_:w.cell? ⟨g,7,none⟩=some (.string (tl s (aEnd s i)))) (_:w.frozen? ⟨g,7,none⟩=false),Calls Tryz.prog 257 #[.pointer (some ⟨g,0,none⟩),.string blankCs] w fun e w'=>e=.returned (.string (s.extract (aEnd s i) (aEq s i)))∧Mv g s (aEq s i) w w'):=
  Lib.hid fun w h1 h2 h3=>skip_any s blankCs blankB blank_cs (asc_of (by decide)) (by decide) (aEnd s i) g hs hE1.2 w h1 h2 h3
 have HEQ:Hid (∀w (_:w.cell? ⟨g,7,none⟩=some (.string (tl s (aEq s i)))) (_:w.frozen? ⟨g,7,none⟩=false),Calls Tryz.prog 259 #[.pointer (some ⟨g,0,none⟩),.string ⟨#[61]⟩] w fun e w'=>e=.returned (.bool (byteAt s (aEq s i)==61))∧Mv g s (if (byteAt s (aEq s i)==61)=true then aEq s i+1 else aEq s i) w w'):=
  Lib.hid fun w h1 h2=>by have:=skipOne_any s ⟨#[61]⟩ (aEq s i) g w h1 h2;rw[pre_one]at this;exact this
 have hA:=aVal_le hi h61
 have HSK2:Hid (∀w (_:g<w.heap.size) (_:w.cell? ⟨g,7,none⟩=some (.string (tl s (aEq s i+1)))) (_:w.frozen? ⟨g,7,none⟩=false),Calls Tryz.prog 257 #[.pointer (some ⟨g,0,none⟩),.string blankCs] w fun e w'=>e=.returned (.string (s.extract (aEq s i+1) (aVal s i)))∧Mv g s (aVal s i) w w'):=
  Lib.hid fun w h1 h2 h3=>skip_any s blankCs blankB blank_cs (asc_of (by decide)) (by decide) (aEq s i+1) g hs hA.1 w h1 h2 h3
 have HQ1:Hid (∀w (_:w.cell? ⟨g,7,none⟩=some (.string (tl s (aVal s i)))) (_:w.frozen? ⟨g,7,none⟩=false),Calls Tryz.prog 259 #[.pointer (some ⟨g,0,none⟩),.string ⟨#[34]⟩] w fun e w'=>e=.returned (.bool (byteAt s (aVal s i)==34))∧Mv g s (if (byteAt s (aVal s i)==34)=true then aVal s i+1 else aVal s i) w w'):=
  Lib.hid fun w h1 h2=>by have:=skipOne_any s ⟨#[34]⟩ (aVal s i) g w h1 h2;rw[pre_one]at this;exact this
 have HQ2:Hid (∀w (_:w.cell? ⟨g,7,none⟩=some (.string (tl s (aVal s i)))) (_:w.frozen? ⟨g,7,none⟩=false),Calls Tryz.prog 259 #[.pointer (some ⟨g,0,none⟩),.string ⟨#[39]⟩] w fun e w'=>e=.returned (.bool (byteAt s (aVal s i)==39))∧Mv g s (if (byteAt s (aVal s i)==39)=true then aVal s i+1 else aVal s i) w w'):=
  Lib.hid fun w h1 h2=>by have:=skipOne_any s ⟨#[39]⟩ (aVal s i) g w h1 h2;rw[pre_one]at this;exact this
 rw[show (byteAt s (aEq s i)==61)=true by simpa using h61,if_pos rfl]at HEQ
 have HV:=Lib.hid (show attrI s i=(lowX s i (aEnd s i),unX s (aVal s i+1) (findTo s ⟨#[39]⟩ (aVal s i+1)).1,gone s ⟨#[39]⟩ (aVal s i+1)) from by unfold attrI;rw[if_pos h61,if_pos (Or.inr h39),quote_at (c:=39) h39])
 have HUN:=Lib.hid (unEsc s (aVal s i+1) (findTo s ⟨#[39]⟩ (aVal s i+1)).1 hs)
 have huv:(unX s (aVal s i+1) (findTo s ⟨#[39]⟩ (aVal s i+1)).1).size≤65536:=Nat.le_trans (unX_size _ _ _) hs
 have hav:aVal s i+1≤s.size:=by
  rcases Nat.lt_or_ge (aVal s i) s.size with h1 | h1
  ·exact h1
  ·rw[byteAt,dif_neg (by omega)]at h39;omega
 rw[show (byteAt s (aVal s i)==34)=false by rw[h39];decide,if_neg (by decide)]at HQ1
 rw[show (byteAt s (aVal s i)==39)=true by simpa using h39,if_pos rfl]at HQ2
 have HTT:Hid (∀w (_:Env2 w) (_:g<w.heap.size) (_:w.cell? ⟨g,7,none⟩=some (.string (tl s (aVal s i+1)))) (_:w.frozen? ⟨g,7,none⟩=false),Calls Tryz.prog 225 #[.pointer (some ⟨g,0,none⟩),.string ⟨#[39]⟩] w fun e w'=>e=.returned (.string (s.extract (aVal s i+1) (findTo s ⟨#[39]⟩ (aVal s i+1)).1))∧Mv g s (gone s ⟨#[39]⟩ (aVal s i+1)) w w'):=
  Lib.hid fun w h0 h1 h2 h3=>takeBefore_any s ⟨#[39]⟩ (aVal s i+1) g hs hav w h0 h1 h2 h3
 clear h61 h39
 generalize lowX s i (aEnd s i)=nm at HLW hnm HV
 generalize hae:aEnd s i=ae at hEe HLW hE1 hE2 HSK HV
 generalize runAt inAttr s (i+1)=n1 at HI hr hEe
 clear hO hz L hE hae
 generalize (findTo s ⟨#[39]⟩ (aVal s i+1)).1=fd at HV HUN huv HTT
 generalize unX s (aVal s i+1) fd=uv at HV HUN huv
 generalize gone s ⟨#[39]⟩ (aVal s i+1)=az at HV HTT
 generalize aVal s i=av at HTT HUN HQ1 HQ2 HSK2 hA hav
 generalize aEq s i=aq at hE2 HSK HEQ HSK2 hA
 generalize attrI s i=R at HV ⊢
 obtain rfl:=HV.out
 clear HV
 go_enter Tryz.func258,Tryz.ntmps258
 go_wp2
 refine wp_scope_ahead 0 rfl ?_
 go_wp2_with (first
  | (go_at_call 257;refine (HSK2.out _ (Lay.lt L6.out) (L6.out.1 7) (L6.out.2 7)).mono ?_;rintro e w7 ⟨rfl,hM⟩;have hM2:=hM.lay L6.out;have L7:=Lib.hid hM2.1;have B7:=Lib.hid (only_trans B6.out hM2.2);have hgw:=Lay.lt hM2.1;have hgne:w7.heap.size≠g:=Nat.ne_of_gt hgw;clear hM hM2)
  | (go_at_call 259;refine (HEQ.out _ (L5.out.1 7) (L5.out.2 7)).mono ?_;rintro e w6 ⟨rfl,hM⟩;have hM2:=hM.lay L5.out;have L6:=Lib.hid hM2.1;have B6:=Lib.hid (only_trans B5.out hM2.2);clear hM hM2)
  | (go_at_call 227;refine (HI.out _).mono ?_;rintro e w2 ⟨rfl,hB⟩;have L2:=Lib.hid (L1.out.below hB hg);have B2:=Lib.hid (But.of_below (C:=fun k=>k=g) hB);clear hB)
  | (go_at_call 220;refine (take_to s i (1+n1) ae g (1+(n1:Int)) (by push_cast;rfl) hEe hs hE1.2 _ (L2.out.1 7) (L2.out.2 7)).mono ?_;rintro e w3 ⟨rfl,hM⟩;have hM2:=hM.lay L2.out;have L3:=Lib.hid hM2.1;have B3:=Lib.hid (only_trans B2.out hM2.2);clear hM hM2)
  | (go_at_call 218;refine (HLW.out _).mono ?_;rintro e w4 ⟨rfl,hB⟩;have L4:=Lib.hid (L3.out.below hB (Lay.lt L3.out));have B4:=Lib.hid (only_then B3.out hB);clear hB)
  | (go_at_call 257;refine (HSK.out _ (Lay.lt L4.out) (L4.out.1 7) (L4.out.2 7)).mono ?_;rintro e w5 ⟨rfl,hM⟩;have hM2:=hM.lay L4.out;have L5:=Lib.hid hM2.1;have B5:=Lib.hid (only_trans B4.out hM2.2);clear hM hM2))
 have L8:=Lib.hid (L7.out.alloc hgw (.cells #[.string ⟨#[34]⟩,.string ⟨#[39]⟩] 9))
 have B8:=Lib.hid (only_then B7.out ((Below.refl w7.heap.size w7).alloc (Nat.le_refl _) (.cells #[.string ⟨#[34]⟩,.string ⟨#[39]⟩] 9)))
 have Q8:=Lib.hid (Lay.new w7 #[.string ⟨#[34]⟩,.string ⟨#[39]⟩] 9)
 refine wp_loop_rounds 3 ?_
 (try rw[rounds_succ])
 go_wp2_with (go_at_call 259;refine (HQ1.out _ (L8.out.1 7) (L8.out.2 7)).mono ?_;rintro e w9 ⟨rfl,hM⟩;have hM2:=hM.lay L8.out;have L9:=Lib.hid hM2.1;have B9:=Lib.hid (only_trans B8.out hM2.2);have q1:=(hM2.2.cell (p:=⟨w7.heap.size,1,none⟩) (by simp) hgne).trans (Q8.out.1 1);clear hM hM2)
 (try rw[rounds_succ])
 go_wp2_with (go_at_call 259;refine (HQ2.out _ (L9.out.1 7) (L9.out.2 7)).mono ?_;rintro e w10 ⟨rfl,hM⟩;have hM2:=hM.lay L9.out;have L10:=Lib.hid hM2.1;have B10:=Lib.hid (only_trans B9.out hM2.2);clear hM hM2)
 go_wp2_with (go_at_call 225;refine (HTT.out _ (HE.out.but B10.out h6g) (Lay.lt L10.out) (L10.out.1 7) (L10.out.2 7)).mono ?_;rintro e w11 ⟨rfl,hM⟩;have hM2:=hM.lay L10.out;have L11:=Lib.hid hM2.1;have B11:=Lib.hid (only_trans B10.out hM2.2);clear hM hM2)
 refine wp_goto ?_
 refine And.intro (a:=0=0) rfl ?_
 go_wp2_with (first
  | (go_at_call 226;refine (HUN.out _ (HE.out.but B11.out h6g).1).mono ?_;rintro e wu ⟨rfl,hB⟩;have LU:=Lib.hid (L11.out.below hB (Lay.lt L11.out));have BU:=Lib.hid (only_then B11.out hB);clear hB)
  | (go_at_call 272;refine (keepAttr_any nm uv s raw T g az (by omega) huv _ (RdAt.mk' (T':=T) HO.out h6 HZ.out rfl LU.out rfl rfl BU.out)).mono ?_;rintro e wk ⟨rfl,hR,hB⟩;have HR:=Lib.hid hR;have HBK:=Lib.hid ((only_below BU.out (Nat.le_of_lt hg)).trans hB);clear hR hB))
 (try simp only[Exit.jump])
 go_ret
 exact ⟨rfl,HR.out,HBK.out⟩
theorem readAttr_any (s raw:ByteArray) (T:Tk) (g i:Nat) (hs:s.size≤65536) (hi:i<s.size) (w:World) (hE:Env2 w) (h6g:5 + 1≤g) (h:RdAt w g T s i raw):
 Calls Tryz.prog 258 #[.pointer (some ⟨g,0,none⟩)] w (StOut g s raw w (.func (.func 223) #[] #[]) { T with al:=keepA T.al (attrI s i).1 (attrI s i).2.1 } (attrI s i).2.2):=by
 by_cases h61:byteAt s (aEq s i)=61
 ·by_cases h34:byteAt s (aVal s i)=34
  ·exact readAttr_dbl s raw T g i hs hi w hE h6g h h61 h34
  ·by_cases h39:byteAt s (aVal s i)=39
   ·exact readAttr_sgl s raw T g i hs hi w hE h6g h h61 h39
   ·exact readAttr_plain s raw T g i hs hi w hE h6g h h61 h34 h39
 ·exact readAttr_bare s raw T g i hs hi w hE h6g h h61
end Go.Proofs.YthdkkpbhijlpaaaGreatDoor
