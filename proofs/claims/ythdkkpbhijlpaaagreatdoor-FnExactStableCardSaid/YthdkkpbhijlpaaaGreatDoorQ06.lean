import Derived.Deep.DeepCutAuto
import Derived.Deep.CutBlock
import Derived.Test.YthdkkpbhijlpaaaGreatDoorShelf
import Derived.Lib.SpaceUEq
import Derived.Lib.OthersKept
import Derived.Lib.IndexAny
import Derived.Deep.QuietTactic
import Derived.BigQuiet
import Derived.WalkMore
import Derived.WalkSmall
import Derived.Test.YthdkkpbhijlpaaaGreatDoorQ05
import Derived.Test.YthdkkpbhijlpaaaGreatDoorQ00
import Derived.Test.YthdkkpbhijlpaaaGreatDoorQ01
set_option linter.unusedVariables false
namespace Go.Proofs.YthdkkpbhijlpaaaGreatDoor
open Go.ChangeShapes Go.WideShapes Go.ChangeAt Go.RowKit
def inAttr (c:Int):Bool:=inName c&&c != 61
theorem inAttr_name {c:Int} (h:inName c=false):inAttr c=false:=by simp[inAttr,h]
def aEnd (s:ByteArray) (i:Nat):Nat:=i+1+runAt inAttr s (i+1)
def aEq (s:ByteArray) (i:Nat):Nat:=aEnd s i+runAt blankB s (aEnd s i)
def aVal (s:ByteArray) (i:Nat):Nat:=aEq s i+1+runAt blankB s (aEq s i+1)
def aStop (s:ByteArray) (i:Nat):Nat:=aVal s i+runAt inVal s (aVal s i)
theorem aEnd_le {s:ByteArray} {i:Nat} (h:i<s.size):i<aEnd s i∧aEnd s i≤s.size:=by
 have:=runAt_le inAttr s (i+1) (by omega)
 unfold aEnd;omega
theorem aEq_le {s:ByteArray} {i:Nat} (h:i<s.size):aEnd s i≤aEq s i∧aEq s i≤s.size:=by
 have h1:=aEnd_le h
 have:=runAt_le blankB s (aEnd s i) h1.2
 unfold aEq;omega
theorem inVal_blank {c:Int} (h:blankB c=true):inVal c=false:=by simp[inVal,h]
def unX (s:ByteArray) (a b:Nat):ByteArray:=⟨(un (s.extract a b).data.toList).toArray⟩
noncomputable def attrOf (s:ByteArray) (i:Nat):ByteArray × ByteArray × Nat:=
 if byteAt s (aEq s i)=61 then
  (if byteAt s (aVal s i)=34∨byteAt s (aVal s i)=39 then
   (if (findTo s (s.extract (aVal s i) (aVal s i+1)) (aVal s i+1)).2=true then (lowX s i (aEnd s i),unX s (aVal s i+1) (findTo s (s.extract (aVal s i) (aVal s i+1)) (aVal s i+1)).1,(findTo s (s.extract (aVal s i) (aVal s i+1)) (aVal s i+1)).1+1)
    else (lowX s i (aEnd s i),⟨#[]⟩,s.size))
   else (lowX s i (aEnd s i),unX s (aVal s i) (aStop s i),aStop s i))
  else (lowX s i (aEnd s i),⟨#[]⟩,aEnd s i)
theorem byteAt_out {s:ByteArray}:byteAt s s.size = -1:=dif_neg (Nat.lt_irrefl _)
set_option maxHeartbeats 4000000 in
set_option maxRecDepth 100000 in
theorem l04Attr_any (s:ByteArray) (i:Nat) (hs:s.size≤65536) (hi:i<s.size) (hc:inName (s[i].toNat:Int)=true) (w:World):
 Calls Tryz.prog 190 #[.string s,.int .i64 (i:Int)] w fun e w'=>e=.returned (.tuple #[.string (attrOf s i).1,.string (attrOf s i).2.1,.int .i64 ((attrOf s i).2.2:Nat)])∧Below w.heap.size w w':=by
 have hE:=aEnd_le hi
 have HEn:=Lib.hid (show aEnd s i=i+1+runAt inAttr s (i+1) from rfl)
 have HCI:=Lib.hid hc
 clear hc
 have hE2:=aEq_le hi
 have HE2:=Lib.hid (show aEq s i=aEnd s i+runAt blankB s (aEnd s i) from rfl)
 have HE3:=Lib.hid (show aVal s i=aEq s i+1+runAt blankB s (aEq s i+1) from rfl)
 have HE4:=Lib.hid (show aStop s i=aVal s i+runAt inVal s (aVal s i) from rfl)
 have HAT:=Lib.hid (show attrOf s i=(if byteAt s (aEq s i)=61 then
  (if byteAt s (aVal s i)=34∨byteAt s (aVal s i)=39 then
   (if (findTo s (s.extract (aVal s i) (aVal s i+1)) (aVal s i+1)).2=true then (lowX s i (aEnd s i),unX s (aVal s i+1) (findTo s (s.extract (aVal s i) (aVal s i+1)) (aVal s i+1)).1,(findTo s (s.extract (aVal s i) (aVal s i+1)) (aVal s i+1)).1+1)
    else (lowX s i (aEnd s i),⟨#[]⟩,s.size))
   else (lowX s i (aEnd s i),unX s (aVal s i) (aStop s i),aStop s i))
  else (lowX s i (aEnd s i),⟨#[]⟩,aEnd s i)) from rfl)
 have HV3:Hid (aEq s i<s.size→aEq s i<aVal s i∧aVal s i≤s.size):=Lib.hid fun h=>by have:=runAt_le blankB s (aEq s i+1) (by omega);have:=HE3.out;omega
 have HV4:Hid (aVal s i≤s.size→aVal s i≤aStop s i∧aStop s i≤s.size):=Lib.hid fun h=>by have:=runAt_le inVal s (aVal s i) h;have:=HE4.out;omega
 generalize attrOf s i=AT at HAT ⊢
 generalize aStop s i=e4 at HE4 HAT HV4
 generalize aVal s i=e3 at HE3 HE4 HAT HV3 HV4
 generalize aEq s i=e2 at hE2 HE2 HE3 HAT HV3
 generalize aEnd s i=e1 at hE HEn hE2 HE2 HAT
 go_enter Tryz.func190,Tryz.ntmps190
 go_upto_block 0 with fail
 go_cut [7] (fun s7 wx=>s7=.int .i64 (e1:Int)∧wx=w)
 case first=>
  go_wp2_with fail
  go_loop [7] (fun x=>∃j:Nat,i≤j∧j≤s.size∧x=.int .i64 (j:Int)∧Hid (j=i∨(i+1≤j∧j+runAt inAttr s j=e1))) (fun x=>s.size-(intOf x).toNat)
  case atStart=>exact ⟨i,Nat.le_refl _,by omega,rfl,Lib.hid (Or.inl rfl)⟩
  case round=>
   obtain ⟨j,hij,hj,rfl,HR⟩:=hrel
   by_cases hlt:j<s.size
   ·have HB:=Lib.hid (l04Blank_any (s[j].toNat:Int))
    by_cases hji:j=i
    ·subst hji
     have hb:blankB (s[j].toNat:Int)=false:=by have:=HCI.out;simp[inName]at this;exact this.1.1
     have h1:((s[j].toNat:Int) != 47)=true:=by have:=HCI.out;simp[inName]at this;simpa using this.1.2
     have h2:((s[j].toNat:Int) != 62)=true:=by have:=HCI.out;simp[inName]at this;simpa using this.2
     rw[hb]at HB
     clear hb
     cases h3:((s[j].toNat:Int) != 61) with
     | true=>
      go_wp2_with (go_at_call 187;refine (HB.out _).mono ?_;rintro e w' ⟨rfl,rfl⟩)
      go_round
      case rel=>exact ⟨j+1,by omega,by omega,by go_num,Lib.hid (Or.inr ⟨Nat.le_refl _,HEn.out.symm⟩)⟩
      case measure=>simp[intOf];omega
     | false=>
      go_wp2_with (go_at_call 187;refine (HB.out _).mono ?_;rintro e w' ⟨rfl,rfl⟩)
      go_round
      case rel=>exact ⟨j+1,by omega,by omega,by go_num,Lib.hid (Or.inr ⟨Nat.le_refl _,HEn.out.symm⟩)⟩
      case measure=>simp[intOf];omega
    ·have hjb:((j:Int)==(i:Int))=false:=by simp;omega
     have HR2:Hid (j+runAt inAttr s j=e1):=Lib.hid (by rcases HR.out with h | h;exact absurd h hji;exact h.2)
     clear HR
     cases hb:blankB (s[j].toNat:Int) with
     | true=>
      rw[hb]at HB
      have HJ:Hid (j=e1):=Lib.hid (by have:=HR2.out;rw[runAt_no hlt (inAttr_name (inName_blank hb))]at this;omega)
      go_wp2_with (go_at_call 187;refine (HB.out _).mono ?_;rintro e w' ⟨rfl,rfl⟩)
      go_meet
      case rel=>exact ⟨by rw[←HJ.out],rfl⟩
     | false=>
      rw[hb]at HB
      cases h1:((s[j].toNat:Int) != 47) with
      | false=>
       have HJ:Hid (j=e1):=Lib.hid (by have:=HR2.out;rw[runAt_no hlt (inAttr_name (inName_stroke h1))]at this;omega)
       go_wp2_with (go_at_call 187;refine (HB.out _).mono ?_;rintro e w' ⟨rfl,rfl⟩)
       go_meet
       case rel=>exact ⟨by rw[←HJ.out],rfl⟩
      | true=>
       cases h2:((s[j].toNat:Int) != 62) with
       | false=>
        have HJ:Hid (j=e1):=Lib.hid (by have:=HR2.out;rw[runAt_no hlt (inAttr_name (inName_end h2))]at this;omega)
        go_wp2_with (go_at_call 187;refine (HB.out _).mono ?_;rintro e w' ⟨rfl,rfl⟩)
        go_meet
        case rel=>exact ⟨by rw[←HJ.out],rfl⟩
       | true=>
        cases h3:((s[j].toNat:Int) != 61) with
        | false=>
         have HJ:Hid (j=e1):=Lib.hid (by have:=HR2.out;rw[runAt_no hlt (by simp[inAttr,h3])]at this;omega)
         go_wp2_with (go_at_call 187;refine (HB.out _).mono ?_;rintro e w' ⟨rfl,rfl⟩)
         go_meet
         case rel=>exact ⟨by rw[←HJ.out],rfl⟩
        | true=>
         have HN:Hid (j+1+runAt inAttr s (j+1)=e1):=Lib.hid (by have:=HR2.out;rw[runAt_yes hlt (by simp[inAttr,inName_go hb h1 h2,h3])]at this;omega)
         go_wp2_with (go_at_call 187;refine (HB.out _).mono ?_;rintro e w' ⟨rfl,rfl⟩)
         go_round
         case rel=>exact ⟨j+1,by omega,by omega,by go_num,Lib.hid (Or.inr ⟨by omega,HN.out⟩)⟩
         case measure=>simp[intOf];omega
   ·obtain rfl:j=s.size:=by omega
    have HJ:Hid (s.size=e1):=Lib.hid (by rcases HR.out with h | h;omega;have:=h.2;rw[runAt_end]at this;omega)
    go_wp2
    go_meet
    case rel=>exact ⟨by rw[←HJ.out],rfl⟩
 case rest=>
  obtain ⟨rfl,rfl⟩:=hcut
  go_upto_block 2 with (go_at_call 186;refine (lower_is (s.extract i e1) (lowX s i e1) rfl (by rw[ByteArray.size_extract];omega) _).mono ?_;rintro e w1 ⟨rfl,hB⟩;have B1:=Lib.hid hB;clear hB)
  go_cut [9] (fun s9 wx=>s9=.int .i64 (e2:Int)∧wx=w1)
  case first=>
   go_wp2_with fail
   go_loop [9] (fun x=>∃j:Nat,e1≤j∧j≤s.size∧x=.int .i64 (j:Int)∧Hid (j+runAt blankB s j=e2)) (fun x=>s.size-(intOf x).toNat)
   case atStart=>exact ⟨e1,Nat.le_refl _,by omega,by go_num,Lib.hid HE2.out.symm⟩
   case round=>
    obtain ⟨j,hij,hj,rfl,HR⟩:=hrel
    by_cases hlt:j<s.size
    ·have HB:=Lib.hid (l04Blank_any (s[j].toNat:Int))
     cases hb:blankB (s[j].toNat:Int) with
     | true=>
      rw[hb]at HB
      have HN:Hid (j+1+runAt blankB s (j+1)=e2):=Lib.hid (by have:=HR.out;rw[runAt_yes hlt hb]at this;omega)
      go_wp2_with (go_at_call 187;refine (HB.out _).mono ?_;rintro e w' ⟨rfl,rfl⟩)
      go_round
      case rel=>exact ⟨j+1,by omega,by omega,by go_num,HN⟩
      case measure=>simp[intOf];omega
     | false=>
      rw[hb]at HB
      have HJ:Hid (j=e2):=Lib.hid (by have:=HR.out;rw[runAt_no hlt hb]at this;omega)
      go_wp2_with (go_at_call 187;refine (HB.out _).mono ?_;rintro e w' ⟨rfl,rfl⟩)
      go_meet
      case rel=>exact ⟨by rw[←HJ.out],rfl⟩
    ·obtain rfl:j=s.size:=by omega
     have HJ:Hid (s.size=e2):=Lib.hid (by have:=HR.out;rw[runAt_end]at this;omega)
     go_wp2
     go_meet
     case rel=>exact ⟨by rw[←HJ.out],rfl⟩
  case rest=>
   obtain ⟨rfl,rfl⟩:=hcut
   by_cases hlt2:e2<s.size
   ·cases h61:((s[e2].toNat:Int) != 61) with
    | true=>
     have HA2:Hid (AT=(lowX s i e1,⟨#[]⟩,e1)):=Lib.hid (by rw[HAT.out,if_neg (by rw[byteAt_in hlt2];simpa using h61)])
     go_wp2
     refine bodyPost_ret (v:=.tuple #[.string (lowX s i e1),.string ⟨#[]⟩,.int .i64 (e1:Nat)]) (by simp[results,Tryz.results190,go_sem]) rfl ⟨by rw[HA2.out],B1.out⟩
    | false=>
     have he3:=HV3.out hlt2
     have he4:=HV4.out he3.2
     have HA2:=Lib.hid HAT.out
     have h61':byteAt s e2=61:=by rw[byteAt_in hlt2];simpa using h61
     rw[if_pos h61']at HA2
     clear h61' HAT
     have hes0:((e2:Int)==(s.size:Int))=false:=by simp;omega
     go_upto_block 4 with fail
     go_cut [9] (fun s9 wx=>s9=.int .i64 (e3:Int)∧wx=wc)
     case first=>
      go_wp2_with fail
      go_loop [9] (fun x=>∃j:Nat,(e2+1)≤j∧j≤s.size∧x=.int .i64 (j:Int)∧Hid (j+runAt blankB s j=e3)) (fun x=>s.size-(intOf x).toNat)
      case atStart=>exact ⟨(e2+1),Nat.le_refl _,by omega,by go_num,Lib.hid HE3.out.symm⟩
      case round=>
       obtain ⟨j,hij,hj,rfl,HR⟩:=hrel
       by_cases hlt:j<s.size
       ·have HB:=Lib.hid (l04Blank_any (s[j].toNat:Int))
        cases hb:blankB (s[j].toNat:Int) with
        | true=>
         rw[hb]at HB
         have HN:Hid (j+1+runAt blankB s (j+1)=e3):=Lib.hid (by have:=HR.out;rw[runAt_yes hlt hb]at this;omega)
         go_wp2_with (go_at_call 187;refine (HB.out _).mono ?_;rintro e w' ⟨rfl,rfl⟩)
         go_round
         case rel=>exact ⟨j+1,by omega,by omega,by go_num,HN⟩
         case measure=>simp[intOf];omega
        | false=>
         rw[hb]at HB
         have HJ:Hid (j=e3):=Lib.hid (by have:=HR.out;rw[runAt_no hlt hb]at this;omega)
         go_wp2_with (go_at_call 187;refine (HB.out _).mono ?_;rintro e w' ⟨rfl,rfl⟩)
         go_meet
         case rel=>exact ⟨by rw[←HJ.out],rfl⟩
       ·obtain rfl:j=s.size:=by omega
        have HJ:Hid (s.size=e3):=Lib.hid (by have:=HR.out;rw[runAt_end]at this;omega)
        go_wp2
        go_meet
        case rel=>exact ⟨by rw[←HJ.out],rfl⟩
     case rest=>
      obtain ⟨rfl,rfl⟩:=hcut
      by_cases hlt3:e3<s.size
      ·cases h34:((s[e3].toNat:Int)==34) with
       | true=>
        have hq:byteAt s e3=34∨byteAt s e3=39:=Or.inl (by rw[byteAt_in hlt3];simpa using h34)
        have HA3:=Lib.hid HA2.out
        rw[if_pos hq]at HA3
        have h1s:(s.extract e3 (e3+1)).size=1:=by rw[ByteArray.size_extract];omega
        have HF:=Lib.hid (l04Find_any s (s.extract e3 (e3+1)) (e3+1) hs (by rw[h1s];decide) (by omega))
        have hfl:=find_le s (s.extract e3 (e3+1)) (e3+1) (by omega)
        rw[h1s]at hfl
        generalize findTo s (s.extract e3 (e3+1)) (e3+1)=kk at HF HA3 hfl
        obtain ⟨k,ok⟩:=kk
        simp only at HF HA3 hfl
        clear hq h1s HA2
        cases ok with
        | true=>
         have hk1:=hfl.1
         have hk2:=hfl.2.2 rfl
         have HA4:Hid (AT=(lowX s i e1,unX s (e3+1) k,k+1)):=Lib.hid HA3.out
         go_wp2_with (first | (go_at_call 192;refine (HF.out _).mono ?_;rintro e w2 ⟨rfl,rfl⟩) | (go_at_call 188;refine (un_is (s.extract (e3+1) k) (unX s (e3+1) k) rfl (by rw[ByteArray.size_extract];omega) _).mono ?_;rintro e w3 ⟨rfl,hB⟩;have B3:=Lib.hid (B1.out.trans (hB.mono B1.out.size));clear hB))
         refine bodyPost_ret (v:=.tuple #[.string (lowX s i e1),.string (unX s (e3+1) k),.int .i64 (k+1:Nat)]) (by simp[results,Tryz.results190,go_sem]) rfl ⟨by rw[HA4.out],B3.out⟩
        | false=>
         have HA4:Hid (AT=(lowX s i e1,⟨#[]⟩,s.size)):=Lib.hid HA3.out
         go_wp2_with (go_at_call 192;refine (HF.out _).mono ?_;rintro e w2 ⟨rfl,rfl⟩)
         refine bodyPost_ret (v:=.tuple #[.string (lowX s i e1),.string ⟨#[]⟩,.int .i64 (s.size:Nat)]) (by simp[results,Tryz.results190,go_sem]) rfl ⟨by rw[HA4.out],B1.out⟩
       | false=>
        cases h39:((s[e3].toNat:Int)==39) with
        | true=>
         have hq:byteAt s e3=34∨byteAt s e3=39:=Or.inr (by rw[byteAt_in hlt3];simpa using h39)
         have HA3:=Lib.hid HA2.out
         rw[if_pos hq]at HA3
         have h1s:(s.extract e3 (e3+1)).size=1:=by rw[ByteArray.size_extract];omega
         have HF:=Lib.hid (l04Find_any s (s.extract e3 (e3+1)) (e3+1) hs (by rw[h1s];decide) (by omega))
         have hfl:=find_le s (s.extract e3 (e3+1)) (e3+1) (by omega)
         rw[h1s]at hfl
         generalize findTo s (s.extract e3 (e3+1)) (e3+1)=kk at HF HA3 hfl
         obtain ⟨k,ok⟩:=kk
         simp only at HF HA3 hfl
         clear hq h1s HA2
         cases ok with
         | true=>
          have hk1:=hfl.1
          have hk2:=hfl.2.2 rfl
          have HA4:Hid (AT=(lowX s i e1,unX s (e3+1) k,k+1)):=Lib.hid HA3.out
          go_wp2_with (first | (go_at_call 192;refine (HF.out _).mono ?_;rintro e w2 ⟨rfl,rfl⟩) | (go_at_call 188;refine (un_is (s.extract (e3+1) k) (unX s (e3+1) k) rfl (by rw[ByteArray.size_extract];omega) _).mono ?_;rintro e w3 ⟨rfl,hB⟩;have B3:=Lib.hid (B1.out.trans (hB.mono B1.out.size));clear hB))
          refine bodyPost_ret (v:=.tuple #[.string (lowX s i e1),.string (unX s (e3+1) k),.int .i64 (k+1:Nat)]) (by simp[results,Tryz.results190,go_sem]) rfl ⟨by rw[HA4.out],B3.out⟩
         | false=>
          have HA4:Hid (AT=(lowX s i e1,⟨#[]⟩,s.size)):=Lib.hid HA3.out
          go_wp2_with (go_at_call 192;refine (HF.out _).mono ?_;rintro e w2 ⟨rfl,rfl⟩)
          refine bodyPost_ret (v:=.tuple #[.string (lowX s i e1),.string ⟨#[]⟩,.int .i64 (s.size:Nat)]) (by simp[results,Tryz.results190,go_sem]) rfl ⟨by rw[HA4.out],B1.out⟩
        | false=>
         have HA3:Hid (AT=(lowX s i e1,unX s e3 e4,e4)):=Lib.hid (by rw[HA2.out,if_neg (by rw[byteAt_in hlt3];simp at h34 h39;simp[h34,h39])])
         go_wp2_with fail
         go_loop [7] (fun x=>∃j:Nat,e3≤j∧j≤s.size∧x=.int .i64 (j:Int)∧Hid (j+runAt inVal s j=e4)) (fun x=>s.size-(intOf x).toNat)
         case atStart=>exact ⟨e3,Nat.le_refl _,by omega,rfl,Lib.hid HE4.out.symm⟩
         case round=>
          obtain ⟨j,hij,hj,rfl,HR⟩:=hrel
          by_cases hltj:j<s.size
          ·have HB:=Lib.hid (l04Blank_any (s[j].toNat:Int))
           cases hb:blankB (s[j].toNat:Int) with
           | true=>
            rw[hb]at HB
            have HJ:Hid (j=e4):=Lib.hid (by have:=HR.out;rw[runAt_no hltj (inVal_blank hb)]at this;omega)
            have HA4:Hid (AT=(lowX s i e1,unX s e3 j,j)):=Lib.hid (by rw[HJ.out];exact HA3.out)
            go_wp2_with (first | (go_at_call 187;refine (HB.out _).mono ?_;rintro e w' ⟨rfl,rfl⟩) | (go_at_call 188;refine (un_is (s.extract (e3) j) (unX s (e3) j) rfl (by rw[ByteArray.size_extract];omega) _).mono ?_;rintro e w3 ⟨rfl,hB⟩;have B3:=Lib.hid (B1.out.trans (hB.mono B1.out.size));clear hB))
            refine bodyPost_ret (v:=.tuple #[.string (lowX s i e1),.string (unX s e3 j),.int .i64 (j:Nat)]) (by simp[results,Tryz.results190,go_sem]) rfl ⟨by rw[HA4.out],B3.out⟩
           | false=>
            rw[hb]at HB
            cases h62:((s[j].toNat:Int) != 62) with
            | true=>
             have HN:Hid (j+1+runAt inVal s (j+1)=e4):=Lib.hid (by have:=HR.out;rw[runAt_yes hltj (by simp[inVal,hb,h62])]at this;omega)
             go_wp2_with (go_at_call 187;refine (HB.out _).mono ?_;rintro e w' ⟨rfl,rfl⟩)
             go_round
             case rel=>exact ⟨j+1,by omega,by omega,by go_num,HN⟩
             case measure=>simp[intOf];omega
            | false=>
             have HJ:Hid (j=e4):=Lib.hid (by have:=HR.out;rw[runAt_no hltj (by simp[inVal,h62])]at this;omega)
             have HA4:Hid (AT=(lowX s i e1,unX s e3 j,j)):=Lib.hid (by rw[HJ.out];exact HA3.out)
             go_wp2_with (first | (go_at_call 187;refine (HB.out _).mono ?_;rintro e w' ⟨rfl,rfl⟩) | (go_at_call 188;refine (un_is (s.extract (e3) j) (unX s (e3) j) rfl (by rw[ByteArray.size_extract];omega) _).mono ?_;rintro e w3 ⟨rfl,hB⟩;have B3:=Lib.hid (B1.out.trans (hB.mono B1.out.size));clear hB))
             refine bodyPost_ret (v:=.tuple #[.string (lowX s i e1),.string (unX s e3 j),.int .i64 (j:Nat)]) (by simp[results,Tryz.results190,go_sem]) rfl ⟨by rw[HA4.out],B3.out⟩
          ·obtain rfl:j=s.size:=by omega
           have HJ:Hid (s.size=e4):=Lib.hid (by have:=HR.out;rw[runAt_end]at this;omega)
           have HA4:Hid (AT=(lowX s i e1,unX s e3 s.size,s.size)):=Lib.hid (by rw[HJ.out];exact HA3.out)
           go_wp2_with (go_at_call 188;refine (un_is (s.extract (e3) s.size) (unX s (e3) s.size) rfl (by rw[ByteArray.size_extract];omega) _).mono ?_;rintro e w3 ⟨rfl,hB⟩;have B3:=Lib.hid (B1.out.trans (hB.mono B1.out.size));clear hB)
           refine bodyPost_ret (v:=.tuple #[.string (lowX s i e1),.string (unX s e3 s.size),.int .i64 (s.size:Nat)]) (by simp[results,Tryz.results190,go_sem]) rfl ⟨by rw[HA4.out],B3.out⟩
      ·have h3s:e3=s.size:=by omega
       have HA3:Hid (AT=(lowX s i e1,unX s e3 e4,e4)):=Lib.hid (by rw[HA2.out,if_neg (by rw[h3s,byteAt_out];decide)])
       have H3S:=Lib.hid h3s
       clear h3s
       go_wp2_with fail
       go_loop [7] (fun x=>∃j:Nat,e3≤j∧j≤s.size∧x=.int .i64 (j:Int)∧Hid (j+runAt inVal s j=e4)) (fun x=>s.size-(intOf x).toNat)
       case atStart=>exact ⟨e3,Nat.le_refl _,by omega,rfl,Lib.hid HE4.out.symm⟩
       case round=>
        obtain ⟨j,hij,hj,rfl,HR⟩:=hrel
        have hj2:j=s.size:=by have:=H3S.out;omega
        subst hj2
        have HJ:Hid (s.size=e4):=Lib.hid (by have:=HR.out;rw[runAt_end]at this;omega)
        have HA4:Hid (AT=(lowX s i e1,unX s e3 s.size,s.size)):=Lib.hid (by rw[HJ.out];exact HA3.out)
        go_wp2_with (go_at_call 188;refine (un_is (s.extract (e3) s.size) (unX s (e3) s.size) rfl (by rw[ByteArray.size_extract];omega) _).mono ?_;rintro e w3 ⟨rfl,hB⟩;have B3:=Lib.hid (B1.out.trans (hB.mono B1.out.size));clear hB)
        refine bodyPost_ret (v:=.tuple #[.string (lowX s i e1),.string (unX s e3 s.size),.int .i64 (s.size:Nat)]) (by simp[results,Tryz.results190,go_sem]) rfl ⟨by rw[HA4.out],B3.out⟩
   ·have HA2:Hid (AT=(lowX s i e1,⟨#[]⟩,e1)):=Lib.hid (by rw[HAT.out,if_neg (by rw[show e2=s.size by omega,byteAt_out];decide)])
    have h2s:e2=s.size:=by omega
    have hes:((e2:Int)==(s.size:Int))=true:=by simp[h2s]
    clear h2s
    go_wp2
    refine bodyPost_ret (v:=.tuple #[.string (lowX s i e1),.string ⟨#[]⟩,.int .i64 (e1:Nat)]) (by simp[results,Tryz.results190,go_sem]) rfl ⟨by rw[HA2.out],B1.out⟩
end Go.Proofs.YthdkkpbhijlpaaaGreatDoor
namespace Go.Proofs.YthdkkpbhijlpaaaGreatDoor
open Go.ChangeShapes Go.WideShapes Go.ChangeAt Go.RowKit Go.Shelf
theorem encode_form {r:Int} (h:128≤r):(∃a z:UInt8,Utf8.encode r=⟨#[a,z]⟩∧128≤(z.toNat:Int))∨(∃a b z:UInt8,Utf8.encode r=⟨#[a,b,z]⟩∧128≤(z.toNat:Int))∨(∃a b c z:UInt8,Utf8.encode r=⟨#[a,b,c,z]⟩∧128≤(z.toNat:Int)):=by
 have hc:128≤(if Utf8.valid r then r.toNat else Utf8.runeError):=by
  split
  ·omega
  ·decide
 unfold Utf8.encode
 simp only
 generalize (if Utf8.valid r then r.toNat else Utf8.runeError)=c at hc
 rw[if_neg (by omega)]
 split
 ·refine Or.inl ⟨_,_,rfl,?_⟩
  simp;omega
 ·split
  ·refine Or.inr (Or.inl ⟨_,_,_,rfl,?_⟩)
   simp;omega
  ·refine Or.inr (Or.inr ⟨_,_,_,_,rfl,?_⟩)
   simp;omega
def Asc (s:ByteArray):Prop:=∀b ∈ s.data.toList,b.toNat<128
theorem Asc.at {s:ByteArray} (h:Asc s) {k:Nat} (hk:k<s.size):((s[k]'hk).toNat:Int)<128:=by
 have:=h (s[k]'hk) (by rw[ByteArray.getElem_eq_getElem_data];exact Array.mem_toList_iff.2 (Array.getElem_mem _))
 omega
theorem Asc.part {s:ByteArray} (h:Asc s) (a b:Nat):Asc (s.extract a b):=fun c hc=>by
 rw[ByteArray.data_extract,Array.toList_extract]at hc
 exact h c (List.mem_of_mem_drop (List.mem_of_mem_take hc))
theorem indexByte_ascii {l:List UInt8} {c:UInt8} (hl:∀b ∈ l,b.toNat<128) (hc:128≤(c.toNat:Int)):Lib.indexByte l c = -1:=by
 induction l with
 | nil=>rfl
 | cons b l ih=>
  have hb:=hl b (by simp)
  have hne:(b==c)=false:=by rw[Bool.eq_false_iff];intro e;rw[eq_of_beq e]at hb;omega
  rw[Lib.indexByte,if_neg (by rw[hne];decide),ih fun x hx=>hl x (by simp[hx])]
  rfl
theorem indexByte_asc (s:ByteArray) (c:Int) (hs:Asc s) (hc:128≤c) (h2:c≤255) (w:World):Calls Tryz.prog 219 #[.string s,.int .u8 c] w fun e w'=>e=.returned (.int .i64 (-1))∧w'=w:=
 (strings_IndexByte s c w).mono fun _ _ ⟨h1,h3⟩=>⟨by rw[h1,indexByte_ascii hs (by simp;omega)],h3⟩
theorem convRune (r:Int) (w:World):(convert 21 9 (.int .i32 r)).run Tryz.prog w=.ok (.string (Utf8.encode r)) w:=by
 simp[convert,run_underlying Tryz.underlying21,run_underlying Tryz.underlying9,Conv.intToString]
theorem validRune_any (r:Int) (w:World):Calls Tryz.prog 266 #[.int .i32 r] w fun e w'=>e=.returned (.bool (Lib.validRune r))∧w=w':=
 (utf8_ValidRune r w).mono fun _ _ ⟨h1,h2⟩=>⟨h1,h2.symm⟩
set_option maxHeartbeats 4000000 in
set_option maxRecDepth 1000000 in
theorem indexRune_high (cs:ByteArray) (ha:Asc cs) (h4:4≤cs.size∧cs.size≤9) (r:Nat) (h:128≤r) (hr:r≠65533) (w:World):
 Calls Tryz.prog 244 #[.string cs,.int .i32 (r:Int)] w fun e w'=>e=.returned (.int .i64 (-1))∧Below w.heap.size w w':=by
 have h1:¬((r:Int)<128):=by omega
 have h1':decide ((r:Int)<128)=false:=by simpa using h1
 have h2:((r:Int)==65533)=false:=by simp;omega
 by_cases hv:Lib.validRune (r:Int)=true
 ·have hconv:=convRune (r:Int)
  clear h1
  rcases encode_form (r:=(r:Int)) (by omega) with ⟨a,z,he,hz⟩ | ⟨a,b,z,he,hz⟩ | ⟨a,b,c,z,he,hz⟩
  ·rw[he]at hconv
   clear he
   have hcs:=ha.at (k:=1) (by omega)
   have hz2:((z.toNat:Nat):Int)≤255:=by have:=z.toNat_lt;omega
   have hx:∀w,(Instr.slice 9 (.string cs) (some (.int .i64 2)) none none).run Tryz.prog w=.ok (.string (cs.extract 2 cs.size)) w:=fun w=>by
    rw[run_slice_string_from_if w 9 cs .i64 _ Tryz.underlying9,if_pos (by omega)]
    rfl
   have HX:=Lib.hid (indexByte_asc (cs.extract 2 cs.size) (z.toNat:Int) (ha.part _ _) hz hz2)
   clear ha
   go_enter Tryz.func244,Tryz.ntmps244
   go_wp2_with (go_at_call 266;refine (validRune_any (r:Int) _).mono ?_;rintro e w1 ⟨rfl,rfl⟩)
   go_step3
   go_wp2
   go_loopw [9] (fun i wr=>i=.int .i64 1∧wr=w) (fun _ _=>0)
   case atStart=>exact ⟨rfl,rfl⟩
   case round=>
    obtain ⟨rfl,rfl⟩:=hrel
    have hwn:IntKind.i64.wrap 2=2:=by decide
    have hne:(((cs[1]'(by omega)).toNat:Int) != (((ByteArray.mk #[a,z])[1]'(Nat.lt_succ_self 1)).toNat:Int))=true:=by
     show (((cs[1]'(by omega)).toNat:Int) != (z.toNat:Int))=true
     simp;omega
    go_wp2
    go_step3
    go_wp2
    go_quiet (fail)
    have hq:Below wr.heap.size wr (wr.drewN nq):=below_drewN (Below.refl _ _) nq
    generalize wr.drewN nq=w2 at hq ⊢
    go_wp2
    go_quiet ((go_at_call 219;exact Calls.quiet_of_same (HX.out _)))
    have hq2:Below wr.heap.size wr (w2.drewN nq):=below_drewN hq nq
    generalize w2.drewN nq=w3 at hq2 ⊢
    go_wp2
    repeat (change Exit.noGoto _ .ret _ _;rw[Exit.noGoto_ret])
    go_ret
    exact ⟨rfl,hq2⟩
  ·rw[he]at hconv
   clear he
   have hcs:=ha.at (k:=2) (by omega)
   have hz2:((z.toNat:Nat):Int)≤255:=by have:=z.toNat_lt;omega
   have hx:∀w,(Instr.slice 9 (.string cs) (some (.int .i64 3)) none none).run Tryz.prog w=.ok (.string (cs.extract 3 cs.size)) w:=fun w=>by
    rw[run_slice_string_from_if w 9 cs .i64 _ Tryz.underlying9,if_pos (by omega)]
    rfl
   have HX:=Lib.hid (indexByte_asc (cs.extract 3 cs.size) (z.toNat:Int) (ha.part _ _) hz hz2)
   clear ha
   go_enter Tryz.func244,Tryz.ntmps244
   go_wp2_with (go_at_call 266;refine (validRune_any (r:Int) _).mono ?_;rintro e w1 ⟨rfl,rfl⟩)
   go_step3
   go_wp2
   go_loopw [9] (fun i wr=>i=.int .i64 2∧wr=w) (fun _ _=>0)
   case atStart=>exact ⟨rfl,rfl⟩
   case round=>
    obtain ⟨rfl,rfl⟩:=hrel
    have hwn:IntKind.i64.wrap 3=3:=by decide
    have hne:(((cs[2]'(by omega)).toNat:Int) != (((ByteArray.mk #[a,b,z])[2]'(Nat.lt_succ_self 2)).toNat:Int))=true:=by
     show (((cs[2]'(by omega)).toNat:Int) != (z.toNat:Int))=true
     simp;omega
    go_wp2
    go_step3
    go_wp2
    go_quiet (fail)
    have hq:Below wr.heap.size wr (wr.drewN nq):=below_drewN (Below.refl _ _) nq
    generalize wr.drewN nq=w2 at hq ⊢
    go_wp2
    go_quiet ((go_at_call 219;exact Calls.quiet_of_same (HX.out _)))
    have hq2:Below wr.heap.size wr (w2.drewN nq):=below_drewN hq nq
    generalize w2.drewN nq=w3 at hq2 ⊢
    go_wp2
    repeat (change Exit.noGoto _ .ret _ _;rw[Exit.noGoto_ret])
    go_ret
    exact ⟨rfl,hq2⟩
  ·rw[he]at hconv
   clear he
   have hcs:=ha.at (k:=3) (by omega)
   have hz2:((z.toNat:Nat):Int)≤255:=by have:=z.toNat_lt;omega
   have hx:∀w,(Instr.slice 9 (.string cs) (some (.int .i64 4)) none none).run Tryz.prog w=.ok (.string (cs.extract 4 cs.size)) w:=fun w=>by
    rw[run_slice_string_from_if w 9 cs .i64 _ Tryz.underlying9,if_pos (by omega)]
    rfl
   have HX:=Lib.hid (indexByte_asc (cs.extract 4 cs.size) (z.toNat:Int) (ha.part _ _) hz hz2)
   clear ha
   go_enter Tryz.func244,Tryz.ntmps244
   go_wp2_with (go_at_call 266;refine (validRune_any (r:Int) _).mono ?_;rintro e w1 ⟨rfl,rfl⟩)
   go_step3
   go_wp2
   go_loopw [9] (fun i wr=>i=.int .i64 3∧wr=w) (fun _ _=>0)
   case atStart=>exact ⟨rfl,rfl⟩
   case round=>
    obtain ⟨rfl,rfl⟩:=hrel
    have hwn:IntKind.i64.wrap 4=4:=by decide
    have hne:(((cs[3]'(by omega)).toNat:Int) != (((ByteArray.mk #[a,b,c,z])[3]'(Nat.lt_succ_self 3)).toNat:Int))=true:=by
     show (((cs[3]'(by omega)).toNat:Int) != (z.toNat:Int))=true
     simp;omega
    go_wp2
    go_step3
    go_wp2
    go_quiet (fail)
    have hq:Below wr.heap.size wr (wr.drewN nq):=below_drewN (Below.refl _ _) nq
    generalize wr.drewN nq=w2 at hq ⊢
    go_wp2
    go_quiet ((go_at_call 219;exact Calls.quiet_of_same (HX.out _)))
    have hq2:Below wr.heap.size wr (w2.drewN nq):=below_drewN hq nq
    generalize w2.drewN nq=w3 at hq2 ⊢
    go_wp2
    repeat (change Exit.noGoto _ .ret _ _;rw[Exit.noGoto_ret])
    go_ret
    exact ⟨rfl,hq2⟩
 ·have hv':Lib.validRune (r:Int)=false:=by simpa using hv
  clear hv
  go_enter Tryz.func244,Tryz.ntmps244
  go_wp2_with (go_at_call 266;refine (validRune_any (r:Int) _).mono ?_;rintro e w1 ⟨rfl,rfl⟩)
  go_ret
  exact ⟨rfl,Below.refl _ _⟩
end Go.Proofs.YthdkkpbhijlpaaaGreatDoor
namespace Go.Proofs.YthdkkpbhijlpaaaGreatDoor
open Go.ChangeShapes Go.WideShapes Go.ChangeAt Go.RowKit Go.Shelf
set_option maxHeartbeats 4000000 in
set_option maxRecDepth 1000000 in
theorem indexRune_err (cs:ByteArray) (ha:Asc cs) (h4:4≤cs.size∧cs.size≤9) (w:World):
 Calls Tryz.prog 244 #[.string cs,.int .i32 65533] w fun e w'=>e=.returned (.int .i64 (-1))∧Below w.heap.size w w':=by
 go_enter Tryz.func244,Tryz.ntmps244
 go_wp2
 go_loopw [] (fun wr=>∃pos:Nat,pos≤cs.size∧wr.heap[w.heap.size]?=some (.stringIter cs pos)∧Below w.heap.size w wr) (fun wr=>cs.size-wr.iterPos w.heap.size)
 case atStart=>exact ⟨0,by omega,World.iter_heap w cs 0,(Below.refl _ w).alloc (Nat.le_refl _) _⟩
 case round=>
  obtain ⟨pos,hp,hit,hb⟩:=hrel
  by_cases hlt:pos<cs.size
  ·have hac:=ha.at hlt
   have hne:(((cs[pos]'hlt).toNat:Int)==65533)=false:=by simp;omega
   have hnx:∀ty,(Instr.next (.pointer (some ⟨w.heap.size,0,none⟩)) true ty).run Tryz.prog wr=_:=fun ty=>Lib.run_next_ascii_at wr w.heap.size cs pos ty hit hlt (by omega)
   have hit2:=Lib.iterAt_heap wr w.heap.size cs pos (pos+1) hit
   have hb2:=Lib.below_iterAt hb (k:=w.heap.size) (Nat.le_refl _) cs (pos+1)
   go_wp2
   go_roundw
   case rel=>exact ⟨pos+1,by omega,hit2,hb2⟩
   case measure=>simp only[World.iterPos,hit2,hit];omega
  ·obtain rfl:pos=cs.size:=by omega
   have hnx:∀ty,(Instr.next (.pointer (some ⟨w.heap.size,0,none⟩)) true ty).run Tryz.prog wr=_:=fun ty=>Lib.run_next_end_at wr w.heap.size cs cs.size ty hit (by omega)
   go_wp2
   go_ret
   exact ⟨rfl,hb⟩
def isC (cs:ByteArray) (r:Nat):Bool:=cs.data.toList.any fun b=>b.toNat==r
theorem indexByte_no {l:List UInt8} {r:Nat} (h1:r<128) (h:(l.any fun b=>b.toNat==r)=false):Lib.indexByte l r.toUInt8 = -1:=by
 induction l with
 | nil=>rfl
 | cons b l ih=>
  simp only[List.any_cons,Bool.or_eq_false_iff]at h
  have hne:(b==r.toUInt8)=false:=by
   rw[Bool.eq_false_iff];intro e
   have:=congrArg UInt8.toNat (eq_of_beq e)
   have h2:b.toNat=r:=by rw[this];simp;omega
   simp[h2]at h
  rw[Lib.indexByte,if_neg (by rw[hne];decide),ih h.2]
  rfl
theorem indexByte_yes {l:List UInt8} {r:Nat} (h:(l.any fun b=>b.toNat==r)=true):0≤Lib.indexByte l r.toUInt8:=by
 induction l with
 | nil=>simp at h
 | cons b l ih=>
  rw[Lib.indexByte]
  split
  ·omega
  ·rename_i hne
   simp only[List.any_cons,Bool.or_eq_true]at h
   rcases h with h | h
   ·exfalso;apply hne
    have:b=r.toUInt8:=by
     have e:b.toNat=r:=by simpa using h
     rw[←e];simp
    simp[this]
   ·have:=ih h
    split
    ·rename_i e;have:=eq_of_beq e;omega
    ·omega
theorem isC_high {cs:ByteArray} (ha:Asc cs) {r:Nat} (h:128≤r):isC cs r=false:=by
 rw[isC,List.any_eq_false]
 intro b hb
 have:=ha b hb
 simp;omega
theorem indexRune_no (cs:ByteArray) (ha:Asc cs) (h4:4≤cs.size∧cs.size≤9) (r:Nat) (h:isC cs r=false) (w:World):
 Calls Tryz.prog 244 #[.string cs,.int .i32 (r:Int)] w fun e w'=>e=.returned (.int .i64 (-1))∧Below w.heap.size w w':=by
 by_cases h1:r<128
 ·refine (strings_IndexRune_ascii cs (r:Int) w (by omega) (by omega)).mono fun e w' ⟨he,hw⟩=>⟨he.trans ?_,by rw[hw];exact Below.refl _ _⟩
  have e1:Lib.indexByte cs.data.toList ((r:Int)).toNat.toUInt8 = -1:=indexByte_no h1 h
  rw[e1]
 ·by_cases h2:r=65533
  ·subst h2;exact indexRune_err cs ha h4 w
  ·exact indexRune_high cs ha h4 r (by omega) h2 w
theorem indexRune_yes (cs:ByteArray) (ha:Asc cs) (r:Nat) (h:isC cs r=true) (w:World):
 Calls Tryz.prog 244 #[.string cs,.int .i32 (r:Int)] w fun e w'=>(∃z:Int,0≤z∧e=.returned (.int .i64 z))∧w=w':=by
 have h1:r<128:=by
  rcases Nat.lt_or_ge r 128 with h1 | h1
  ·exact h1
  ·have:=isC_high ha h1;rw[h]at this;cases this
 exact (strings_IndexRune_ascii cs (r:Int) w (by omega) (by omega)).mono fun e w' ⟨he,hw⟩=>⟨⟨_,indexByte_yes h,he⟩,hw.symm⟩
theorem isC_has (cs:ByteArray) (b:UInt8):cs.data.toList.contains b=isC cs b.toNat:=by
 rw[isC,Bool.eq_iff_iff,List.contains_iff_exists_mem_beq,List.any_eq_true]
 constructor
 ·rintro ⟨x,hx,he⟩;exact ⟨x,hx,by rw[eq_of_beq he];simp⟩
 ·rintro ⟨x,hx,he⟩;exact ⟨x,hx,by have:b=x:=UInt8.toNat_inj.1 (eq_of_beq he).symm;simp[this]⟩
theorem noAny_more {s:ByteArray} {l:List UInt8} {a b:Nat} (h:Lib.NoAny s.data.toList l a) (h':∀j (_:j<s.size),a≤j→j<b→l.contains (s[j])=false):Lib.NoAny s.data.toList l b:=fun j x hj hx=>by
 by_cases e:j<a
 ·exact h j x e hx
 ·have hjs:j<s.size:=by
   rcases Nat.lt_or_ge j s.size with h1 | h1
   ·exact h1
   ·rw[List.getElem?_eq_none (by rw[Array.length_toList];exact h1)]at hx;cases hx
  have:=h' j hjs (by omega) hj
  rw[List.getElem?_eq_getElem (by rw[Array.length_toList];exact hjs)]at hx
  injection hx with hx
  rw[←hx];exact this
set_option maxHeartbeats 4000000 in
set_option maxRecDepth 1000000 in
theorem indexAny_short (s cs:ByteArray) (ha:Asc cs) (h4:4≤cs.size∧cs.size≤9) (h8:s.size≤8) (w:World):Calls Tryz.prog 205 #[.string s,.string cs] w fun e w'=>e=.returned (.int .i64 (Lib.indexAny s.data.toList cs.data.toList))∧Below w.heap.size w w':=by
 have hd:decide ((8:Int)<(s.size:Int))=false:=by simp;omega
 have hz:((cs.size:Int)==1)=false:=by simp;omega
 have hcl:¬cs.toList=[]:=by rw[←List.length_eq_zero_iff,ByteArray.toList_eq,Array.length_toList];show ¬cs.size=0;omega
 have hcl2:cs.toList.isEmpty=false:=by simpa using hcl
 have HA:=Lib.hid ha
 clear ha
 go_enter Tryz.func205,Tryz.ntmps205
 go_wp2_with (go_at_call 245;refine (strings_shouldUseASCIISet _ _).mono ?_;rintro e w' ⟨rfl,hw⟩;rw[hw,hd])
 go_loopw [] (fun wr=>∃pos:Nat,pos≤s.size∧wr.heap[w.heap.size]?=some (.stringIter s pos)∧Below w.heap.size w wr∧Hid (Lib.NoAny s.data.toList cs.data.toList pos)) (fun wr=>s.size-wr.iterPos w.heap.size)
 case atStart=>exact ⟨0,Nat.zero_le _,World.iter_heap w s 0,(Below.refl _ w).alloc (Nat.le_refl _) _,Lib.hid (Lib.NoAny.zero _ _)⟩
 case round=>
  obtain ⟨pos,hp,hit,hb,HN⟩:=hrel
  by_cases hlt:pos<s.size
  ·have hnx:∀ty,(Instr.next (.pointer (some ⟨w.heap.size,0,none⟩)) true ty).run Tryz.prog wr=_:=fun ty=>Lib.run_next_any_at wr w.heap.size s pos ty hit hlt
   obtain ⟨hw1,hw2⟩:=width_in hlt
   have hit2:=Lib.iterAt_heap wr w.heap.size s pos (pos+(Utf8.decode s pos).2) hit
   have hb2:=Lib.below_iterAt hb (k:=w.heap.size) (Nat.le_refl _) s (pos+(Utf8.decode s pos).2)
   have hsz2:w.heap.size<(wr.iterAt w.heap.size s (pos+(Utf8.decode s pos).2)).heap.size:=by rw[Lib.iterAt_size];exact (Array.getElem?_eq_some_iff.1 hit).1
   generalize hW:wr.iterAt w.heap.size s (pos+(Utf8.decode s pos).2)=W2 at hnx hit2 hb2 hsz2
   clear hW hb
   by_cases hy:isC cs (Utf8.decode s pos).1=true
   ·have ha:(s[pos]'hlt).toNat<128:=by
     rcases Nat.lt_or_ge (s[pos]'hlt).toNat 128 with h1 | h1
     ·exact h1
     ·have:=isC_high HA.out (decode_high s pos hlt h1).1
      rw[hy]at this;cases this
    have HY:=Lib.hid (show Lib.indexAny s.data.toList cs.data.toList=pos from Lib.indexAny_hit (x:=s[pos]'hlt) HN.out (by rw[List.getElem?_eq_getElem (by rw[Array.length_toList];exact hlt)];rfl) (by rw[isC_has];rw[decode_ascii s pos hlt ha]at hy;exact hy))
    go_wp2_with (go_at_call 244;refine (indexRune_yes cs HA.out _ hy _).mono ?_)
    rintro e w1 ⟨⟨z,hz0,rfl⟩,rfl⟩
    go_wp2
    go_ret
    exact ⟨by rw[HY.out];rfl,hb2⟩
   ·have hy':isC cs (Utf8.decode s pos).1=false:=by simpa using hy
    clear hy
    go_wp2_with (go_at_call 244;refine (indexRune_no cs HA.out h4 _ hy' _).mono ?_)
    rintro e w1 ⟨rfl,hb3⟩
    have hit3:w1.heap[w.heap.size]?=some (.stringIter s (pos+(Utf8.decode s pos).2)):=(hb3.block _ hsz2).trans hit2
    have hb4:Below w.heap.size w w1:=hb2.trans (hb3.mono (by omega))
    go_wp2
    go_roundw
    case rel=>
     refine ⟨pos+(Utf8.decode s pos).2,hw2,hit3,hb4,Lib.hid (noAny_more HN.out fun j hj h1 h2=>?_)⟩
     rw[isC_has]
     by_cases ha:(s[pos]'hlt).toNat<128
     ·rw[decode_ascii s pos hlt ha]at h2 hy'
      obtain rfl:j=pos:=by simp at h2;omega
      exact hy'
     ·exact isC_high HA.out (conts hlt (by omega) j hj h1 h2)
    case measure=>
     simp only[World.iterPos,hit3,hit]
     omega
  ·obtain rfl:pos=s.size:=by omega
   have HY:=Lib.hid (show Lib.indexAny s.data.toList cs.data.toList = -1 from Lib.indexAny_none (by rw[Array.length_toList];exact HN.out))
   have hnx:∀ty,(Instr.next (.pointer (some ⟨w.heap.size,0,none⟩)) true ty).run Tryz.prog wr=_:=fun ty=>Lib.run_next_end_at wr w.heap.size s s.size ty hit (by omega)
   go_wp2
   go_ret
   exact ⟨by rw[HY.out];rfl,hb⟩
set_option maxRecDepth 1000000 in
theorem indexAny_all (s cs:ByteArray) (ha:Asc cs) (h4:4≤cs.size∧cs.size≤9) (hs:s.size≤65536) (w:World):Calls Tryz.prog 205 #[.string s,.string cs] w fun e w'=>e=.returned (.int .i64 (Lib.indexAny s.data.toList cs.data.toList))∧Below w.heap.size w w':=by
 by_cases h:s.size≤8
 ·exact indexAny_short s cs ha h4 h w
 ·refine (strings_IndexAny_long Tryz.zeroValue230 s cs w (by omega) (by omega) (by omega) (by omega) (fun j b hb=>?_)).mono fun e w' ⟨he,hw⟩=>⟨he,?_⟩
  ·exact ha b (List.mem_of_getElem? hb)
  ·rw[hw];exact ((Below.refl _ w).alloc (Nat.le_refl _) _).alloc (by simp) _
end Go.Proofs.YthdkkpbhijlpaaaGreatDoor
