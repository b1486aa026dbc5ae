import Derived.Lib.IndexLaws
import Derived.Lib.IndexMore
import Derived.Test.YthdkkpbhijlpaaaGreatDoorQ03
import Derived.Test.YthdkkpbhijlpaaaGreatDoorQ04
import Derived.Test.YthdkkpbhijlpaaaGreatDoorQ02
set_option linter.unusedVariables false
namespace Go.Proofs.YthdkkpbhijlpaaaGreatDoor
open Go.ChangeShapes Go.WideShapes Go.ChangeAt Go.RowKit
def blankB (c:Int):Bool:=c==32||c==9||c==10||c==13||c==12
def inName (c:Int):Bool:=!blankB c&&c != 47&&c != 62
def inVal (c:Int):Bool:=!blankB c&&c != 62
theorem l04Blank_any (c:Int) (w:World):
 Calls Tryz.prog 187 #[.int .u8 c] w fun e w'=>e=.returned (.bool (blankB c))∧w=w':=by
 go_enter Tryz.func187,Tryz.ntmps187
 go_wp2
 all_goals (go_ret;exact ⟨ret_bool (by rw[Bool.eq_iff_iff];simp_all [blankB]),rfl⟩)
theorem l04Letter_any (c:Int) (w:World):
 Calls Tryz.prog 123 #[.int .u8 c] w fun e w'=>e=.returned (.bool (small c||great c))∧w=w':=by
 go_enter Tryz.func123,Tryz.ntmps123
 go_wp2
 all_goals (go_ret;exact ⟨ret_bool (by rw[Bool.eq_iff_iff];simp[small,great] <;> omega),rfl⟩)
def run (p:Int→Bool) (l:List UInt8):Nat:=(l.takeWhile fun c=>p (c.toNat:Int)).length
def runAt (p:Int→Bool) (s:ByteArray) (i:Nat):Nat:=run p (s.data.toList.drop i)
theorem run_le (p:Int→Bool) (l:List UInt8):run p l≤l.length:=by
 have:=(List.takeWhile_sublist (p:=fun c:UInt8=>p (c.toNat:Int)) (l:=l)).length_le
 exact this
theorem runAt_le (p:Int→Bool) (s:ByteArray) (i:Nat) (hi:i≤s.size):i+runAt p s i≤s.size:=by
 have h:=run_le p (s.data.toList.drop i)
 have e:s.data.toList.length=s.size:=Array.length_toList
 rw[List.length_drop,e]at h
 unfold runAt
 omega
theorem drop_at {s:ByteArray} {i:Nat} (h:i<s.size):s.data.toList.drop i=s[i]::s.data.toList.drop (i+1):=by
 have e:i<s.data.toList.length:=by rw[Array.length_toList];exact h
 rw[List.drop_eq_getElem_cons e]
 rfl
theorem runAt_yes {p:Int→Bool} {s:ByteArray} {i:Nat} (h:i<s.size) (hp:p (s[i].toNat:Int)=true):runAt p s i=runAt p s (i+1)+1:=by
 unfold runAt run
 rw[drop_at h,List.takeWhile_cons,if_pos hp]
 rfl
theorem runAt_no {p:Int→Bool} {s:ByteArray} {i:Nat} (h:i<s.size) (hp:p (s[i].toNat:Int)=false):runAt p s i=0:=by
 unfold runAt run
 rw[drop_at h,List.takeWhile_cons,if_neg (by simp[hp])]
 rfl
theorem runAt_end (p:Int→Bool) (s:ByteArray):runAt p s s.size=0:=by
 unfold runAt run
 rw[List.drop_eq_nil_of_le (by rw[Array.length_toList];exact Nat.le_refl _)]
 rfl
theorem inName_blank {c:Int} (h:blankB c=true):inName c=false:=by simp[inName,h]
theorem inName_go {c:Int} (h:blankB c=false) (h1:(c != 47)=true) (h2:(c != 62)=true):inName c=true:=by simp[inName,h,h1,h2]
theorem inName_stroke {c:Int} (h1:(c != 47)=false):inName c=false:=by simp[inName,h1]
theorem inName_end {c:Int} (h2:(c != 62)=false):inName c=false:=by simp[inName,h2]
theorem lower_is (x R:ByteArray) (hR:R=⟨(x.data.toList.map lowU).toArray⟩) (hx:x.size≤65536) (w:World):
 Calls Tryz.prog 186 #[.string x] w fun e w'=>e=.returned (.string R)∧Below w.heap.size w w':=by
 subst hR
 exact l01Lower_any x w hx
def nameOf (s:ByteArray) (i:Nat):ByteArray:=⟨((s.extract i (i+runAt inName s i)).data.toList.map lowU).toArray⟩
set_option maxHeartbeats 1000000 in
theorem l04Name_any (s:ByteArray) (i:Nat) (hs:s.size≤65536) (hi:i≤s.size) (w:World):
 Calls Tryz.prog 189 #[.string s,.int .i64 (i:Int)] w fun e w'=>e=.returned (.tuple #[.string (nameOf s i),.int .i64 ((i+runAt inName s i:Nat):Int)])∧Below w.heap.size w w':=by
 have hn:=runAt_le inName s i hi
 go_enter Tryz.func189,Tryz.ntmps189
 go_wp2
 go_loop [6] (fun x=>∃j:Nat,i≤j∧j≤s.size∧x=.int .i64 (j:Int)∧j+runAt inName s j=i+runAt inName s i) (fun x=>s.size-(intOf x).toNat)
 case atStart=>exact ⟨i,Nat.le_refl _,hi,rfl,rfl⟩
 case round=>
  obtain ⟨j,hij,hj,rfl,hr⟩:=hrel
  by_cases hlt:j<s.size
  ·have HR:=Lib.hid hr
   clear hr
   have HB:=Lib.hid (l04Blank_any (s[j].toNat:Int))
   cases hb:blankB (s[j].toNat:Int) with
   | true=>
    rw[hb]at HB
    have HJ:Hid (j=i+runAt inName s i):=Lib.hid (by have:=HR.out;rw[runAt_no hlt (inName_blank hb)]at this;omega)
    go_wp2_with (first | (go_at_call 187;refine (HB.out _).mono ?_;rintro e w' ⟨rfl,rfl⟩) | (go_at_call 186;refine (lower_is (s.extract i j) (nameOf s i) (by rw[nameOf,←HJ.out]) (by rw[ByteArray.size_extract];omega) _).mono ?_;rintro e w1 ⟨rfl,hB⟩))
    go_ret2
    exact ⟨by rw[←HJ.out];rfl,hB⟩
   | false=>
    rw[hb]at HB
    cases h1:((s[j].toNat:Int) != 47) with
    | false=>
     have HJ:Hid (j=i+runAt inName s i):=Lib.hid (by have:=HR.out;rw[runAt_no hlt (inName_stroke h1)]at this;omega)
     go_wp2_with (first | (go_at_call 187;refine (HB.out _).mono ?_;rintro e w' ⟨rfl,rfl⟩) | (go_at_call 186;refine (lower_is (s.extract i j) (nameOf s i) (by rw[nameOf,←HJ.out]) (by rw[ByteArray.size_extract];omega) _).mono ?_;rintro e w1 ⟨rfl,hB⟩))
     go_ret2
     exact ⟨by rw[←HJ.out];rfl,hB⟩
    | true=>
     cases h2:((s[j].toNat:Int) != 62) with
     | false=>
      have HJ:Hid (j=i+runAt inName s i):=Lib.hid (by have:=HR.out;rw[runAt_no hlt (inName_end h2)]at this;omega)
      go_wp2_with (first | (go_at_call 187;refine (HB.out _).mono ?_;rintro e w' ⟨rfl,rfl⟩) | (go_at_call 186;refine (lower_is (s.extract i j) (nameOf s i) (by rw[nameOf,←HJ.out]) (by rw[ByteArray.size_extract];omega) _).mono ?_;rintro e w1 ⟨rfl,hB⟩))
      go_ret2
      exact ⟨by rw[←HJ.out];rfl,hB⟩
     | true=>
      have HN:Hid (j+1+runAt inName s (j+1)=i+runAt inName s i):=Lib.hid (by have:=HR.out;rw[runAt_yes hlt (inName_go hb h1 h2)]at this;omega)
      go_wp2_with (go_at_call 187;refine (HB.out _).mono ?_;rintro e w' ⟨rfl,rfl⟩)
      go_round
      case rel=>exact ⟨j+1,by omega,by omega,by go_num,HN.out⟩
      case measure=>simp[intOf];omega
  ·obtain rfl:j=s.size:=by omega
   have HR:=Lib.hid hr
   clear hr
   have HJ:Hid (s.size=i+runAt inName s i):=Lib.hid (by have:=HR.out;rw[runAt_end]at this;omega)
   go_wp2_with (go_at_call 186;refine (lower_is (s.extract i s.size) (nameOf s i) (by rw[nameOf,←HJ.out]) (by rw[ByteArray.size_extract];omega) _).mono ?_;rintro e w1 ⟨rfl,hB⟩)
   go_ret2
   exact ⟨by rw[←HJ.out];rfl,hB⟩
end Go.Proofs.YthdkkpbhijlpaaaGreatDoor
namespace Go.Proofs.YthdkkpbhijlpaaaGreatDoor
open Go.ChangeShapes Go.WideShapes Go.ChangeAt Go.RowKit
def findIx (s what:ByteArray) (i:Nat):Int:=Lib.index (s.data.toList.drop i) what.data.toList
def findTo (s what:ByteArray) (i:Nat):Nat × Bool:=if 0≤findIx s what i then (i+(findIx s what i).toNat,true) else (s.size,false)
theorem find_hit {s what:ByteArray} {i j:Nat} (h:Lib.NoOcc (s.data.toList.drop i) what.data.toList j) (hj:i+j≤s.size) (ho:Lib.occAt (s.data.toList.drop i) what.data.toList j=true):findTo s what i=(i+j,true):=by
 have e:s.data.toList.length=s.size:=Array.length_toList
 have:=Lib.index_hit h (by rw[List.length_drop,e];omega) ho
 unfold findTo findIx
 rw[this,if_pos (by omega),Int.toNat_natCast]
theorem find_miss {s what:ByteArray} {i j:Nat} (hw:0<what.size) (h:Lib.NoOcc (s.data.toList.drop i) what.data.toList j) (hj:s.size<i+j+what.size):findTo s what i=(s.size,false):=by
 have e:s.data.toList.length=s.size:=Array.length_toList
 have ew:what.data.toList.length=what.size:=Array.length_toList
 have:=Lib.index_past (by intro h0;rw[h0]at ew;simp at ew;omega) h (by rw[List.length_drop,e,ew];omega)
 unfold findTo findIx
 rw[this];rfl
theorem find_le (s what:ByteArray) (i:Nat) (hi:i≤s.size):i≤(findTo s what i).1∧(findTo s what i).1≤s.size∧((findTo s what i).2=true→(findTo s what i).1+what.size≤s.size):=by
 have e:s.data.toList.length=s.size:=Array.length_toList
 have ew:what.data.toList.length=what.size:=Array.length_toList
 unfold findTo
 split
 ·rename_i h
  have:=Lib.index_room (s.data.toList.drop i) what.data.toList h
  rw[List.length_drop,e,ew]at this
  unfold findIx at h ⊢
  simp only
  omega
 ·exact ⟨hi,Nat.le_refl _,fun h=>by cases h⟩
theorem occ_of {s what:ByteArray} {i j:Nat} (hi:i+j+what.size≤s.size):Lib.occAt (s.data.toList.drop i) what.data.toList j=((s.extract (i+j) (i+j+what.size)).toList==what.toList):=by
 rw[ByteArray.toList_eq,ByteArray.toList_eq]
 have ew:what.data.toList.length=what.size:=Array.length_toList
 have e:s.data.toList.length=s.size:=Array.length_toList
 rw[extract_list,List.drop_take,show i+j+what.size-(i+j)=what.data.toList.length by omega]
 unfold Lib.occAt
 rw[List.drop_drop,Bool.eq_iff_iff,List.isPrefixOf_iff_prefix,beq_iff_eq,List.prefix_iff_eq_take]
 exact eq_comm
set_option maxHeartbeats 1000000 in
theorem l04Find_any (s what:ByteArray) (i:Nat) (hs:s.size≤65536) (hw:0<what.size∧what.size≤3) (hi:i≤s.size) (w:World):
 Calls Tryz.prog 192 #[.string s,.string what,.int .i64 (i:Int)] w fun e w'=>e=.returned (.tuple #[.int .i64 ((findTo s what i).1:Int),.bool (findTo s what i).2])∧w'=w:=by
 go_enter Tryz.func192,Tryz.ntmps192
 go_wp2
 go_loop [8] (fun x=>∃j:Nat,x=.int .i64 ((i+j:Nat):Int)∧i+j≤s.size+1∧Hid (Lib.NoOcc (s.data.toList.drop i) what.data.toList j)) (fun x=>s.size+1-(intOf x).toNat)
 case atStart=>exact ⟨0,rfl,by omega,Lib.hid (Lib.NoOcc.zero _ _)⟩
 case round=>
  obtain ⟨j,rfl,hj,HO⟩:=hrel
  by_cases hlt:i+j+what.size≤s.size
  ·have ho:=occ_of (s:=s) (what:=what) (i:=i) (j:=j) hlt
   cases hq:((s.extract (i+j) (i+j+what.size)).toList==what.toList) with
   | true=>
    have HM:=Lib.hid (find_hit HO.out (by omega) (ho.trans hq))
    clear ho
    go_wp2
    go_ret2
    exact ⟨by rw[HM.out];rfl,rfl⟩
   | false=>
    have HN:=Lib.hid (HO.out.succ (ho.trans hq))
    clear ho
    go_wp2
    go_round
    case rel=>exact ⟨j+1,by go_num,by omega,HN⟩
    case measure=>simp[intOf];omega
  ·have HM:=Lib.hid (find_miss (s:=s) (what:=what) (i:=i) (j:=j) hw.1 HO.out (by omega))
   go_wp2
   go_ret2
   exact ⟨by rw[HM.out];rfl,rfl⟩
end Go.Proofs.YthdkkpbhijlpaaaGreatDoor
namespace Go.Proofs.YthdkkpbhijlpaaaGreatDoor
open Go.ChangeShapes Go.WideShapes Go.ChangeAt Go.RowKit
theorem ret_tok {fn:Func} {p:Tmp} {R:Ending→World→Prop} {a:Act} {W:World} {g:Nat} {v0 v1 v2 v3 v4 v5 v6:Value} (hres:fn.results=#[.cell p 88])
 (hL:Lay W g #[v0,v1,v2,v3,v4,v5,v6]) (hp:a.tmps.getD p undef=.pointer (some ⟨g,0,none⟩)) (hd:a.defers=[]) (hR:R (.returned (.agg #[v0,v1,v2,v3,v4,v5,v6])) W):bodyPost Tryz.prog fn R .ret a W:=by
 refine bodyPost_ret (v:=.agg #[v0,v1,v2,v3,v4,v5,v6]) ?_ hd hR
 have hp':a.tmps[p]?.getD undef=.pointer (some ⟨g,0,none⟩):=by simpa using hp
 have h0:=hL.1
 simp[results,hres,hp',go_sem,h0]
theorem Lay.put7 {w:World} {g:Nat} {u0 u1 u2 u3 u4 u5 u6 v0 v1 v2 v3 v4 v5 v6:Value} (h:Lay w g #[u0,u1,u2,u3,u4,u5,u6]):
 Lay (((((((w.setCell ⟨g,0,none⟩ v0).setCell ⟨g,1,none⟩ v1).setCell ⟨g,2,none⟩ v2).setCell ⟨g,3,none⟩ v3).setCell ⟨g,4,none⟩ v4).setCell ⟨g,5,none⟩ v5).setCell ⟨g,6,none⟩ v6) g #[v0,v1,v2,v3,v4,v5,v6]:=by
 have:=((((((h.set 0 v0).set 1 v1).set 2 v2).set 3 v3).set 4 v4).set 5 v5).set 6 v6
 simpa using this
theorem below_put7 {B:Nat} {w0 w:World} {g:Nat} (v0 v1 v2 v3 v4 v5 v6:Value) (h:Below B w0 w) (hg:B≤g):
 Below B w0 (((((((w.setCell ⟨g,0,none⟩ v0).setCell ⟨g,1,none⟩ v1).setCell ⟨g,2,none⟩ v2).setCell ⟨g,3,none⟩ v3).setCell ⟨g,4,none⟩ v4).setCell ⟨g,5,none⟩ v5).setCell ⟨g,6,none⟩ v6):=by
 have h0:=h.setCell (p:=⟨g,0,none⟩) hg v0
 have h1:=h0.setCell (p:=⟨g,1,none⟩) hg v1
 have h2:=h1.setCell (p:=⟨g,2,none⟩) hg v2
 have h3:=h2.setCell (p:=⟨g,3,none⟩) hg v3
 have h4:=h3.setCell (p:=⟨g,4,none⟩) hg v4
 have h5:=h4.setCell (p:=⟨g,5,none⟩) hg v5
 have h6:=h5.setCell (p:=⟨g,6,none⟩) hg v6
 exact h6
theorem lay7 {w:World} {g:Nat} {v0 v1 v2 v3 v4 v5 v6:Value} (h:Lay w g #[v0,v1,v2,v3,v4,v5,v6]):w.cell? ⟨g,0,none⟩=some v0∧w.cell? ⟨g,1,none⟩=some v1∧w.cell? ⟨g,2,none⟩=some v2∧w.cell? ⟨g,3,none⟩=some v3∧w.cell? ⟨g,4,none⟩=some v4∧w.cell? ⟨g,5,none⟩=some v5∧w.cell? ⟨g,6,none⟩=some v6:=
 ⟨h.1 0,h.1 1,h.1 2,h.1 3,h.1 4,h.1 5,h.1 6⟩
def tokA (k a l:Int) (n t:ByteArray):Value:=.agg #[.int .i64 k,.int .i64 a,.int .i64 l,.string n,.string t,.slice none 0 0,.bool false]
def inWord (c:Int):Bool:=c != 60
def wordOf (s:ByteArray) (i:Nat):ByteArray:=⟨(un (s.extract i (i+1+runAt inWord s (i+1))).data.toList).toArray⟩
theorem un_is (x R:ByteArray) (hR:R=⟨(un x.data.toList).toArray⟩) (hx:x.size≤65536) (w:World):
 Calls Tryz.prog 188 #[.string x] w fun e w'=>e=.returned (.string R)∧Below w.heap.size w w':=by
 subst hR
 exact l02Un_any x hx w
theorem tok_zero (w:World):Lay (w.alloc (.cells #[.int .i64 0,.int .i64 0,.int .i64 0,.string ⟨#[]⟩,.string ⟨#[]⟩,.slice none 0 0,.bool false] 88)) w.heap.size #[.int .i64 0,.int .i64 0,.int .i64 0,.string ⟨#[]⟩,.string ⟨#[]⟩,.slice none 0 0,.bool false]:=Lay.new _ _ _
set_option maxHeartbeats 1000000 in
theorem l04Words_any (s:ByteArray) (i:Nat) (hs:s.size≤65536) (hi:i<s.size) (w:World):
 Calls Tryz.prog 122 #[.string s,.int .i64 (i:Int)] w fun e w'=>e=.returned (tokA 1 i ((1+runAt inWord s (i+1):Nat):Int) ⟨#[]⟩ (wordOf s i))∧Below w.heap.size w w':=by
 have hn:=runAt_le inWord s (i+1) (by omega)
 have LZ:=Lib.hid (tok_zero w)
 go_enter Tryz.func122,Tryz.ntmps122
 go_wp2
 go_loopw [5] (fun x wr=>∃j:Nat,i+1≤j∧j≤s.size∧x=.int .i64 (j:Int)∧j+runAt inWord s j=i+1+runAt inWord s (i+1)∧Hid (wr=w.alloc (.cells #[.int .i64 0,.int .i64 0,.int .i64 0,.string ⟨#[]⟩,.string ⟨#[]⟩,.slice none 0 0,.bool false] 88))) (fun x wr=>s.size-(intOf x).toNat)
 case atStart=>exact ⟨i+1,Nat.le_refl _,by omega,by go_num,rfl,Lib.hid rfl⟩
 case round=>
  obtain ⟨j,hij,hj,rfl,hr,HW⟩:=hrel
  have HR:=Lib.hid hr
  clear hr
  by_cases hgo:∃h:j<s.size,((s[j].toNat:Int) != 60)=true
  ·obtain ⟨hlt,h1⟩:=hgo
   have HN:Hid (j+1+runAt inWord s (j+1)=i+1+runAt inWord s (i+1)):=Lib.hid (by have:=HR.out;rw[runAt_yes hlt h1]at this;omega)
   go_wp2
   go_roundw
   case rel=>exact ⟨j+1,by omega,by omega,by go_num,HN.out,HW⟩
   case measure=>simp[intOf];omega
  ·have HJ:Hid (j=i+1+runAt inWord s (i+1)):=Lib.hid (by
    have:=HR.out
    by_cases hlt:j<s.size
    ·rw[runAt_no hlt (Bool.eq_false_iff.2 fun h=>hgo ⟨hlt,h⟩)]at this;omega
    ·obtain rfl:j=s.size:=by omega
     rw[runAt_end]at this;omega)
   have hL:=LZ.out
   rw[←HW.out]at hL
   have hsz:w.heap.size<wr.heap.size:=by rw[HW.out];simp
   have hB0:Hid (Below w.heap.size w wr):=Lib.hid (by rw[HW.out];exact (Below.refl _ _).alloc (Nat.le_refl _) _)
   have HLw:=Lib.hid hL
   clear hL HW LZ
   by_cases hlt:j<s.size
   ·have h1:((s[j].toNat:Int) != 60)=false:=Bool.eq_false_iff.2 fun h=>hgo ⟨hlt,h⟩
    clear hgo
    go_wp2_with (go_at_call 188;refine (un_is (s.extract i j) (wordOf s i) (by rw[wordOf,←HJ.out]) (by rw[ByteArray.size_extract];omega) _).mono ?_;rintro e w1 ⟨rfl,hB⟩;have L1:=HLw.out.below hB hsz;have n0:=L1.1;have n1:=L1.2;have B1:=Lib.hid (hB0.out.trans (hB.mono hB0.out.size));clear hB L1)
    (try simp only[Exit.inBlock,Exit.then])
    have M2:Lay w1 w.heap.size _:=⟨n0,n1⟩
    refine ret_tok rfl M2.put7 rfl rfl ⟨?_,below_put7 _ _ _ _ _ _ _ B1.out (Nat.le_refl _)⟩
    rw[tokA,show ((1+runAt inWord s (i+1):Nat):Int)=(j:Int)-(i:Int) by have:=HJ.out;omega]
   ·obtain rfl:j=s.size:=by omega
    clear hgo
    go_wp2_with (go_at_call 188;refine (un_is (s.extract i s.size) (wordOf s i) (by rw[wordOf,←HJ.out]) (by rw[ByteArray.size_extract];omega) _).mono ?_;rintro e w1 ⟨rfl,hB⟩;have L1:=HLw.out.below hB hsz;have n0:=L1.1;have n1:=L1.2;have B1:=Lib.hid (hB0.out.trans (hB.mono hB0.out.size));clear hB L1)
    (try simp only[Exit.inBlock,Exit.then])
    have M2:Lay w1 w.heap.size _:=⟨n0,n1⟩
    refine ret_tok rfl M2.put7 rfl rfl ⟨?_,below_put7 _ _ _ _ _ _ _ B1.out (Nat.le_refl _)⟩
    rw[tokA,show ((1+runAt inWord s (i+1):Nat):Int)=(s.size:Int)-(i:Int) by have:=HJ.out;omega]
end Go.Proofs.YthdkkpbhijlpaaaGreatDoor
namespace Go.Proofs.YthdkkpbhijlpaaaGreatDoor
open Go.ChangeShapes Go.WideShapes Go.ChangeAt Go.RowKit
def commentLen (s what:ByteArray) (a i:Nat):Nat:=(findTo s what i).1-a+(if (findTo s what i).2=true then what.size else 0)
set_option maxHeartbeats 1000000 in
theorem l04Comment_any (s what:ByteArray) (a i:Nat) (hs:s.size≤65536) (hw:0<what.size∧what.size≤3) (hai:a≤i) (hi:i≤s.size) (w:World):
 Calls Tryz.prog 126 #[.string s,.int .i64 (a:Int),.int .i64 (i:Int),.string what] w fun e w'=>
  e=.returned (tokA 4 a (commentLen s what a i:Nat) ⟨#[]⟩ (s.extract i (findTo s what i).1))∧Below w.heap.size w w':=by
 have LZ:=Lib.hid (tok_zero w)
 have hf:=find_le s what i hi
 have HC:=Lib.hid (show commentLen s what a i=(findTo s what i).1-a+(if (findTo s what i).2=true then what.size else 0) from rfl)
 have HF:=Lib.hid (l04Find_any s what i hs hw hi)
 generalize findTo s what i=kk at hf HC HF ⊢
 obtain ⟨k,ok⟩:=kk
 simp only at hf HC HF ⊢
 cases ok with
 | true=>
  have hk3:=hf.2.2 rfl
  have HL:Hid (commentLen s what a i=k-a+what.size):=Lib.hid HC.out
  clear HC
  go_enter Tryz.func126,Tryz.ntmps126
  go_wp2_with (go_at_call 192;refine (HF.out _).mono ?_;rintro e w1 ⟨rfl,rfl⟩)
  (try simp only[Exit.inBlock,Exit.then])
  refine ret_tok rfl (Lay.new _ _ _) rfl rfl ⟨?_,(Below.refl _ _).alloc (Nat.le_refl _) _⟩
  rw[tokA,HL.out,show ((k-a+what.size:Nat):Int)=(k:Int)-(a:Int)+(what.size:Int) by omega]
 | false=>
  have HL:Hid (commentLen s what a i=k-a+0):=Lib.hid HC.out
  clear HC
  go_enter Tryz.func126,Tryz.ntmps126
  go_wp2_with (go_at_call 192;refine (HF.out _).mono ?_;rintro e w1 ⟨rfl,rfl⟩)
  (try simp only[Exit.inBlock,Exit.then])
  refine ret_tok rfl (Lay.new _ _ _) rfl rfl ⟨?_,(Below.refl _ _).alloc (Nat.le_refl _) _⟩
  rw[tokA,HL.out,show ((k-a+0:Nat):Int)=(k:Int)-(a:Int) by omega]
def gtS:ByteArray:=⟨#[62]⟩
noncomputable def closeOf (s:ByteArray) (a:Nat):Value:=
 let r:=findTo s gtS (a+2+runAt inName s (a+2))
 if r.2=true then (if namedB small tagB (nameOf s (a+2))=true then tokA 3 a ((r.1+1-a:Nat):Int) (nameOf s (a+2)) ⟨#[]⟩ else tokA 5 a ((r.1+1-a:Nat):Int) ⟨#[]⟩ ⟨#[]⟩) else tokA 5 a ((s.size-a:Nat):Int) ⟨#[]⟩ ⟨#[]⟩
theorem nameOf_size (s:ByteArray) (i:Nat):(nameOf s i).size≤s.size:=by
 have e1:(nameOf s i).size=(s.extract i (i+runAt inName s i)).data.toList.length:=by
  unfold nameOf
  show ((s.extract i (i+runAt inName s i)).data.toList.map lowU).toArray.size=_
  rw[List.size_toArray,List.length_map]
 rw[e1,Array.length_toList]
 show (s.extract i (i+runAt inName s i)).size≤_
 rw[ByteArray.size_extract];omega
set_option maxHeartbeats 1000000 in
theorem l04Close_any (s:ByteArray) (a:Nat) (hs:s.size≤65536) (ha:a+2≤s.size) (w:World):
 Calls Tryz.prog 125 #[.string s,.int .i64 (a:Int)] w fun e w'=>e=.returned (closeOf s a)∧Below w.heap.size w w':=by
 have LZ:=Lib.hid (tok_zero w)
 have hn:=runAt_le inName s (a+2) ha
 have HN:=Lib.hid (l04Name_any s (a+2) hs ha)
 have HF:=Lib.hid (l04Find_any s gtS (a+2+runAt inName s (a+2)) hs (by decide) hn)
 have hf:=find_le s gtS _ hn
 have HT:=Lib.hid (fun w=>l01Tag_any (nameOf s (a+2)) w (by have:=nameOf_size s (a+2);unfold maxLen;omega))
 have HC:Hid (closeOf s a=(if (findTo s gtS (a+2+runAt inName s (a+2))).2=true then (if namedB small tagB (nameOf s (a+2))=true then tokA 3 a (((findTo s gtS (a+2+runAt inName s (a+2))).1+1-a:Nat):Int) (nameOf s (a+2)) ⟨#[]⟩ else tokA 5 a (((findTo s gtS (a+2+runAt inName s (a+2))).1+1-a:Nat):Int) ⟨#[]⟩ ⟨#[]⟩) else tokA 5 a ((s.size-a:Nat):Int) ⟨#[]⟩ ⟨#[]⟩)):=Lib.hid rfl
 have hge:a+2≤a+2+runAt inName s (a+2):=Nat.le_add_right _ _
 generalize nameOf s (a+2)=nm at HN HT HC
 generalize a+2+runAt inName s (a+2)=i1 at hn HN HF hf HC hge
 generalize findTo s gtS i1=kk at HF hf HC
 obtain ⟨k,ok⟩:=kk
 simp only at hf HF HC
 go_enter Tryz.func125,Tryz.ntmps125
 go_wp2_with fail
 refine (HN.out _).mono ?_
 rintro e w1 ⟨rfl,hB1⟩
 have L1:=Lib.hid (LZ.out.below hB1 (by simp))
 have B1:=Lib.hid (((Below.refl w.heap.size w).alloc (Nat.le_refl _) _).trans (hB1.mono (by simp)))
 clear hB1 LZ
 have n0:=L1.out.1
 have n1:=L1.out.2
 cases ok with
 | true=>
  have hk3:k+1≤s.size:=hf.2.2 rfl
  have hk1:=hf.1
  cases ht:namedB small tagB nm with
  | true=>
   rw[ht]at HT HC
   have HC:Hid (closeOf s a=tokA 3 a ((k+1-a:Nat):Int) nm ⟨#[]⟩):=Lib.hid HC.out
   go_wp2_with (first | (go_at_call 192;refine (HF.out _).mono ?_;rintro e w2 ⟨rfl,rfl⟩) | (go_at_call 120;refine (HT.out _).mono ?_;rintro e w3 ⟨rfl,rfl⟩))
   (try simp only[Exit.inBlock,Exit.then])
   have M2:Lay _ w.heap.size _:=⟨n0,n1⟩
   refine ret_tok rfl M2.put7 rfl rfl ⟨?_,below_put7 _ _ _ _ _ _ _ B1.out (Nat.le_refl _)⟩
   rw[HC.out,tokA]
   exact congrArg (fun x=>Ending.returned (.agg #[.int .i64 3,.int .i64 a,.int .i64 x,.string nm,.string ⟨#[]⟩,.slice none 0 0,.bool false])) (by omega)
  | false=>
   rw[ht]at HT HC
   have HC:Hid (closeOf s a=tokA 5 a ((k+1-a:Nat):Int) ⟨#[]⟩ ⟨#[]⟩):=Lib.hid HC.out
   go_wp2_with (first | (go_at_call 192;refine (HF.out _).mono ?_;rintro e w2 ⟨rfl,rfl⟩) | (go_at_call 120;refine (HT.out _).mono ?_;rintro e w3 ⟨rfl,rfl⟩))
   (try simp only[Exit.inBlock,Exit.then])
   have M2:Lay _ w.heap.size _:=⟨n0,n1⟩
   refine ret_tok rfl M2.put7 rfl rfl ⟨?_,below_put7 _ _ _ _ _ _ _ B1.out (Nat.le_refl _)⟩
   rw[HC.out,tokA]
   exact congrArg (fun x=>Ending.returned (.agg #[.int .i64 5,.int .i64 a,.int .i64 x,.string ⟨#[]⟩,.string ⟨#[]⟩,.slice none 0 0,.bool false])) (by omega)
 | false=>
  have HC:Hid (closeOf s a=tokA 5 a ((s.size-a:Nat):Int) ⟨#[]⟩ ⟨#[]⟩):=Lib.hid HC.out
  go_wp2_with (go_at_call 192;refine (HF.out _).mono ?_;rintro e w2 ⟨rfl,rfl⟩)
  (try simp only[Exit.inBlock,Exit.then])
  have M2:Lay _ w.heap.size _:=⟨n0,n1⟩
  refine ret_tok rfl M2.put7 rfl rfl ⟨?_,below_put7 _ _ _ _ _ _ _ B1.out (Nat.le_refl _)⟩
  rw[HC.out,tokA]
  exact congrArg (fun x=>Ending.returned (.agg #[.int .i64 5,.int .i64 a,.int .i64 x,.string ⟨#[]⟩,.string ⟨#[]⟩,.slice none 0 0,.bool false])) (by omega)
end Go.Proofs.YthdkkpbhijlpaaaGreatDoor
namespace Go.Proofs.YthdkkpbhijlpaaaGreatDoor
open Go.ChangeShapes Go.WideShapes Go.ChangeAt Go.RowKit
def byteAt (s:ByteArray) (j:Nat):Int:=if h:j<s.size then (s[j].toNat:Int) else -1
theorem byteAt_in {s:ByteArray} {j:Nat} (h:j<s.size):byteAt s j=(s[j].toNat:Int):=dif_pos h
def endB (c:Int):Bool:=blankB c||c==47||c==62
def lowX (s:ByteArray) (i j:Nat):ByteArray:=⟨((s.extract i j).data.toList.map lowU).toArray⟩
def rawHit (s raw:ByteArray) (i:Nat):Bool:=decide (i+2+raw.size<s.size)&&byteAt s i==60&&byteAt s (i+1)==47&&((lowX s (i+2) (i+2+raw.size)).toList==raw.toList)&&endB (byteAt s (i+2+raw.size))
def firstHit (hit:Nat→Bool) (n:Nat):Nat→Nat
 | 0=>n
 | f+1=>if hit (n-(f+1))=true then n-(f+1) else firstHit hit n f
def rawEnd (s raw:ByteArray) (i:Nat):Nat:=firstHit (rawHit s raw) s.size (s.size-i)
theorem rawEnd_hit {s raw:ByteArray} {i:Nat} (hi:i<s.size) (h:rawHit s raw i=true):rawEnd s raw i=i:=by
 unfold rawEnd
 obtain ⟨f,hf⟩:∃f,s.size-i=f+1:=⟨s.size-i-1,by omega⟩
 have e:s.size-(f+1)=i:=by omega
 rw[hf,firstHit,e,if_pos h]
theorem rawEnd_miss {s raw:ByteArray} {i:Nat} (hi:i<s.size) (h:rawHit s raw i=false):rawEnd s raw i=rawEnd s raw (i+1):=by
 unfold rawEnd
 obtain ⟨f,hf⟩:∃f,s.size-i=f+1:=⟨s.size-i-1,by omega⟩
 have e:s.size-(f+1)=i:=by omega
 have e2:s.size-(i+1)=f:=by omega
 rw[hf,firstHit,e,if_neg (by simp[h]),e2]
theorem firstHit_none {hit:Nat→Bool} {n:Nat}:∀f,(∀j,n-f≤j→j<n→hit j=false)→firstHit hit n f=n
 | 0,_=>rfl
 | f+1,h=>by
  rw[firstHit]
  split
  ·rename_i hh
   by_cases hn:n-(f+1)<n
   ·rw[h _ (Nat.le_refl _) hn]at hh;cases hh
   ·omega
  ·exact firstHit_none f fun j h1 h2=>h j (by omega) h2
theorem rawEnd_past {s raw:ByteArray} {i:Nat} (h:s.size≤i+2+raw.size):rawEnd s raw i=s.size:=
 firstHit_none _ fun j h1 h2=>by
  unfold rawHit
  rw[decide_eq_false (by omega)];rfl
theorem rawEnd_le (s raw:ByteArray) (i:Nat) (hi:i≤s.size):i≤rawEnd s raw i∧rawEnd s raw i≤s.size:=by
 have key:∀f,f≤s.size→s.size-f≤firstHit (rawHit s raw) s.size f∧firstHit (rawHit s raw) s.size f≤s.size:=by
  intro f
  induction f with
  | zero=>intro _;exact ⟨Nat.le_refl _,Nat.le_refl _⟩
  | succ f ih=>
   intro hf
   rw[firstHit]
   split
   ·omega
   ·have:=ih (by omega);omega
 have:=key (s.size-i) (by omega)
 unfold rawEnd
 omega
set_option maxHeartbeats 2000000 in
theorem l04RawEnd_any (s raw:ByteArray) (i:Nat) (hs:s.size≤65536) (hr:raw.size≤65536) (hi:i≤s.size) (w:World):
 Calls Tryz.prog 121 #[.string s,.int .i64 (i:Int),.string raw] w fun e w'=>e=.returned (.int .i64 (rawEnd s raw i:Nat))∧Below w.heap.size w w':=by
 go_enter Tryz.func121,Tryz.ntmps121
 go_wp2
 go_loopw [7] (fun x wr=>∃j:Nat,x=.int .i64 (j:Int)∧j≤s.size∧Hid (rawEnd s raw j=rawEnd s raw i∧Below w.heap.size w wr)) (fun x wr=>s.size-(intOf x).toNat)
 case atStart=>exact ⟨i,rfl,hi,Lib.hid ⟨rfl,Below.refl _ _⟩⟩
 case round=>
  obtain ⟨j,rfl,hj,HH⟩:=hrel
  by_cases hlt:j+2+raw.size<s.size
  ·have hj0:j<s.size:=by omega
   have hj1:j+1<s.size:=by omega
   have HM:Hid (rawHit s raw j=false→rawEnd s raw (j+1)=rawEnd s raw i):=Lib.hid fun h=>by rw[←rawEnd_miss hj0 h];exact HH.out.1
   have HV:Hid (rawHit s raw j=(byteAt s j==60&&byteAt s (j+1)==47&&((lowX s (j+2) (j+2+raw.size)).toList==raw.toList)&&endB (byteAt s (j+2+raw.size)))):=Lib.hid (by unfold rawHit;rw[decide_eq_true hlt,Bool.true_and])
   rw[byteAt_in hj0,byteAt_in hj1,byteAt_in hlt]at HV
   cases h0:((s[j].toNat:Int)==60) with
   | false=>
    have HN:=Lib.hid (HM.out (by rw[HV.out,h0];rfl))
    go_wp2
    go_roundw
    case rel=>exact ⟨j+1,by go_num,by omega,Lib.hid ⟨HN.out,HH.out.2⟩⟩
    case measure=>simp[intOf];omega
   | true=>
    cases h1:((s[j+1].toNat:Int)==47) with
    | false=>
     have HN:=Lib.hid (HM.out (by rw[HV.out,h0,h1];rfl))
     go_wp2
     go_roundw
     case rel=>exact ⟨j+1,by go_num,by omega,Lib.hid ⟨HN.out,HH.out.2⟩⟩
     case measure=>simp[intOf];omega
    | true=>
     cases h2:((lowX s (j+2) (j+2+raw.size)).toList==raw.toList) with
     | false=>
      have HN:=Lib.hid (HM.out (by rw[HV.out,h0,h1,h2];rfl))
      go_wp2_with (go_at_call 186;refine (lower_is (s.extract (j+2) (j+2+raw.size)) (lowX s (j+2) (j+2+raw.size)) rfl (by rw[ByteArray.size_extract];omega) _).mono ?_;rintro e w1 ⟨rfl,hB⟩;have B1:=Lib.hid (HH.out.2.trans (hB.mono HH.out.2.size));clear hB)
      go_roundw
      case rel=>exact ⟨j+1,by go_num,by omega,Lib.hid ⟨HN.out,B1.out⟩⟩
      case measure=>simp[intOf];omega
     | true=>
      have HB:=Lib.hid (l04Blank_any (s[j+2+raw.size].toNat:Int))
      cases h3:blankB (s[j+2+raw.size].toNat:Int) with
      | true=>
       rw[h3]at HB
       have HN:Hid (rawEnd s raw i=j):=Lib.hid (by rw[←HH.out.1];exact rawEnd_hit hj0 (by rw[HV.out,h0,h1,h2];simp[endB,h3]))
       go_wp2_with (first | (go_at_call 186;refine (lower_is (s.extract (j+2) (j+2+raw.size)) (lowX s (j+2) (j+2+raw.size)) rfl (by rw[ByteArray.size_extract];omega) _).mono ?_;rintro e w1 ⟨rfl,hB⟩;have B1:=Lib.hid (HH.out.2.trans (hB.mono HH.out.2.size));clear hB) | (go_at_call 187;refine (HB.out _).mono ?_;rintro e w2 ⟨rfl,rfl⟩))
       go_ret
       exact ⟨by rw[HN.out];rfl,B1.out⟩
      | false=>
       rw[h3]at HB
       cases h4:((s[j+2+raw.size].toNat:Int)==47) with
       | true=>
        have HN:Hid (rawEnd s raw i=j):=Lib.hid (by rw[←HH.out.1];exact rawEnd_hit hj0 (by rw[HV.out,h0,h1,h2];simp[endB,h4]))
        go_wp2_with (first | (go_at_call 186;refine (lower_is (s.extract (j+2) (j+2+raw.size)) (lowX s (j+2) (j+2+raw.size)) rfl (by rw[ByteArray.size_extract];omega) _).mono ?_;rintro e w1 ⟨rfl,hB⟩;have B1:=Lib.hid (HH.out.2.trans (hB.mono HH.out.2.size));clear hB) | (go_at_call 187;refine (HB.out _).mono ?_;rintro e w2 ⟨rfl,rfl⟩))
        go_ret
        exact ⟨by rw[HN.out];rfl,B1.out⟩
       | false=>
        cases h5:((s[j+2+raw.size].toNat:Int)==62) with
        | true=>
         have HN:Hid (rawEnd s raw i=j):=Lib.hid (by rw[←HH.out.1];exact rawEnd_hit hj0 (by rw[HV.out,h0,h1,h2];simp[endB,h5]))
         go_wp2_with (first | (go_at_call 186;refine (lower_is (s.extract (j+2) (j+2+raw.size)) (lowX s (j+2) (j+2+raw.size)) rfl (by rw[ByteArray.size_extract];omega) _).mono ?_;rintro e w1 ⟨rfl,hB⟩;have B1:=Lib.hid (HH.out.2.trans (hB.mono HH.out.2.size));clear hB) | (go_at_call 187;refine (HB.out _).mono ?_;rintro e w2 ⟨rfl,rfl⟩))
         go_ret
         exact ⟨by rw[HN.out];rfl,B1.out⟩
        | false=>
         have HN:=Lib.hid (HM.out (by rw[HV.out,h0,h1,h2,endB,h3,h4,h5];rfl))
         go_wp2_with (first | (go_at_call 186;refine (lower_is (s.extract (j+2) (j+2+raw.size)) (lowX s (j+2) (j+2+raw.size)) rfl (by rw[ByteArray.size_extract];omega) _).mono ?_;rintro e w1 ⟨rfl,hB⟩;have B1:=Lib.hid (HH.out.2.trans (hB.mono HH.out.2.size));clear hB) | (go_at_call 187;refine (HB.out _).mono ?_;rintro e w2 ⟨rfl,rfl⟩))
         go_roundw
         case rel=>exact ⟨j+1,by go_num,by omega,Lib.hid ⟨HN.out,B1.out⟩⟩
         case measure=>simp[intOf];omega
  ·have HE:=Lib.hid (rawEnd_past (s:=s) (raw:=raw) (i:=j) (by omega))
   go_wp2
   go_ret
   exact ⟨by rw[←HH.out.1,HE.out];rfl,HH.out.2⟩
end Go.Proofs.YthdkkpbhijlpaaaGreatDoor
