import Derived.BigQuiet
import Derived.Deep.QuietTactic
import Derived.WalkSmall
import Derived.IntWalk
import Derived.Deep.Draws
import Derived.Maps.AppendAt
import Derived.Laws.IdiomStrings
import Derived.Lib.SlBytesRow
import Derived.Test.YthdkkpbhijlpaaaGreatDoorProg
import Derived.WalkKit
import Derived.ProofKit
import Derived.Lib.Hide
import Derived.Below
import Derived.Shelf.Strings.BuilderK
import Derived.StillTailTactics
import Derived.Laws.RangeAny
import Derived.Lib.SpaceUEq
import Derived.Test.YthdkkpbhijlpaaaGreatDoorQ00
set_option linter.unusedVariables false
namespace Go.Proofs.YthdkkpbhijlpaaaGreatDoor
open Go.ChangeShapes Go.WideShapes Go.ChangeAt Go.RowKit
def rest (s:ByteArray) (p:Nat):List UInt8:=s.data.toList.drop p
theorem rest_len (s:ByteArray) (p:Nat):(rest s p).length=s.size-p:=by simp[rest]
theorem rest_at {s:ByteArray} {p i:Nat} (h:p+i<s.size):(rest s p)[i]?=some (s[p+i]'h):=by
 rw[rest,List.getElem?_drop];exact byte_at h
theorem rest_cons {s:ByteArray} {p:Nat} (h:p<s.size):rest s p=s[p]::rest s (p+1):=by
 unfold rest;rw[List.drop_eq_getElem_cons (by simpa using h)];rfl
def OneP (s:ByteArray) (p:Nat) (w:World) (e:Ending) (w':World):Prop:=∃(c n:Int),e=.returned (.tuple #[.int .u8 c,.int .i64 n]) ∧
 ((∃b m,oneAt (rest s p)=some (b,m)∧c=(b.toNat:Int)∧n=(m:Int))∨(oneAt (rest s p)=none∧c=0∧n=0))∧Below w.heap.size w w'
def NoSemi (s:ByteArray) (p m:Nat):Prop:=∀j (h:j<s.size),p≤j→j<m→s[j]≠59
theorem NoSemi.succ {s:ByteArray} {p m:Nat} (h:NoSemi s p m) (hm:m<s.size) (h1:s[m]≠59):NoSemi s p (m+1):=fun j hj h2 h3=>by
 by_cases e:j=m
 ·subst e;exact h1
 ·exact h j hj h2 (by omega)
theorem noSemi_rest {s:ByteArray} {p m:Nat} (h:NoSemi s p m) (hm:m=s.size∨m=p+6):∀i,i<6→(rest s p)[i]?≠some 59:=fun i hi=>by
 by_cases hl:p+i<s.size
 ·rw[rest_at hl]
  intro e
  injection e with e1
  exact h (p+i) hl (by omega) (by omega) e1
 ·rw[List.getElem?_eq_none (by rw[rest_len];omega)]
  intro e;cases e
theorem cut_list' (s:ByteArray) (a b:Nat):(s.extract a b).data.toList=(s.data.toList.take b).drop a:=by
 rw[ByteArray.data_extract,Array.toList_extract,List.extract_eq_take_drop,List.drop_take]
theorem rest_number {s:ByteArray} {p m:Nat} (h1:p+2≤m) (hm:m<s.size) (h59:s[m]=59):rest s p=s[p]'(by omega)::s[p+1]'(by omega)::((s.extract (p+2) m).data.toList++59::rest s (m+1)):=by
 rw[rest_cons (by omega),rest_cons (by omega)]
 congr 2
 rw[cut_list']
 have e:rest s (p+1+1)=(s.data.toList.take m).drop (p+2)++rest s m:=by
  unfold rest
  conv=>lhs;rw[←List.take_append_drop m s.data.toList]
  rw[List.drop_append_of_le_length (by simp;omega)]
 rw[e,rest_cons hm,h59]
theorem extract_len {s:ByteArray} {a b:Nat} (h:b≤s.size):(s.extract a b).data.toList.length=b-a:=by
 rw[cut_list'];simp;omega
theorem one_number_at {s:ByteArray} {p m:Nat} (hno:NoName (rest s p) 4) (h38:∀h:p<s.size,s[p]=38) (h35:∀h:p+1<s.size,s[p+1]=35) (h1:p+2≤m) (h6:m<p+6) (hm:m<s.size) (h59:s[m]=59) (hns:NoSemi s p m):
 oneAt (rest s p)=(num3 (s.extract (p+2) m).data.toList).map fun n=>(UInt8.ofNat n,m+1-p):=by
 have hr:=rest_number h1 hm h59
 have hl:=extract_len (s:=s) (a:=p+2) (b:=m) (by omega)
 rw[hr]at hno ⊢
 rw[one_digits hno (h38 _) (h35 _) (by omega) (fun c hc=>?_)]
 ·congr 1
  funext n
  rw[hl];congr 1;omega
 ·obtain ⟨i,hi,rfl⟩:=List.getElem_of_mem hc
  rw[hl]at hi
  have e:(s.extract (p+2) m).data.toList[i]?=some (s[p+2+i]'(by omega)):=by
   rw[cut_list',List.getElem?_drop,List.getElem?_take,if_pos (by omega)]
   exact byte_at (by omega)
  rw[List.getElem?_eq_getElem (by rw[hl];exact hi)]at e
  injection e with e1
  rw[e1]
  exact hns _ (by omega) (by omega) (by omega)
def nmS:List ByteArray:=nmL.map fun l=>⟨l.toArray⟩
def NamesAt (L:Nat) (w:World):Prop:=w.heap[L]?=some (.cells (nmS.map Value.string).toArray 9)
theorem NamesAt.cell {L:Nat} {w:World} (h:NamesAt L w) {k:Nat} (hk:k<nmL.length):w.cell? ⟨L,k,none⟩=some (.string ⟨nmL[k].toArray⟩):=by
 have hk':k<nmS.length:=hk
 unfold World.cell?
 rw[h]
 simp[hk']
 simp[nmS]
theorem NamesAt.new (w:World):NamesAt w.heap.size (w.alloc (.cells (nmS.map Value.string).toArray 9)):=by
 show (w.heap.push _)[w.heap.size]?=_
 simp
theorem cut_list (s:ByteArray) (a b:Nat):(s.extract a b).data.toList=(s.data.toList.take b).drop a:=by
 rw[ByteArray.data_extract,Array.toList_extract,List.extract_eq_take_drop,List.drop_take]
theorem named_yes {s:ByteArray} {p:Nat} {nm:ByteArray} (_hp:p+nm.size≤s.size) (h:((s.extract p (p+nm.size)).toList==nm.toList)=true):nm.data.toList <+: rest s p:=by
 have e:(s.extract p (p+nm.size)).toList=nm.toList:=by simpa using h
 rw[ByteArray.toList_eq,ByteArray.toList_eq,cut_list,List.drop_take]at e
 rw[←e,show p+nm.size-p=nm.size by omega]
 exact List.take_prefix _ _
theorem named_no {s:ByteArray} {p:Nat} {nm:ByteArray} (h:¬p+nm.size≤s.size∨((s.extract p (p+nm.size)).toList==nm.toList)=false) (h0:p≤s.size):¬nm.data.toList <+: rest s p:=by
 intro hp
 have hl:=hp.length_le
 rw[rest_len]at hl
 have hz:nm.data.toList.length=nm.size:=by simp
 rcases h with h | h
 ·omega
 ·have e:¬(s.extract p (p+nm.size)).toList=nm.toList:=by simpa using h
  apply e
  rw[ByteArray.toList_eq,ByteArray.toList_eq,cut_list,List.drop_take,show p+nm.size-p=nm.size by omega]
  obtain ⟨t,ht⟩:=hp
  show (rest s p).take nm.size=_
  rw[←ht,←hz,List.take_left]
set_option maxHeartbeats 4000000 in
set_option maxRecDepth 100000 in
theorem l02One_any (s:ByteArray) (p:Nat) (hp:p<s.size) (hs:s.size≤65536) (h38:s[p]=38) (w:World):
 Calls Tryz.prog 239 #[.string s,.int .i64 (p:Int)] w (OneP s p w):=by
 have H38:=Lib.hid h38
 clear h38
 go_enter Tryz.func239,Tryz.ntmps239
 go_wp2
 obtain ⟨W,hW⟩:∃W,W=w.alloc (.cells (nmS.map Value.string).toArray 9):=⟨_,rfl⟩
 have hN:NamesAt w.heap.size W:=by rw[hW];exact NamesAt.new w
 have hbW:Below w.heap.size w W:=by rw[hW];exact (Below.refl _ w).alloc (Nat.le_refl _) _
 have HW:=Lib.hid hW
 clear hW
 go_loopw [7] (fun i wr=>∃k:Nat,k≤4∧i=.int .i64 k∧NoName (rest s p) k∧∃q,wr=W.drewN q) (fun i _=>4-(intOf i).toNat)
 case atStart=>exact ⟨0,by omega,rfl,NoName.zero _,0,by rw[HW.out];rfl⟩
 case round=>
  obtain ⟨k,hk,rfl,hno,q,rfl⟩:=hrel
  have HNo:=Lib.hid hno
  clear hno
  by_cases hlt:k<4
  ·have hlt':k<nmL.length:=hlt
   have hki:(k:Int)<4:=by omega
   have hc:W.cell? ⟨w.heap.size,k,none⟩=some (.string ⟨nmL[k].toArray⟩):=hN.cell hlt'
   have hz5:nmL[k].length≤6:=by
    have:∀j:Fin 4,nmL[j].length≤6:=by decide
    exact this ⟨k,hlt⟩
   obtain ⟨nm,hnm⟩:∃nm:ByteArray,nm=⟨nmL[k].toArray⟩:=⟨_,rfl⟩
   rw[←hnm]at hc
   have hnl:nm.data.toList=nmL[k]:=by rw[hnm]
   have hsz:nm.size≤6:=by
    have:nm.data.toList.length=nm.size:=by simp
    rw[hnl]at this;omega
   have HNM:=Lib.hid hnl
   clear hnm hnl hz5
   have ew:IntKind.i64.wrap ((p:Int)+(nm.size:Int))=(p:Int)+(nm.size:Int):=IntWalk.i64_in _ (by omega)
   by_cases h1:(p:Int)+(nm.size:Int)≤(s.size:Int)
   ·have hx:=cut_at s p (p+nm.size) (by omega) (by omega) p ((p:Int)+(nm.size:Int)) rfl (by omega)
    by_cases h2:((s.extract p (p+nm.size)).toList==nm.toList)=true
    ·have HY:=Lib.hid (named_yes (by omega) h2)
     go_wp2
     go_quiet (fail)
     have hbq:Below w.heap.size w ((W.drewN q).drewN nq):=below_drewN (below_drewN hbW q) nq
     generalize (W.drewN q).drewN nq=W2 at hbq ⊢
     go_wp2
     go_ret2
     refine ⟨_,_,rfl,Or.inl ⟨_,_,one_named hlt' (by rw[←HNM.out];exact HY.out),?_,?_⟩,hbq⟩
     ·rfl
     ·rw[←HNM.out];simp
    ·have h2':((s.extract p (p+nm.size)).toList==nm.toList)=false:=by simpa using h2
     clear h2
     have HY:=Lib.hid (named_no (Or.inr h2') (by omega))
     go_wp2
     go_quiet (fail)
     go_wp2
     go_roundw
     case rel=>exact ⟨k+1,by omega,by go_num,HNo.out.succ hlt' (by rw[←HNM.out];exact HY.out),q+nq,rfl⟩
     case measure=>simp[intOf];omega
   ·have h1':decide ((p:Int)+(nm.size:Int)≤(s.size:Int))=false:=by simpa using h1
    have HY:=Lib.hid (named_no (s:=s) (p:=p) (nm:=nm) (Or.inl (by omega)) (by omega))
    clear h1
    go_wp2
    go_quiet (fail)
    go_wp2
    go_roundw
    case rel=>exact ⟨k+1,by omega,by go_num,HNo.out.succ hlt' (by rw[←HNM.out];exact HY.out),q+nq,rfl⟩
    case measure=>simp[intOf];omega
  ·obtain rfl:k=4:=by omega
   have hbq:Below w.heap.size w (W.drewN q):=below_drewN hbW q
   generalize W.drewN q=W2 at hbq ⊢
   by_cases h3:s.size≤p+3
   ·have HO:=Lib.hid (one_short HNo.out (by rw[rest_len];omega))
    have h3':(s.size:Int)≤(p:Int)+3:=by omega
    clear h3
    go_wp2
    go_ret2
    exact ⟨0,0,rfl,Or.inr ⟨HO.out,rfl,rfl⟩,hbq⟩
   ·have h3':decide ((s.size:Int)≤(p:Int)+3)=false:=by simp;omega
    have hp1:p+1<s.size:=by omega
    have hp1':(p:Int)+1<(s.size:Int):=by omega
    by_cases h35:(s[p+1].toNat:Int)=35
    ·have h35':((s[p+1].toNat:Int) != 35)=false:=by simp[h35]
     have H35:=Lib.hid h35
     clear h35
     have H35b:=Lib.hid (show s[p+1]=35 from UInt8.toNat_inj.1 (by have:=H35.out;show (s[p+1]).toNat=35;omega))
     clear H35
     go_wp2
     go_loop [9] (fun i=>∃m:Nat,p+2≤m∧m≤p+6∧m≤s.size∧i=.int .i64 m∧NoSemi s p m) (fun i=>p+6-(intOf i).toNat)
     case atStart=>
      refine ⟨p+2,Nat.le_refl _,by omega,by omega,by go_num,fun j hj h1 h2=>?_⟩
      by_cases e:j=p
      ·subst e;rw[H38.out];decide
      ·obtain rfl:j=p+1:=by omega
       rw[H35b.out];decide
     case round=>
      obtain ⟨m,hm1,hm2,hm3,rfl,hns⟩:=hrel
      have HNS:=Lib.hid hns
      clear hns
      by_cases hms:m<s.size
      ·by_cases hm6:(m:Int)<(p:Int)+6
       ·by_cases h59:((s[m].toNat:Int)==59)=true
        ·have H59:=Lib.hid (show s[m]=59 from byte_of_int (n:=59) (by omega) h59)
         have HO:=Lib.hid (one_number_at HNo.out (fun _=>H38.out) (fun _=>H35b.out) hm1 (by omega) hms H59.out HNS.out)
         have hx:=cut_at s (p+2) m hm1 (by omega) ((p:Int)+2) m (by omega) rfl
         have hxs:(s.extract (p+2) m).size≤3:=by rw[ByteArray.size_extract];omega
         generalize s.extract (p+2) m=d at hx hxs HO
         go_wp2_with (go_at_call 265;refine (l00Number_any d hxs _).mono ?_)
         rintro e w1 ⟨z,b,rfl,hz,rfl⟩
         rcases hz with ⟨rfl,hz1,hz2,hz3⟩ | ⟨hz,hz3⟩
         ·have HZ:=Lib.hid hz3
          clear hz3
          go_wp2_with (go_at_call 32;refine (l01In_any z 1 126 _).mono ?_;rintro e w2 ⟨rfl,rfl⟩)
          have hzn:IntKind.u8.wrap z=z:=IntWalk.u8_in z (by omega)
          go_wp2
          go_ret2
          refine ⟨_,_,rfl,Or.inl ⟨UInt8.ofNat z.toNat,m+1-p,by rw[HO.out,HZ.out];rfl,?_,?_⟩,hbq⟩
          ·simp;omega
          ·omega
         ·have HO2:=Lib.hid (show oneAt (rest s p)=none by rw[HO.out,hz3];rfl)
          clear hz3
          cases b
          ·go_wp2
           go_ret2
           exact ⟨0,0,rfl,Or.inr ⟨HO2.out,rfl,rfl⟩,hbq⟩
          ·have hz':z<1∨(1≤z∧decide (z≤126)=false):=by
            rcases hz with h | h | h
            ·cases h
            ·exact Or.inl h
            ·exact Or.inr ⟨by omega,by simp;omega⟩
           clear hz
           rcases hz' with hz | ⟨hz,hz2⟩
           all_goals
            go_wp2_with (go_at_call 32;refine (l01In_any z 1 126 _).mono ?_;rintro e w2 ⟨rfl,rfl⟩)
            go_ret2
            exact ⟨0,0,rfl,Or.inr ⟨HO2.out,rfl,rfl⟩,hbq⟩
        ·have h59':((s[m].toNat:Int)==59)=false:=by simpa using h59
         have HN':=Lib.hid (HNS.out.succ hms (fun e=>h59 (by rw[e];rfl)))
         clear h59
         go_wp2
         go_round
         case rel=>exact ⟨m+1,by omega,by omega,by omega,by go_num,HN'.out⟩
         case measure=>simp[intOf];omega
       ·have hm6':decide ((m:Int)<(p:Int)+6)=false:=by simpa using hm6
        have HO:=Lib.hid (one_noEnd HNo.out (noSemi_rest HNS.out (Or.inr (by omega))))
        clear hm6
        go_wp2
        go_ret2
        exact ⟨0,0,rfl,Or.inr ⟨HO.out,rfl,rfl⟩,hbq⟩
      ·obtain rfl:m=s.size:=by omega
       have HO:=Lib.hid (one_noEnd HNo.out (noSemi_rest HNS.out (Or.inl rfl)))
       go_wp2
       go_ret2
       exact ⟨0,0,rfl,Or.inr ⟨HO.out,rfl,rfl⟩,hbq⟩
    ·have h35':((s[p+1].toNat:Int) != 35)=true:=by simpa using h35
     have HO:=Lib.hid (one_noHash HNo.out (by
      rw[rest_at (by omega)]
      intro e
      injection e with e1
      apply h35
      rw[e1];rfl))
     clear h35
     go_wp2
     go_ret2
     exact ⟨0,0,rfl,Or.inr ⟨HO.out,rfl,rfl⟩,hbq⟩
end Go.Proofs.YthdkkpbhijlpaaaGreatDoor
namespace Go.Proofs.YthdkkpbhijlpaaaGreatDoor
open Go.ChangeShapes Go.WideShapes Go.ChangeAt Go.RowKit
theorem Tryz.info5 : (Tryz.prog.info? 5).map (fun i=>(i.zero,i.size,i.bytes))=some (some (.int .u8 0),1,1):=by kernel_rfl
abbrev cellU (b:UInt8):Value:=.int .u8 (b.toNat:Int)
def OwnB (w0 w:World) (v:Value) (l:List UInt8):Prop:=
 w.ownsRow w0.heap.size 5 1 v l.length (l.map cellU)∧Below w0.heap.size w0 w
theorem run_append_byte {w0 wr:World} {v:Value} {l:List UInt8} (h:OwnB w0 wr v l) (hl:l.length<1000000000000) (ty:TypeId) {x:Int} {b:UInt8} (hb:x=(b.toNat:Int)):
 ∃v' w',(Builtin.append_ #[79,79] ty #[v,.slice (some ⟨wr.heap.size,0,none⟩) 1 1]).run Tryz.prog (wr.alloc (.cells #[.int .u8 x] 5))=.ok v' w'∧OwnB w0 w' v' (l++[b]):=by
 subst hb
 obtain ⟨i0,hi,hz0,hz1,hz2⟩:=info_parts Tryz.info5
 obtain ⟨v',w',hrun,h2,h3,_⟩:=run_append_own (P:=Tryz.prog) (wr.alloc (.cells #[.int .u8 (b.toNat:Int)] 5)) w0.heap.size 79 ty 5 i0 (.int .u8 0) 1 1 Tryz.underlying79 hi hz0 hz1 hz2 rfl (by decide)
  v l.length (l.map cellU) (h.1.alloc _) ⟨wr.heap.size,0,none⟩ 1 1 [cellU b] rfl (cell_one_new _ _ _) (by simp[Value.oneCell']) (by unfold maxLen;omega) (by omega) (by simp;have:=h.2.size;omega)
 refine ⟨v',w',hrun,by simpa using h2,(h.2.alloc h.2.size _).grown h3 (by simp;have:=h.2.size;omega) (fun k hk=>(h.1.lt k hk).1)⟩
theorem wpList_append_byte {ops:Array Oper} {rest:List Oper} {o:Oper} {a:Act} {Q:Exit→Act→World→Prop} (w0 wr:World) (hgd:o.guard=none) (s x:Operand)
 (ho:o.op=.call { callee:=.builtin .append,args:=#[s,x],argTypes:=#[79,79]})
 (v:Value) (l:List UInt8) (n:Int) (b:UInt8) (hs:a.eval s=v) (hx:a.eval x=.slice (some ⟨wr.heap.size,0,none⟩) 1 1) (h:OwnB w0 wr v l) (hl:l.length<1000000000000) (hb:n=(b.toNat:Int))
 (hK:∀v' w',OwnB w0 w' v' (l++[b])→wpList Tryz.prog ops Q rest (a.put o.dst v') w'):
 wpList Tryz.prog ops Q (o::rest) a (wr.alloc (.cells #[.int .u8 n] 5)):=by
 refine wpList_plain hgd fun _ hK'=>?_
 obtain ⟨v',w',hrun,h2⟩:=run_append_byte h hl o.type hb
 unfold Oper.wp execOp
 simp only[ho,resolve,invoke,builtin,Sem.run_bind,Sem.run_pure,Result.andThen_ok,List.map_toArray,List.map_cons,List.map_nil,hs,hx,hrun]
 exact hK' _ _ (hK v' w' h2)
theorem OwnB.cellAt {w0 w:World} {g cap n:Nat} {l:List UInt8} (h:OwnB w0 w (.slice (some ⟨g,0,none⟩) n cap) l):n=l.length∧∀j (hj:j<l.length),w.cell? ⟨g,j,none⟩=some (cellU l[j]):=by
 obtain ⟨⟨h1,h2⟩,h3⟩:=h
 have hn:n=l.length:=by
  rcases h2 with ⟨he,h0⟩ | ⟨g',cap',cur,he,_⟩
  ·cases he
  ·injection he
 subst hn
 refine ⟨rfl,fun j hj=>?_⟩
 have:=World.ownsRow.cellAt (w:=w) (base:=w0.heap.size) (e:=5) (size:=1) (xs:=l.map cellU) ⟨h1,h2⟩ j (by omega)
 rw[this];simp[hj]
theorem run_string_own {w0 w:World} {v:Value} {l:List UInt8} (h:OwnB w0 w v l):(convert 79 9 v).run Tryz.prog w=.ok (.string ⟨l.toArray⟩) w:=by
 have h0:=h
 obtain ⟨⟨h1,h2⟩,h3⟩:=h0
 rcases h2 with ⟨rfl,hz⟩ | ⟨g,cap,cur,rfl,_⟩
 ·have:l=[]:=List.length_eq_zero_iff.mp hz
  subst this
  rw[run_convert_bytes_string w 79 9 5 none 0 0 Tryz.underlying79 Tryz.underlying5 Tryz.underlying9]
  rfl
 ·obtain ⟨_,hc⟩:=h.cellAt
  exact run_convert_bytes_back w 79 9 5 ⟨g,0,none⟩ cap l Tryz.underlying79 Tryz.underlying5 Tryz.underlying9 (fun j hj=>by rw[show (⟨g,0,none⟩:Addr).add j=⟨g,j,none⟩ by cases j <;> simp[Addr.add]];exact hc j hj)
theorem wpList_string_own {ops:Array Oper} {rest:List Oper} {o:Oper} {a:Act} {Q:Exit→Act→World→Prop} (w0 w:World) (hgd:o.guard=none) (s:Operand)
 (ho:o.op=.convert 79 9 s) (v:Value) (l:List UInt8) (hs:a.eval s=v) (h:OwnB w0 w v l)
 (hK:wpList Tryz.prog ops Q rest (a.put o.dst (.string ⟨l.toArray⟩)) w):
 wpList Tryz.prog ops Q (o::rest) a w:=by
 refine wpList_plain hgd fun _ hK'=>?_
 have hrun:=run_string_own h
 unfold Oper.wp
 simp[execOp,ho,hs,hrun,Result.andThen]
 exact hK' _ _ hK
end Go.Proofs.YthdkkpbhijlpaaaGreatDoor
namespace Go.Proofs.YthdkkpbhijlpaaaGreatDoor
open Go.ChangeShapes Go.WideShapes Go.ChangeAt Go.RowKit Go.Shelf
theorem sizeBuilder:(Tryz.prog.info? 94).map (·.size)=some 2:=by kernel_rfl
theorem liesBuilder:liesAt Tryz.prog Tryz.prog.depth 94 (2 / Tryz.prog.cellsOf 94) 0 94 1=true:=by kernel_rfl
theorem infoByte:(Tryz.prog.info? 5).map (fun i=>(i.zero,i.size,i.bytes))=some (some (.int .u8 0),1,1):=by kernel_rfl
set_option maxHeartbeats 1000000 in
set_option maxRecDepth 100000 in
theorem copyCheck_used (b:Nat) (w:World) (h0:w.cell? ⟨b,0,none⟩=some (.pointer (some ⟨b,0,none⟩))):
 Calls Tryz.prog 236 #[.pointer (some ⟨b,0,none⟩)] w fun e w'=>e=.returned (.tuple #[])∧w=w':=by
 obtain ⟨j,hj,_⟩:=Option.map_eq_some_iff.1 sizeBuilder
 go_enter Tryz.func236,Tryz.ntmps236
 go_wp2
 rw[Lib.run_neq_ptr_same w _ Tryz.underlying92 hj]
 go_wp2
 go_end0
 exact ⟨rfl,rfl⟩
set_option maxHeartbeats 1000000 in
set_option maxRecDepth 100000 in
theorem copyCheck_fresh (b:Nat) (w:World) (h0:w.cell? ⟨b,0,none⟩=some (.pointer none)) (hsh:w.shape? b=some (94,2)) (hfz:w.frozen? ⟨b,0,none⟩=false):
 Calls Tryz.prog 236 #[.pointer (some ⟨b,0,none⟩)] w fun e w'=>e=.returned (.tuple #[])∧w'=w.setCell ⟨b,0,none⟩ (.pointer (some ⟨b,0,none⟩)):=by
 obtain ⟨j,hj,hjs⟩:=Option.map_eq_some_iff.1 sizeBuilder
 go_enter Tryz.func236,Tryz.ntmps236
 go_wp2
 rw[Lib.run_to_unsafe w ⟨b,0,none⟩ Tryz.underlying92 Tryz.underlying237 hj (by rw[hjs];decide) hsh (Nat.zero_lt_succ 1)]
 simp only[Result.andThen]
 rw[Oper.upon_value]
 go_wp2
 rw[run_callFunc_extern Tryz.func263 (by kernel_rfl) (by kernel_rfl) (by kernel_rfl) (e:=Extern.AbiNoEscape.same) (by kernel_rfl)]
 rw[Lib.run_noEscape]
 simp only[Result.andThen]
 rw[Oper.upon_value]
 go_wp2
 rw[Lib.run_from_unsafe w ⟨b,0,none⟩ Tryz.underlying237 Tryz.underlying92 hj hsh liesBuilder]
 simp only[Result.andThen]
 rw[Oper.upon_value]
 go_wp2
 go_end0
 exact ⟨rfl,rfl⟩
abbrev BldF (B b:Nat) (bs:List Value) (w:World):Prop:=Lib.IsBuilderF 94 5 B b bs w
abbrev Kept (b:Nat) (w w':World):Prop:=Lib.OthersKept 5 (some b) w w'
theorem copyCheck_any (B b:Nat) (bs:List Value) (w:World) (h:BldF B b bs w):
 Calls Tryz.prog 236 #[.pointer (some ⟨b,0,none⟩)] w fun e w'=>e=.returned (.tuple #[])∧(Lib.BuilderAtF 94 5 B b (.pointer (some ⟨b,0,none⟩)) bs w'∧Below B w w'∧Kept b w w'):=by
 rcases h with h | h
 ·refine (copyCheck_fresh b w h.cell0 h.shape h.frozen0).mono ?_
  rintro e w' ⟨rfl,rfl⟩
  exact ⟨rfl,h.used _,(Below.refl B w).setCell (p:=⟨b,0,none⟩) h.1 _,(Lib.OthersKept.refl _ _ w).setCell ⟨b,0,none⟩ rfl _⟩
 ·refine (copyCheck_used b w h.cell0).mono ?_
  rintro e w' ⟨rfl,rfl⟩
  exact ⟨rfl,h,Below.refl B _,Lib.OthersKept.refl _ _ _⟩
set_option maxHeartbeats 2000000 in
set_option maxRecDepth 100000 in
theorem writeString_any (B b:Nat) (bs:List Value) (s:ByteArray) (w:World) (h:BldF B b bs w) (hlen:bs.length+s.size≤140737488355328) (hBw:B≤w.heap.size):
 Calls Tryz.prog 183 #[.pointer (some ⟨b,0,none⟩),.string s] w fun e w'=>e=.returned (.tuple #[.int .i64 s.size,.nilIface])∧(BldF B b (bs++Lib.strCells s) w'∧Below B w w'∧Kept b w w'):=by
 obtain ⟨i0,hi,hz0,hz1,hz2⟩:=info_parts infoByte
 go_enter Tryz.func183,Tryz.ntmps183
 go_wp2_with (go_at_call 236;refine (copyCheck_any B b bs _ h).mono ?_)
 rintro e w1 ⟨rfl,h1,hb1,hk1⟩
 obtain ⟨hB,v,hbk,hown,hne⟩:=h1
 have c0:w1.cell? ⟨b,0,none⟩=some (.pointer (some ⟨b,0,none⟩)):=by rw[Lib.cell_of_heap hbk];rfl
 have c1:w1.cell? ⟨b,1,none⟩=some v:=by rw[Lib.cell_of_heap hbk];rfl
 go_wp2_with (at_builtin;refine Lib.wpList_append_own_stringF _ rfl _ _ 79 9 rfl B 5 i0 Tryz.underlying79 Tryz.underlying9 hi hz0 hz1 hz2 _ _ _ rfl hown s rfl ?c3 ?c4 ?c5 ?_)
 case c3=>unfold maxLen;omega
 case c4=>omega
 case c5=>have:=hb1.size;omega
 intro v' w2 hown' hgrow _
 have hlt:b<w1.heap.size:=by
  rcases Nat.lt_or_ge b w1.heap.size with h' | h'
  ·exact h'
  ·simp[Array.getElem?_eq_none h']at hbk
 have hb2:w2.heap[b]?=some (.cells #[.pointer (some ⟨b,0,none⟩),v] 94 (0,0)):=by
  rw[hgrow.block b hlt (fun e=>hne e.symm)]
  exact hbk
 have d0:w2.cell? ⟨b,0,none⟩=some (.pointer (some ⟨b,0,none⟩)):=by rw[Lib.cell_of_heap hb2];rfl
 have d1:w2.cell? ⟨b,1,none⟩=some v:=by rw[Lib.cell_of_heap hb2];rfl
 have f1:w2.frozen? ⟨b,1,none⟩=false:=Lib.frozen_of_heap hb2 1
 obtain ⟨ao,n',cap,rfl⟩:∃ao n' cap,v'=.slice ao n' cap:=by
  rcases hown'.2 with ⟨hv,_⟩ | ⟨g,cap,cur,fz,hv,_⟩
  ·exact ⟨_,_,_,hv⟩
  ·exact ⟨_,_,_,hv⟩
 go_wp2
 go_ret2
 refine ⟨rfl,?_,?_,(hk1.grown hgrow (Lib.ownsRowF_kind hown)).setCell ⟨b,1,none⟩ rfl _⟩
 ·exact Or.inr (Lib.BuilderAtF.put (T:=94) (e:=5) hB hb2 (bs':=bs++Lib.strCells s) (by simpa[Lib.strCells_length]using hown') (by decide))
 ·exact (hb1.grown hgrow (by have:=hb1.size;omega) (fun k hk=>(hown.lt k hk).1)).setCell (p:=⟨b,1,none⟩) hB _
def renS:Go.Shelf.Ren:=⟨fun | 169=>62 | n=>n,fun | 70=>92 | 9=>9 | 0=>0 | 72=>94 | 37=>79 | 127=>166 | 3=>3 | 5=>5 | n=>n,fun | n=>n⟩
theorem laysS:Go.Proofs.Lays.n169 Tryz.prog renS:={
 mixed:=by kernel_rfl
 f169:=Tryz.func62.trans (congrArg some (by kernel_rfl))
 t0:=Tryz.underlying0
 a0:=Tryz.isAgg0
 z0:=Tryz.sizeOf0
 v0:=Tryz.zeroValue0
 t3:=Tryz.underlying3
 a3:=Tryz.isAgg3
 z3:=Tryz.sizeOf3
 v3:=Tryz.zeroValue3
 t9:=Tryz.underlying9
 a9:=Tryz.isAgg9
 z9:=Tryz.sizeOf9
 v9:=Tryz.zeroValue9
 t37:=Tryz.underlying79
 a37:=Tryz.isAgg79
 z37:=Tryz.sizeOf79
 v37:=Tryz.zeroValue79
 t70:=Tryz.underlying92
 a70:=Tryz.isAgg92
 z70:=Tryz.sizeOf92
 v70:=Tryz.zeroValue92
 t72:=Tryz.underlying94
 a72:=Tryz.isAgg94
 z72:=Tryz.sizeOf94
 v72:=Tryz.zeroValue94
 t127:=Tryz.underlying166
 a127:=Tryz.isAgg166
 z127:=Tryz.sizeOf166
 v127:=Tryz.zeroValue166 }
set_option maxRecDepth 100000 in
theorem extraS:Builder.Extra Tryz.prog renS:={
 sizeBuilder:=sizeBuilder
 liesBuilder:=liesBuilder
 t5:=Tryz.underlying5
 a5:=Tryz.isAgg5
 z5:=Tryz.sizeOf5
 v5:=Tryz.zeroValue5
 infoByte:=infoByte
 cellsByte:=by kernel_rfl
 sizeByte:=by kernel_rfl
 neB5:=by decide }
theorem string_any (B b:Nat) (l:List UInt8) (w:World) (h:BldF B b (Lib.byteCells l) w) (hBw:B≤w.heap.size):
 Calls Tryz.prog 62 #[.pointer (some ⟨b,0,none⟩)] w fun e w'=>e=.returned (.string ⟨l.toArray⟩)∧(BldF B b (Lib.byteCells l) w'∧Below B w w'∧Kept b w w'):=
 Any.Builder_String_any_k laysS extraS B b l w h hBw
theorem writeBytes_any (B b:Nat) (l:List UInt8) (s:ByteArray) (w:World) (h:BldF B b (Lib.byteCells l) w) (hlen:l.length+s.size≤140737488355328) (hBw:B≤w.heap.size):
 Calls Tryz.prog 183 #[.pointer (some ⟨b,0,none⟩),.string s] w fun e w'=>e=.returned (.tuple #[.int .i64 s.size,.nilIface])∧(BldF B b (Lib.byteCells (l++s.data.toList)) w'∧Below B w w'∧Kept b w w'):=by
 refine (writeString_any B b _ s w h (by rw[Lib.byteCells_length];exact hlen) hBw).mono fun e w' ⟨he,h1,h2,h3⟩=>⟨he,?_,h2,h3⟩
 rw[Lib.byteCells_append]
 exact h1
end Go.Proofs.YthdkkpbhijlpaaaGreatDoor
namespace Go.Proofs.YthdkkpbhijlpaaaGreatDoor
open Go.ChangeShapes Go.WideShapes Go.ChangeAt Go.RowKit Go.Shelf
def flat (ps:List ByteArray):List UInt8:=ps.flatMap fun p=>p.data.toList
theorem flat_snoc {ps:List ByteArray} {k:Nat} (h:k<ps.length):flat (ps.take (k+1))=flat (ps.take k)++ps[k].data.toList:=by
 unfold flat;rw[List.take_succ_eq_append_getElem h,List.flatMap_append];congr 1;simp
theorem flat_le {ps:List ByteArray} {k:Nat} (h:k<ps.length):(flat (ps.take k)).length+ps[k].size≤(flat ps).length:=by
 have e:flat ps=flat (ps.take (k+1))++flat (ps.drop (k+1)):=by
  unfold flat;rw[←List.flatMap_append,List.take_append_drop]
 rw[e,flat_snoc h];simp only[List.length_append]
 have:ps[k].data.toList.length=ps[k].size:=by simp
 omega
def Texts (p:Nat) (ps:List ByteArray) (w:World):Prop:=w.heap[p]?=some (.cells (ps.map Value.string).toArray 9)
theorem Texts.cell {p:Nat} {ps:List ByteArray} {w:World} (h:Texts p ps w) {k:Nat} (hk:k<ps.length):w.cell? ⟨p,k,none⟩=some (.string ps[k]):=by
 unfold World.cell?
 rw[h];simp[hk]
theorem Texts.kept {p b:Nat} {ps:List ByteArray} {w w':World} (h:Texts p ps w) (hk:Kept b w w') (hpb:p≠b):Texts p ps w':=
 hk p _ h (fun e=>hpb (Option.some.inj e)) (fun c fz e=>by injection e with e1 e2;exact absurd e2 (by decide))
set_option maxHeartbeats 1000000 in
theorem writePieces_any (B b p:Nat) (l:List UInt8) (ps:List ByteArray) (w:World) (hI:BldF B b (Lib.byteCells l) w) (hp:Texts p ps w) (hpb:p≠b) (hn:ps.length≤1000) (hlen:l.length+(flat ps).length≤140737488355328) (hBw:B≤w.heap.size):
 Calls Tryz.prog 116 #[.pointer (some ⟨b,0,none⟩),.slice (some ⟨p,0,none⟩) ps.length ps.length] w fun e w'=>e=.returned (.tuple #[])∧(BldF B b (Lib.byteCells (l++flat ps)) w'∧Below B w w'∧Kept b w w'):=by
 go_enter Tryz.func116,Tryz.ntmps116
 go_wp2
 go_loopw [8] (fun i wr=>∃k:Nat,k≤ps.length∧i=.int .i64 k∧(BldF B b (Lib.byteCells (l++flat (ps.take k))) wr∧Below B w wr∧Kept b w wr)) (fun i _=>ps.length-(intOf i).toNat)
 case atStart=>exact ⟨0,by omega,rfl,by simpa[flat]using hI,Below.refl _ _,Lib.OthersKept.refl _ _ _⟩
 case round=>
  obtain ⟨k,hk,rfl,h1,h2,h3⟩:=hrel
  by_cases hlt:k<ps.length
  ·have hc:=(hp.kept h3 hpb).cell hlt
   have hfl:=flat_le hlt
   have hsz:B≤wr.heap.size:=by have:=h2.size;omega
   have hl:(l++flat (ps.take k)).length+ps[k].size≤140737488355328:=by simp only[List.length_append];omega
   go_wp2_with (go_at_call 183;refine (writeBytes_any B b _ ps[k] _ h1 hl hsz).mono ?_)
   rintro e w1 ⟨rfl,g1,g2,g3⟩
   go_wp2
   go_roundw
   case rel=>exact ⟨k+1,by omega,by go_num,by rw[flat_snoc hlt,←List.append_assoc];exact g1,h2.trans g2,h3.trans g3⟩
   case measure=>simp[intOf];omega
  ·obtain rfl:k=ps.length:=by omega
   rw[List.take_length]at h1
   go_wp2
   go_end0
   exact ⟨rfl,h1,h2,h3⟩
def markOf (r:Nat):ByteArray:=if r=38 then ⟨#[38,97,109,112,59]⟩ else if r=60 then ⟨#[38,108,116,59]⟩ else if r=62 then ⟨#[38,103,116,59]⟩ else ⟨#[38,113,117,111,116,59]⟩
def allMarks:List Nat:=[38,60,62,34]
theorem escapeOf_any (r:Nat) (h:r ∈ allMarks) (w:World):
 Calls Tryz.prog 238 #[.int .i32 (r:Int)] w fun e w'=>e=.returned (.string (markOf r))∧w=w':=by
 simp only[allMarks,List.mem_cons,List.not_mem_nil,or_false]at h
 rcases h with rfl | rfl | rfl | rfl
 all_goals
  go_enter Tryz.func238,Tryz.ntmps238
  go_wp2
  go_ret
  exact ⟨rfl,rfl⟩
def Nums (m:Nat) (ms:List Nat) (w:World):Prop:=w.heap[m]?=some (.cells (ms.map fun (r:Nat)=>Value.int .i32 (r:Int)).toArray 21)
theorem Nums.cell {m:Nat} {ms:List Nat} {w:World} (h:Nums m ms w) {k:Nat} (hk:k<ms.length):w.cell? ⟨m,k,none⟩=some (.int .i32 (ms[k]:Int)):=by
 unfold World.cell?
 rw[h];simp[hk]
def isIn (ms:List Nat) (r:Nat):Bool:=ms.any fun x=>x==r
def NoneUp (ms:List Nat) (r k:Nat):Prop:=isIn (ms.take k) r=false
theorem isIn_snoc {ms:List Nat} {r k:Nat} (h:k<ms.length):isIn (ms.take (k+1)) r=(isIn (ms.take k) r||(ms[k]==r)):=by
 unfold isIn;rw[List.take_succ_eq_append_getElem h,List.any_append];simp
theorem isIn_hit {ms:List Nat} {r k:Nat} (hk:k<ms.length) (h:(ms[k]==r)=true):isIn ms r=true:=by
 rw[isIn,List.any_eq_true];exact ⟨_,List.getElem_mem hk,h⟩
def Found (ms:List Nat) (r:Nat) (w:World) (e:Ending) (w':World):Prop:=∃z:Int,e=.returned (.int .i64 z)∧((0≤z∧isIn ms r=true)∨(z = -1∧isIn ms r=false))∧w=w'
set_option maxHeartbeats 1000000 in
theorem slicesIndex_any (m:Nat) (ms:List Nat) (r:Nat) (w:World) (hm:Nums m ms w) (hn:ms.length≤1000):
 Calls Tryz.prog 264 #[.slice (some ⟨m,0,none⟩) ms.length ms.length,.int .i32 (r:Int)] w (Found ms r w):=by
 go_enter Tryz.func264,Tryz.ntmps264
 go_wp2
 go_loop [8] (fun i=>∃k:Nat,k≤ms.length∧i=.int .i64 k∧NoneUp ms r k) (fun i=>ms.length-(intOf i).toNat)
 case atStart=>exact ⟨0,by omega,rfl,by simp[NoneUp,isIn]⟩
 case round=>
  obtain ⟨k,hk,rfl,hall⟩:=hrel
  have HA:=Lib.hid hall
  clear hall
  by_cases hlt:k<ms.length
  ·have hc:=hm.cell hlt
   by_cases hf:((r:Int)==(ms[k]:Int))=true
   ·have HF:=Lib.hid hf
    go_wp2
    go_ret
    exact ⟨k,rfl,Or.inl ⟨by omega,isIn_hit hlt (by have:=HF.out;simp at this;simp;omega)⟩,rfl⟩
   ·have hf':((r:Int)==(ms[k]:Int))=false:=by simpa using hf
    have HF:=Lib.hid hf'
    clear hf
    go_wp2
    go_round
    case rel=>exact ⟨k+1,by omega,by go_num,by rw[NoneUp,isIn_snoc hlt,HA.out];have:=HF.out;simp at this;simp;omega⟩
    case measure=>simp[intOf];omega
  ·obtain rfl:k=ms.length:=by omega
   go_wp2
   go_ret
   exact ⟨-1,rfl,Or.inr ⟨rfl,by have:=HA.out;rwa[NoneUp,List.take_length]at this⟩,rfl⟩
theorem contains_yes (m:Nat) (ms:List Nat) (r:Nat) (w:World) (hm:Nums m ms w) (hn:ms.length≤1000) (h:isIn ms r=true):
 Calls Tryz.prog 237 #[.slice (some ⟨m,0,none⟩) ms.length ms.length,.int .i32 (r:Int)] w fun e w'=>e=.returned (.bool true)∧w=w':=by
 go_enter Tryz.func237,Tryz.ntmps237
 go_wp2_with (go_at_call 264;refine (slicesIndex_any m ms r _ hm hn).mono ?_)
 rintro e w1 ⟨z,rfl,hz,rfl⟩
 have hz0:0≤z:=by rcases hz with ⟨h1,_⟩ | ⟨_,h2⟩
                  ·exact h1
                  ·rw[h]at h2;cases h2
 clear hz
 go_wp2
 go_ret
 exact ⟨rfl,rfl⟩
theorem contains_no (m:Nat) (ms:List Nat) (r:Nat) (w:World) (hm:Nums m ms w) (hn:ms.length≤1000) (h:isIn ms r=false):
 Calls Tryz.prog 237 #[.slice (some ⟨m,0,none⟩) ms.length ms.length,.int .i32 (r:Int)] w fun e w'=>e=.returned (.bool false)∧w=w':=by
 go_enter Tryz.func237,Tryz.ntmps237
 go_wp2_with (go_at_call 264;refine (slicesIndex_any m ms r _ hm hn).mono ?_)
 rintro e w1 ⟨z,rfl,hz,rfl⟩
 obtain rfl:z = -1:=by rcases hz with ⟨_,h2⟩ | ⟨h1,_⟩
                       ·rw[h]at h2;cases h2
                       ·exact h1
 clear hz
 go_wp2
 go_ret
 exact ⟨rfl,rfl⟩
end Go.Proofs.YthdkkpbhijlpaaaGreatDoor
namespace Go.Proofs.YthdkkpbhijlpaaaGreatDoor
theorem conts {s:ByteArray} {pos:Nat} (h:pos<s.size) (ha:128≤(s[pos]'h).toNat) (j:Nat) (hj:j<s.size) (h1:pos≤j) (h2:j<pos+(Utf8.decode s pos).2):128≤(s[j]'hj).toNat:=by
 have hc:=Lib.decodeN_conts (s.data.toList.length-pos) (s.data.toList.getD pos 0).toNat (s.data.toList.getD (pos+1) 0).toNat (s.data.toList.getD (pos+2) 0).toNat (s.data.toList.getD (pos+3) 0).toNat
 rw[←Lib.decode_N]at hc
 obtain ⟨c2,c3,c4,c5⟩:=hc
 have key:∀d,j=pos+d→(s.data.toList.getD (pos+d) 0).toNat / 64=2→128≤(s[j]'hj).toNat:=by
  rintro d rfl hd
  rw[List.getD_eq_getElem?_getD,List.getElem?_eq_getElem (by simpa using hj)]at hd
  have:(s[pos+d]'hj).toNat / 64=2:=hd
  omega
 obtain ⟨d,rfl⟩:=Nat.exists_eq_add_of_le h1
 have hd:d<4:=by omega
 match d,hd with
 | 0,_=>exact ha
 | 1,_=>exact key 1 rfl (c2 (by omega)).1
 | 2,_=>exact key 2 rfl (c3 (by omega)).1
 | 3,_=>exact key 3 rfl (c4 (by omega)).1
theorem width_in {s:ByteArray} {pos:Nat} (h:pos<s.size):1≤(Utf8.decode s pos).2∧pos+(Utf8.decode s pos).2≤s.size:=by
 have h1:1≤(Utf8.decode s pos).2:=by
  by_cases ha:(s[pos]'h).toNat<128
  ·rw[decode_ascii s pos h ha];exact Nat.le_refl _
  ·exact (decode_high s pos h (by omega)).2
 have hc:=Lib.decodeN_conts (s.data.toList.length-pos) (s.data.toList.getD pos 0).toNat (s.data.toList.getD (pos+1) 0).toNat (s.data.toList.getD (pos+2) 0).toNat (s.data.toList.getD (pos+3) 0).toNat
 rw[←Lib.decode_N]at hc
 obtain ⟨c2,c3,c4,c5⟩:=hc
 have hl:s.data.toList.length=s.size:=by simp
 rw[hl]at c2 c3 c4
 refine ⟨h1,?_⟩
 by_cases e2:2≤(Utf8.decode s pos).2
 ·by_cases e3:3≤(Utf8.decode s pos).2
  ·by_cases e4:4≤(Utf8.decode s pos).2
   ·have:=(c4 e4).2;omega
   ·have:=(c3 e3).2;omega
  ·have:=(c2 e2).2;omega
 ·omega
end Go.Proofs.YthdkkpbhijlpaaaGreatDoor
