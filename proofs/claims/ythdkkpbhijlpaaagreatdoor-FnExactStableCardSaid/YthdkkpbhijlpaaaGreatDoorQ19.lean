import Derived.WalkSmall
import Derived.Lib.SlTrimSet
import Derived.Shelf.Strings.SlTrimAscii
import Derived.Test.YthdkkpbhijlpaaaGreatDoorShelf2
import Derived.Deep.RegionHeld3
import Derived.Deep.RegionWith
import Derived.IntWalk
import Derived.Test.YthdkkpbhijlpaaaGreatDoorTie
import Derived.Lib.LaidTab
import Derived.Stop.LaidErr
import Derived.LaidLaws
import Derived.Deep.DeepWitnessRowRef
import Derived.Deep.DeepHandedRow
import Derived.ProofKit
import Derived.Test.YthdkkpbhijlpaaaGreatDoorQ04
import Derived.Test.YthdkkpbhijlpaaaGreatDoorQ03
import Derived.Test.YthdkkpbhijlpaaaGreatDoorQ00
import Derived.Test.YthdkkpbhijlpaaaGreatDoorQ06
import Derived.Test.YthdkkpbhijlpaaaGreatDoorQ08
import Derived.Test.YthdkkpbhijlpaaaGreatDoorQ17
import Derived.Test.YthdkkpbhijlpaaaGreatDoorQ18
set_option linter.unusedVariables false
namespace Go.Proofs.YthdkkpbhijlpaaaGreatDoor
open Go.ChangeShapes Go.WideShapes Go.ChangeAt Go.RowKit
theorem byte_lo (b:UInt8):(0:Int)≤(b.toNat:Int):=by omega
theorem byte_hi (b:UInt8):(b.toNat:Int)≤255:=by have:=b.toNat_lt;omega
end Go.Proofs.YthdkkpbhijlpaaaGreatDoor
namespace Go.Proofs.YthdkkpbhijlpaaaGreatDoor
open Go.ChangeShapes Go.WideShapes Go.ChangeAt Go.RowKit
def RowB (w0 w:World) (g:Nat) (l:List UInt8):Prop:=
 w0.heap.size≤g∧(∀j (hj:j<l.length),w.cell? ⟨g,j,none⟩=some (cellU l[j])∧w.frozen? ⟨g,j,none⟩=false)∧Below w0.heap.size w0 w
theorem bytes_conv (s:ByteArray) (w:World):∃cap w1,(convert 9 79 (.string s)).run Tryz.prog w=.ok (.slice (some ⟨w.heap.size,0,none⟩) s.size cap) w1∧RowB w w1 w.heap.size s.data.toList:=by
 refine ⟨_,_,run_bytes_of_string w 9 79 5 s Tryz.underlying9 Tryz.underlying79 Tryz.underlying5,Nat.le_refl _,fun j hj=>?_,?_⟩
 ·generalize hc:grownCap w s.size 0 5 = cap
  have hj':j<s.size:=by simpa using hj
  have hbl:(w.drew.alloc (.cells (bytesRow s cap) 5 ((bytesRow s cap).size,(bytesRow s cap).size+1))).heap[w.heap.size]?=some (.cells (bytesRow s cap) 5 ((bytesRow s cap).size,(bytesRow s cap).size+1)):=by
   show (w.heap.push _)[w.heap.size]?=_
   simp
  have hsz:j<(bytesRow s cap).size:=by simp[bytesRow];omega
  refine ⟨?_,?_⟩
  ·unfold World.cell?
   simp only[hbl]
   simp[bytesRow,Array.getElem?_append,hj']
  ·unfold World.frozen?
   simp only[hbl]
   simp;omega
 ·exact ((Below.refl _ _).drew).alloc (Nat.le_refl _) _
theorem RowB.set {w0 w:World} {g:Nat} {l:List UInt8} (h:RowB w0 w g l) {k:Nat} (_hk:k<l.length) {x:Int} {b:UInt8} (hb:x=(b.toNat:Int)):RowB w0 (w.setCell ⟨g,k,none⟩ (.int .u8 x)) g (l.set k b):=by
 subst hb
 obtain ⟨h1,h2,h3⟩:=h
 refine ⟨h1,fun j hj=>?_,h3.setCell h1 _⟩
 rw[List.length_set]at hj
 refine ⟨?_,by rw[World.frozen?_setCell];exact (h2 j hj).2⟩
 by_cases e:k=j
 ·subst e
  rw[World.cell?_setCell_same _ _ _ (h2 k hj).1];simp
 ·rw[World.cell?_setCell_other _ _ _ _ (by simp <;> omega),(h2 j hj).1];simp[e]
theorem run_string_row {w0 w:World} {g cap n:Nat} {l:List UInt8} (h:RowB w0 w g l) (hn:n=l.length):(convert 79 9 (.slice (some ⟨g,0,none⟩) n cap)).run Tryz.prog w=.ok (.string ⟨l.toArray⟩) w:=by
 subst hn
 exact run_convert_bytes_back w 79 9 5 ⟨g,0,none⟩ cap l Tryz.underlying79 Tryz.underlying5 Tryz.underlying9 (fun j hj=>by rw[show (⟨g,0,none⟩:Addr).add j=⟨g,j,none⟩ by cases j <;> simp[Addr.add]];exact (h.2.1 j hj).1)
theorem wpList_string_row {ops:Array Oper} {rest:List Oper} {o:Oper} {a:Act} {Q:Exit→Act→World→Prop} (w0 w:World) (hgd:o.guard=none) (s:Operand)
 (ho:o.op=.convert 79 9 s) (g n cap:Nat) (l:List UInt8) (hs:a.eval s=.slice (some ⟨g,0,none⟩) n cap) (h:RowB w0 w g l) (hn:n=l.length)
 (hK:wpList Tryz.prog ops Q rest (a.put o.dst (.string ⟨l.toArray⟩)) w):
 wpList Tryz.prog ops Q (o::rest) a w:=by
 refine wpList_plain hgd fun _ hK'=>?_
 have hrun:=run_string_row (cap:=cap) h hn
 unfold Oper.wp
 simp[execOp,ho,hs,hrun,Result.andThen]
 exact hK' _ _ hK
def lowTo (s:ByteArray) (k:Nat):List UInt8:=(s.data.toList.take k).map lowU++s.data.toList.drop k
theorem lowTo_len (s:ByteArray) (k:Nat):(lowTo s k).length=s.size:=by simp[lowTo];omega
theorem lowTo_zero (s:ByteArray):lowTo s 0=s.data.toList:=by simp[lowTo]
theorem lowTo_all (s:ByteArray):lowTo s s.size=s.data.toList.map lowU:=by
 rw[lowTo,List.take_of_length_le (by simp),List.drop_of_length_le (by simp)];simp
theorem lowTo_at {s:ByteArray} {k:Nat} (h:k<s.size) (h':k<(lowTo s k).length):(lowTo s k)[k]=s[k]:=by
 have hk:((s.data.toList.take k).map lowU).length=k:=by simp;omega
 have e:(lowTo s k)[k]?=some s[k]:=by
  unfold lowTo
  rw[List.getElem?_append_right (by omega),hk,Nat.sub_self,drop_cons h];rfl
 rw[List.getElem?_eq_getElem h']at e
 injection e
theorem lowTo_set {s:ByteArray} {k:Nat} (h:k<s.size):(lowTo s k).set k (lowU s[k])=lowTo s (k+1):=by
 have hk:((s.data.toList.take k).map lowU).length=k:=by simp;omega
 unfold lowTo
 rw[List.set_append_right _ _ (by omega),hk,Nat.sub_self,drop_cons h,List.set_cons_zero,take_map_snoc _ h,List.append_assoc]
 rfl
set_option maxHeartbeats 1000000 in
set_option maxRecDepth 100000 in
theorem implLowerOf_small (s:ByteArray) (w:World) (hs:(s.size:Int)≤65536):
 Calls Tryz.prog 218 #[.string s] w fun e w'=>e=.returned (.string ⟨(s.data.toList.map lowU).toArray⟩)∧Below w.heap.size w w':=by
 obtain ⟨cap,w1,hrun,hrow⟩:=bytes_conv s w
 go_enter Tryz.func218,Tryz.ntmps218
 go_wp2
 go_loopw [13,4,5] (fun i _ _ wr=>∃k:Nat,k≤s.size∧i=.int .i64 k∧RowB w wr w.heap.size (lowTo s k)) (fun i _ _ _=>s.size-(intOf i).toNat)
 case atStart=>exact ⟨0,by omega,rfl,by rw[lowTo_zero];exact hrow⟩
 case round=>
  clear hrun hrow
  obtain ⟨k,hk,rfl,hown⟩:=hrel
  by_cases hlt:k<s.size
  ·have HB:=Lib.hid (lowU_nat s[k])
   obtain ⟨hc,hf⟩:=hown.2.1 k (by rw[lowTo_len];exact hlt)
   rw[lowTo_at hlt]at hc
   go_wp2_with (go_at_call 255;refine (lowerByte_any _ (byte_lo _) (byte_hi _) _).mono ?_;rintro e w1 ⟨rfl,rfl⟩)
   go_roundw
   case rel=>exact ⟨k+1,by omega,by go_num,by rw[←lowTo_set hlt];exact hown.set (by rw[lowTo_len];exact hlt) HB.out.symm⟩
   case measure=>simp[intOf];omega
  ·obtain rfl:k=s.size:=by omega
   have HL:=Lib.hid (lowTo_len s s.size)
   have HA:=Lib.hid (lowTo_all s)
   go_wp2_with (refine wpList_string_row w _ rfl (.tmp 24) rfl _ _ _ _ rfl hown HL.out.symm ?_)
   go_ret
   exact ⟨ret_str HA.out,hown.2.2⟩
end Go.Proofs.YthdkkpbhijlpaaaGreatDoor
namespace Go.Proofs.YthdkkpbhijlpaaaGreatDoor
open Go.ChangeShapes Go.WideShapes Go.ChangeAt Go.RowKit Go.Shelf
def tl (s:ByteArray) (i:Nat):ByteArray:=s.extract i s.size
theorem bytes_ext {a b:ByteArray} (h:a.data.toList=b.data.toList):a=b:=by
 cases a;cases b;simp only[ByteArray.mk.injEq];exact Array.toList_inj.1 h
theorem tl_size (s:ByteArray) (i:Nat):(tl s i).size=s.size-i:=by rw[tl,ByteArray.size_extract];omega
theorem tl_list (s:ByteArray) (i:Nat):(tl s i).data.toList=rest s i:=by
 rw[tl,extract_list,List.take_of_length_le (by rw[Array.length_toList];exact Nat.le_refl _)];rfl
theorem tl_end (s:ByteArray) {i:Nat} (h:s.size≤i):tl s i=⟨#[]⟩:=bytes_ext (by rw[tl_list,rest,List.drop_of_length_le (by rw[Array.length_toList];exact h)])
theorem tl_cut (s:ByteArray) (i n:Nat):(tl s i).extract 0 n=s.extract i (i+n):=by
 apply bytes_ext
 rw[extract_list,extract_list,tl_list,rest,List.drop_zero,List.drop_take,show i+n-i=n by omega]
theorem tl_from (s:ByteArray) (i n:Nat):(tl s i).extract n (tl s i).size=tl s (i+n):=by
 apply bytes_ext
 rw[show (tl s i).extract n (tl s i).size=tl (tl s i) n from rfl,tl_list,tl_list,rest,tl_list,rest_drop]
theorem cutTo_at (s:ByteArray) (i n:Nat) (h:i+n≤s.size) (w:World):(Instr.slice 9 (.string (tl s i)) none (some (.int .i64 n)) none).run Tryz.prog w=.ok (.string (s.extract i (i+n))) w:=by
 have h2:=tl_size s i
 rw[run_slice_string_to_if w 9 (tl s i) .i64 _ Tryz.underlying9,if_pos (by omega),←tl_cut s i n]
 simp
theorem cutFrom_at (s:ByteArray) (i n:Nat) (h:i+n≤s.size) (w:World):(Instr.slice 9 (.string (tl s i)) (some (.int .i64 n)) none none).run Tryz.prog w=.ok (.string (tl s (i+n))) w:=by
 have h2:=tl_size s i
 rw[cut_from (tl s i) n (by omega),tl_from]
theorem tl_at {s:ByteArray} {i k:Nat} (h:k<(tl s i).size) (h':i+k<s.size):(tl s i)[k]=s[i+k]:=by
 have h1:(tl s i).data.toList[k]?=some (tl s i)[k]:=byte_at h
 rw[tl_list,rest_at h']at h1
 injection h1 with h1
 exact h1.symm
theorem indexAny_run {p:Int→Bool} {cs:List UInt8} (hc:∀b:UInt8,cs.contains b=!p (b.toNat:Int)):∀l,Lib.indexAny l cs=if run p l<l.length then ((run p l:Nat):Int) else -1
 | []=>rfl
 | b::l=>by
  have ih:=indexAny_run hc l
  rw[Lib.indexAny,hc]
  cases hp:p (b.toNat:Int) with
  | false=>
   have e:run p (b::l)=0:=by unfold run;rw[List.takeWhile_cons,hp];rfl
   rw[e,if_pos (by decide),if_pos (by simp)];rfl
  | true=>
   have e:run p (b::l)=run p l+1:=by unfold run;rw[List.takeWhile_cons,hp];rfl
   rw[e,ih,if_neg (by decide),List.length_cons]
   split
   ·rw[if_neg (by simp),if_pos (by omega)];push_cast;rfl
   ·rw[if_pos (by decide),if_neg (by omega)]
theorem trimLeft_run {p:Int→Bool} {cs:List UInt8} (hc:∀b:UInt8,cs.contains b=p (b.toNat:Int)):∀l,Lib.trimLeftS l cs=l.drop (run p l)
 | []=>by simp[Lib.trimLeftS]
 | b::l=>by
  have ih:=trimLeft_run hc l
  unfold Lib.trimLeftS at ih ⊢
  rw[List.dropWhile_cons]
  simp only[hc]
  cases hp:p (b.toNat:Int) with
  | false=>
   have e:run p (b::l)=0:=by unfold run;rw[List.takeWhile_cons,hp];rfl
   rw[e];rfl
  | true=>
   have e:run p (b::l)=run p l+1:=by unfold run;rw[List.takeWhile_cons,hp];rfl
   rw[e,if_pos rfl,List.drop_succ_cons,←ih]
   congr 1
   funext x
   rw[hc]
theorem runAt_rest (p:Int→Bool) (s:ByteArray) (i:Nat):run p (rest s i)=runAt p s i:=rfl
def skipC (c:Int):Bool:=blankB c||c==47
theorem u8_eq (b c:UInt8):(b==c)=((b.toNat:Int)==(c.toNat:Int)):=by
 rw[Bool.eq_iff_iff,beq_iff_eq,beq_iff_eq];exact ⟨fun h=>by rw[h],fun h=>UInt8.toNat_inj.1 (by omega)⟩
def nameCs:ByteArray:=⟨#[32,9,10,12,13,47,62]⟩
def attrCs:ByteArray:=⟨#[32,9,10,12,13,47,62,61]⟩
def valCs:ByteArray:=⟨#[32,9,10,12,13,62]⟩
def blankCs:ByteArray:=⟨#[32,9,10,12,13]⟩
def skipCs:ByteArray:=⟨#[32,9,10,12,13,47]⟩
theorem name_cs (b:UInt8):nameCs.data.toList.contains b=!inName (b.toNat:Int):=by
 show (([32,9,10,12,13,47,62]:List UInt8)).contains b=_
 rw[Bool.eq_iff_iff]
 simp only[List.contains_cons,List.contains_nil,u8_eq,inName,blankB]
 simp
 omega
theorem attr_cs (b:UInt8):attrCs.data.toList.contains b=!inAttr (b.toNat:Int):=by
 show (([32,9,10,12,13,47,62,61]:List UInt8)).contains b=_
 rw[Bool.eq_iff_iff]
 simp only[List.contains_cons,List.contains_nil,u8_eq,inAttr,inName,blankB]
 simp
 omega
theorem val_cs (b:UInt8):valCs.data.toList.contains b=!inVal (b.toNat:Int):=by
 show (([32,9,10,12,13,62]:List UInt8)).contains b=_
 rw[Bool.eq_iff_iff]
 simp only[List.contains_cons,List.contains_nil,u8_eq,inVal,blankB]
 simp
 omega
theorem blank_cs (b:UInt8):blankCs.data.toList.contains b=blankB (b.toNat:Int):=by
 show (([32,9,10,12,13]:List UInt8)).contains b=_
 rw[Bool.eq_iff_iff]
 simp only[List.contains_cons,List.contains_nil,u8_eq,blankB]
 simp
 omega
theorem skip_cs (b:UInt8):skipCs.data.toList.contains b=skipC (b.toNat:Int):=by
 show (([32,9,10,12,13,47]:List UInt8)).contains b=_
 rw[Bool.eq_iff_iff]
 simp only[List.contains_cons,List.contains_nil,u8_eq,skipC,blankB]
 simp
 omega
def inGt (c:Int):Bool:=c != 62
theorem one_cs (c:UInt8) (b:UInt8):(([c]:List UInt8)).contains b=!((b.toNat:Int) != (c.toNat:Int)):=by
 rw[List.contains_cons,u8_eq,List.contains_nil]
 simp[bne]
def gone (s what:ByteArray) (i:Nat):Nat:=(findTo s what i).1+(if (findTo s what i).2=true then what.size else 0)
theorem cut_tl (s what:ByteArray) (i:Nat):(Lib.cut (rest s i) what.data.toList).1.toArray=(s.extract i (findTo s what i).1).data∧(⟨(Lib.cut (rest s i) what.data.toList).2.1.toArray⟩:ByteArray)=tl s (gone s what i):=by
 have hl:what.data.toList.length=what.size:=Array.length_toList
 unfold Lib.cut gone findTo
 rw[show findIx s what i=Lib.index (rest s i) what.data.toList from rfl]
 split
 ·rename_i h
  obtain ⟨n,hn⟩:∃n:Nat,Lib.index (rest s i) what.data.toList=n:=⟨_,(Int.toNat_of_nonneg h).symm⟩
  rw[hn]
  refine ⟨?_,bytes_ext ?_⟩
  ·simp only[Int.toNat_natCast]
   have:=extract_list s i (i+n)
   rw[List.drop_take,show i+n-i=n by omega]at this
   rw[show ((rest s i).take n).toArray=(s.extract i (i+n)).data from by rw[←Array.toList_inj,this];rfl]
  ·simp only[Int.toNat_natCast,if_true]
   rw[tl_list,hl,rest_drop,Nat.add_assoc]
 ·refine ⟨?_,bytes_ext ?_⟩
  ·show (rest s i).toArray=(tl s i).data
   rw[←Array.toList_inj,tl_list]
  ·simp only[if_neg (show ¬false=true by decide),Nat.add_zero]
   rw[tl_list,rest,List.drop_of_length_le (by rw[Array.length_toList];exact Nat.le_refl _)]
theorem gone_le (s what:ByteArray) (i:Nat) (hi:i≤s.size):i≤gone s what i∧gone s what i≤s.size:=by
 have h:=find_le s what i hi
 unfold gone
 split
 ·rename_i hk;have:=h.2.2 hk;omega
 ·omega
theorem pre_nil (s:ByteArray) (i:Nat):Lib.hasPrefix (rest s i) []=true:=by unfold Lib.hasPrefix;simp
theorem pre_cons (s:ByteArray) (i:Nat) (c:UInt8) (l:List UInt8):Lib.hasPrefix (rest s i) (c::l)=((byteAt s i==(c.toNat:Int))&&Lib.hasPrefix (rest s (i+1)) l):=by
 unfold Lib.hasPrefix
 by_cases h:i<s.size
 ·rw[rest_cons h,byteAt_in h,List.isPrefixOf_cons_cons,u8_eq,Bool.beq_comm]
 ·have hc:=c.toNat_lt
  rw[rest,List.drop_of_length_le (by rw[Array.length_toList];exact Nat.le_of_not_lt h),byteAt,dif_neg h]
  simp[List.isPrefixOf]
theorem trim_tl (s:ByteArray) (i:Nat) (p:List UInt8):(⟨(Lib.trimPrefix (rest s i) p).toArray⟩:ByteArray)=tl s (if Lib.hasPrefix (rest s i) p=true then i+p.length else i):=by
 unfold Lib.trimPrefix
 split
 ·exact bytes_ext (by rw[tl_list,rest_drop])
 ·exact bytes_ext (by rw[tl_list])
end Go.Proofs.YthdkkpbhijlpaaaGreatDoor
namespace Go.Proofs.YthdkkpbhijlpaaaGreatDoor
open Go.ChangeShapes Go.WideShapes Go.ChangeAt Go.RowKit Go.Shelf
def Env2 (w:World):Prop:=Env w∧∃m:Int,w.cell? ⟨0,0,none⟩=some (.int .i64 m)
theorem Env2.but {w w':World} {g:Nat} (h:Env2 w) (hb:But (· = g) w w') (hg:5 + 1≤g):Env2 w':=by
 obtain ⟨he,m,hm⟩:=h
 have h5:=he.2.2
 have hB:Below (5 + 1) w w':=hb.below (fun k hk=>by rw[hk];exact hg) (by omega)
 refine ⟨?_,m,(hB.cell (p:=⟨0,0,none⟩) (by show 0 < 5 + 1;omega)).trans hm⟩
 obtain ⟨⟨ev,h1,h2⟩,h3,h4⟩:=he
 refine ⟨⟨ev,(hB.cell (p:=⟨3,0,none⟩) (show 3 < 5 + 1 by omega)).trans h1,h2⟩,?_,by have:=hb.size;omega⟩
 have e:w'.heap[5]?=w.heap[5]?:=hB.block _ (by omega)
 unfold Lib.TabIs World.var? at h3 ⊢
 rw[gPow]at h3 ⊢
 simp only[Option.bind_some]at h3 ⊢
 rw[e];exact h3
theorem Env2.below {w w':World} (h:Env2 w) (hb:Below w.heap.size w w'):Env2 w':=
 ⟨h.1.below hb,by obtain ⟨m,hm⟩:=h.2;exact ⟨m,(hb.cell (p:=⟨0,0,none⟩) (by have:=h.1.2.2;show 0 < _;omega)).trans hm⟩⟩
def Mv (g:Nat) (s:ByteArray) (j:Nat) (w w':World):Prop:=∃w1,Below w.heap.size w w1∧w'=w1.setCell ⟨g,7,none⟩ (.string (tl s j))
theorem Lay.lt {w:World} {g:Nat} {v:Value} {cs:List Value} (L:Lay w g (v::cs).toArray):g<w.heap.size:=by
 have h:=L.1 0
 simp at h
 rcases Nat.lt_or_ge g w.heap.size with h1 | h1
 ·exact h1
 ·simp[World.cell?,h1]at h
theorem only_set (w:World) (g j:Nat) (v:Value):But (· = g) w (w.setCell ⟨g,j,none⟩ v):=(But.refl (fun k=>k=g) w).setCell (p:=⟨g,j,none⟩) (Or.inl rfl) v
theorem Mv.lay {w w':World} {g j:Nat} {s:ByteArray} {v0 v1 v2 v3 v4 v5 v6 v7 v8:Value} (h:Mv g s j w w') (L:Lay w g #[v0,v1,v2,v3,v4,v5,v6,v7,v8]):
 Lay w' g #[v0,v1,v2,v3,v4,v5,v6,.string (tl s j),v8]∧But (· = g) w w':=by
 obtain ⟨w1,hB,rfl⟩:=h
 have hg:g<w.heap.size:=Lay.lt L
 exact ⟨(L.below hB hg).set 7 _,(But.of_below hB).trans (only_set w1 g 7 _) fun i h=>Or.inl h⟩
theorem Mv.then {w w1 w2:World} {g i j:Nat} {s:ByteArray} (h:Below w.heap.size w w1) (k:Mv g s j w1 w2):Mv g s j w w2:=by
 obtain ⟨w3,hB,rfl⟩:=k
 exact ⟨w3,h.trans (hB.mono h.size),rfl⟩
set_option maxHeartbeats 1000000 in
set_option maxRecDepth 100000 in
theorem take_any (s:ByteArray) (i n g:Nat) (hs:s.size≤65536) (h:i+n≤s.size) (w:World) (hc:w.cell? ⟨g,7,none⟩=some (.string (tl s i))) (hf:w.frozen? ⟨g,7,none⟩=false):
 Calls Tryz.prog 220 #[.pointer (some ⟨g,0,none⟩),.int .i64 (n:Int)] w fun e w'=>e=.returned (.string (s.extract i (i+n)))∧Mv g s (i+n) w w':=by
 have h1:=cutTo_at s i n h
 have h2:=cutFrom_at s i n h
 have HB:=Lib.hid (Below.refl w.heap.size w)
 go_enter Tryz.func220,Tryz.ntmps220
 go_wp2
 go_ret
 exact ⟨rfl,_,HB.out,rfl⟩
set_option maxHeartbeats 1000000 in
set_option maxRecDepth 100000 in
theorem indexAny_one1 (s:ByteArray) (c:UInt8) (hc:c.toNat<128) (w:World):Calls Tryz.prog 205 #[.string s,.string ⟨#[c]⟩] w fun e w'=>e=.returned (.int .i64 (Lib.indexAny s.data.toList [c]))∧Below w.heap.size w w':=by
 have h1:((c.toNat:Nat):Int)<128:=by omega
 have hn:¬(128:Int)≤(c.toNat:Int):=by omega
 have h0:(0:Int)≤(c.toNat:Int):=by omega
 have hu:((c.toNat:Nat):Int).toNat.toUInt8=c:=by simp
 have HI:=Lib.hid (fun w=>strings_IndexRune_ascii s (c.toNat:Int) w h0 h1)
 rw[hu,←Lib.indexAny_one]at HI
 clear hu hc
 have hx:∀h,(ByteArray.mk #[c])[0]'h=c:=fun _=>rfl
 go_enter Tryz.func205,Tryz.ntmps205
 go_wp2_with (go_at_call 244;refine (HI.out _).mono ?_;rintro e w' ⟨rfl,rfl⟩)
 go_ret
 exact ⟨rfl,Below.refl _ _⟩
def Marks (cs:ByteArray) (p:Int→Bool):Prop:=(∀b:UInt8,cs.data.toList.contains b=!p (b.toNat:Int))∧∀(s:ByteArray) (_:s.size≤65536) (w:World),Calls Tryz.prog 205 #[.string s,.string cs] w fun e w'=>e=.returned (.int .i64 (Lib.indexAny s.data.toList cs.data.toList))∧Below w.heap.size w w'
theorem asc_of {cs:ByteArray} (h:cs.data.toList.all (fun b=>decide (b.toNat<128))=true):Asc cs:=fun b hb=>of_decide_eq_true (List.all_eq_true.1 h b hb)
theorem nameMarks:Marks nameCs inName:=⟨name_cs,fun s hs w=>indexAny_all s nameCs (asc_of (by decide)) (by decide) hs w⟩
theorem attrMarks:Marks attrCs inAttr:=⟨attr_cs,fun s hs w=>indexAny_all s attrCs (asc_of (by decide)) (by decide) hs w⟩
theorem valMarks:Marks valCs inVal:=⟨val_cs,fun s hs w=>indexAny_all s valCs (asc_of (by decide)) (by decide) hs w⟩
theorem gtMarks:Marks ⟨#[62]⟩ inGt:=⟨fun b=>one_cs 62 b,fun s _ w=>indexAny_one1 s 62 (by decide) w⟩
theorem ltMarks:Marks ⟨#[60]⟩ inWord:=⟨fun b=>one_cs 60 b,fun s _ w=>indexAny_one1 s 60 (by decide) w⟩
set_option maxHeartbeats 1000000 in
set_option maxRecDepth 100000 in
theorem lengthTo_any (s cs:ByteArray) (p:Int→Bool) (hm:Marks cs p) (i:Nat) (hs:s.size≤65536) (hi:i≤s.size) (w:World):
 Calls Tryz.prog 227 #[.string (tl s i),.string cs] w fun e w'=>e=.returned (.int .i64 ((runAt p s i:Nat):Int))∧Below w.heap.size w w':=by
 have HI:=Lib.hid (hm.2 (tl s i) (by rw[tl_size];omega))
 have hl:=indexAny_run hm.1 (rest s i)
 have hr:=runAt_le p s i hi
 have hz:=tl_size s i
 rw[tl_list,hl,runAt_rest,rest_len]at HI
 clear hl hm
 by_cases h:runAt p s i<s.size-i
 ·rw[if_pos h]at HI
  clear h
  go_enter Tryz.func227,Tryz.ntmps227
  go_wp2_with (go_at_call 205;refine (HI.out _).mono ?_;rintro e w' ⟨rfl,hB⟩;have B:=Lib.hid hB;clear hB)
  go_ret
  exact ⟨rfl,B.out⟩
 ·rw[if_neg h]at HI
  have e:runAt p s i=s.size-i:=by omega
  have E:=Lib.hid e
  have Z:=Lib.hid hz
  clear h e hr hz
  go_enter Tryz.func227,Tryz.ntmps227
  go_wp2_with (go_at_call 205;refine (HI.out _).mono ?_;rintro e w' ⟨rfl,hB⟩;have B:=Lib.hid hB;clear hB)
  go_ret
  exact ⟨ret_int (by rw[E.out,Z.out]),B.out⟩
set_option maxHeartbeats 1000000 in
set_option maxRecDepth 100000 in
theorem takeTo_any (s cs:ByteArray) (p:Int→Bool) (hm:Marks cs p) (i g:Nat) (hs:s.size≤65536) (hi:i≤s.size) (w:World) (hg:g<w.heap.size) (hc:w.cell? ⟨g,7,none⟩=some (.string (tl s i))) (hf:w.frozen? ⟨g,7,none⟩=false):
 Calls Tryz.prog 222 #[.pointer (some ⟨g,0,none⟩),.string cs] w fun e w'=>e=.returned (.string (s.extract i (i+runAt p s i)))∧Mv g s (i+runAt p s i) w w':=by
 have HL:=Lib.hid (lengthTo_any s cs p hm i hs hi)
 have hr:=runAt_le p s i hi
 generalize runAt p s i=n at hr HL ⊢
 clear hm
 have HG:=Lib.hid (show ∀w1,Below w.heap.size w w1→w1.cell? ⟨g,7,none⟩=some (.string (tl s i))∧w1.frozen? ⟨g,7,none⟩=false from fun w1 hB=>⟨(hB.cell (p:=⟨g,7,none⟩) hg).trans hc,(hB.frozen (p:=⟨g,7,none⟩) hg).trans hf⟩)
 go_enter Tryz.func222,Tryz.ntmps222
 go_wp2_with (first
  | (go_at_call 227;refine (HL.out _).mono ?_;rintro e w1 ⟨rfl,hB⟩;have C:=Lib.hid (HG.out _ hB);have B:=Lib.hid hB;clear hB)
  | (go_at_call 220;refine (take_any s i n g hs hr _ C.out.1 C.out.2).mono ?_;rintro e w2 ⟨rfl,hM⟩;have M:=Lib.hid (Mv.then (i:=i) B.out hM);clear hM))
 go_ret
 exact ⟨rfl,M.out⟩
end Go.Proofs.YthdkkpbhijlpaaaGreatDoor
namespace Go.Proofs.YthdkkpbhijlpaaaGreatDoor
open Go.ChangeShapes Go.WideShapes Go.ChangeAt Go.RowKit Go.Shelf
set_option maxHeartbeats 1000000 in
set_option maxRecDepth 100000 in
theorem takeBefore_any (s what:ByteArray) (i g:Nat) (hs:s.size≤65536) (hi:i≤s.size) (w:World) (hE:Env2 w) (hg:g<w.heap.size) (hc:w.cell? ⟨g,7,none⟩=some (.string (tl s i))) (hf:w.frozen? ⟨g,7,none⟩=false):
 Calls Tryz.prog 225 #[.pointer (some ⟨g,0,none⟩),.string what] w fun e w'=>e=.returned (.string (s.extract i (findTo s what i).1))∧Mv g s (gone s what i) w w':=by
 obtain ⟨m,hm⟩:=hE.2
 have h1:=strings_Cut (tl s i) what m w (by rw[tl_size];omega) hm
 have hct:=cut_tl s what i
 rw[tl_list,hct.2,show (⟨(Lib.cut (rest s i) what.data.toList).1.toArray⟩:ByteArray)=s.extract i (findTo s what i).1 from by rw[hct.1]]at h1
 have H1:=Lib.hid h1
 clear h1 hct hm hE
 have HG:=Lib.hid (show ∀n,(w.drewN n).cell? ⟨g,7,none⟩=some (.string (tl s i))∧(w.drewN n).frozen? ⟨g,7,none⟩=false from fun n=>⟨(by simpa using hc),(by simpa using hf)⟩)
 go_enter Tryz.func225,Tryz.ntmps225
 go_wp2_with (go_at_call 260;refine H1.out.mono ?_;rintro e w1 ⟨rfl,nn,rfl⟩)
 have c1:=(HG.out nn).1
 have f1:=(HG.out nn).2
 have B:=Lib.hid (below_drewN (Below.refl w.heap.size w) nn)
 generalize w.drewN nn=w2 at c1 f1 B ⊢
 go_wp2
 go_ret
 exact ⟨rfl,_,B.out,rfl⟩
set_option maxHeartbeats 1000000 in
set_option maxRecDepth 100000 in
theorem skipOne_any (s:ByteArray) (p:ByteArray) (i g:Nat) (w:World) (hc:w.cell? ⟨g,7,none⟩=some (.string (tl s i))) (hf:w.frozen? ⟨g,7,none⟩=false):
 Calls Tryz.prog 259 #[.pointer (some ⟨g,0,none⟩),.string p] w fun e w'=>e=.returned (.bool (Lib.hasPrefix (rest s i) p.data.toList))∧Mv g s (if Lib.hasPrefix (rest s i) p.data.toList=true then i+p.size else i) w w':=by
 have h1:=strings_CutPrefix (tl s i) p w
 rw[tl_list,trim_tl,show p.data.toList.length=p.size from Array.length_toList]at h1
 have H1:=Lib.hid h1
 clear h1
 have B:=Lib.hid (Below.refl w.heap.size w)
 generalize Lib.hasPrefix (rest s i) p.data.toList=b at H1 ⊢
 generalize (if b=true then i+p.size else i)=j at H1 ⊢
 go_enter Tryz.func259,Tryz.ntmps259
 go_wp2_with (go_at_call 217;refine H1.out.mono ?_;rintro e w1 ⟨rfl,rfl⟩)
 go_ret
 exact ⟨rfl,_,B.out,rfl⟩
theorem trimLeft_any (s cs:ByteArray) (p:Int→Bool) (hp:∀b:UInt8,cs.data.toList.contains b=p (b.toNat:Int)) (ha:Asc cs) (hz:cs.size≤8) (i:Nat) (w:World):
 Calls Tryz.prog 271 #[.string (tl s i),.string cs] w fun e w'=>e=.returned (.string (tl s (i+runAt p s i)))∧Below w.heap.size w w':=by
 refine (Any.strings_TrimLeft_laid lays161 (by kernel_rfl) (tl s i) cs w (by omega) (fun j b hb=>ha b (List.mem_of_getElem? hb))).mono fun e w' ⟨he,hB⟩=>⟨?_,hB⟩
 rw[he,tl_list,trimLeft_run hp,runAt_rest,rest_drop]
 exact congrArg (fun x=>Ending.returned (.string x)) (bytes_ext (by rw[tl_list]))
end Go.Proofs.YthdkkpbhijlpaaaGreatDoor
namespace Go.Proofs.YthdkkpbhijlpaaaGreatDoor
open Go.ChangeShapes Go.WideShapes Go.ChangeAt Go.RowKit Go.Shelf
set_option maxHeartbeats 1000000 in
set_option maxRecDepth 100000 in
theorem skip_any (s cs:ByteArray) (p:Int→Bool) (hp:∀b:UInt8,cs.data.toList.contains b=p (b.toNat:Int)) (ha:Asc cs) (hz:cs.size≤8) (i g:Nat) (hs:s.size≤65536) (hi:i≤s.size) (w:World) (hg:g<w.heap.size) (hc:w.cell? ⟨g,7,none⟩=some (.string (tl s i))) (hf:w.frozen? ⟨g,7,none⟩=false):
 Calls Tryz.prog 257 #[.pointer (some ⟨g,0,none⟩),.string cs] w fun e w'=>e=.returned (.string (s.extract i (i+runAt p s i)))∧Mv g s (i+runAt p s i) w w':=by
 have HT:=Lib.hid (trimLeft_any s cs p hp ha hz i)
 have hr:=runAt_le p s i hi
 generalize runAt p s i=n at hr HT ⊢
 clear hp ha hz
 have h1:=tl_size s i
 have h2:=tl_size s (i+n)
 have h3:((tl s i).size:Int)-((tl s (i+n)).size:Int)=(n:Int):=by omega
 have hz1:((tl s i).size:Int)≤65536:=by omega
 have hz2:((tl s (i+n)).size:Int)≤65536:=by omega
 clear h1 h2
 have HG:=Lib.hid (show ∀w1,Below w.heap.size w w1→w1.cell? ⟨g,7,none⟩=some (.string (tl s i))∧w1.frozen? ⟨g,7,none⟩=false from fun w1 hB=>⟨(hB.cell (p:=⟨g,7,none⟩) hg).trans hc,(hB.frozen (p:=⟨g,7,none⟩) hg).trans hf⟩)
 go_enter Tryz.func257,Tryz.ntmps257
 go_wp2
 have hwr:IntKind.i64.wrap (((tl s i).size:Int)-((tl s (i+n)).size:Int))=(n:Int):=by rw[h3];exact IntWalk.i64_in _ (by omega)
 clear h3
 go_region_with (first
  | (go_at_call 271;refine (HT.out _).mono ?_;rintro e w1 ⟨rfl,hB⟩;have c1:=(HG.out _ ((Below.refl _ w).drew.trans hB)).1;have B:Hid (Below w.heap.size w w1):=Lib.hid ((Below.refl w.heap.size w).drew.trans hB);clear hB)
  | (go_at_call 220;refine (take_any s i n g hs hr _ (HG.out _ B.out).1 (HG.out _ B.out).2).mono ?_;rintro e w2 ⟨rfl,hM⟩;have M:=Lib.hid (Mv.then (i:=i) B.out hM);clear hM))
 all_goals
  go_wp2
  go_ret
  exact ⟨rfl,M.out⟩
end Go.Proofs.YthdkkpbhijlpaaaGreatDoor
namespace Go.Proofs.YthdkkpbhijlpaaaGreatDoor
open Go.ChangeShapes Go.WideShapes Go.ChangeAt Go.RowKit Go.Shelf
set_option maxHeartbeats 1000000 in
set_option maxRecDepth 100000 in
theorem beginsWithLetter_any (s m:ByteArray) (i:Nat) (w:World):
 Calls Tryz.prog 168 #[.string (tl s i),.string m] w fun e w'=>e=.returned (.bool (Lib.hasPrefix (rest s i) m.data.toList&&letB (byteAt s (i+m.size))))∧w=w':=by
 have h1:=strings_CutPrefix (tl s i) m w
 rw[tl_list,trim_tl,show m.data.toList.length=m.size from Array.length_toList]at h1
 cases hb:Lib.hasPrefix (rest s i) m.data.toList with
 | false=>
  rw[hb,if_neg (by decide)]at h1
  have H1:=Lib.hid h1
  clear h1 hb
  go_enter Tryz.func168,Tryz.ntmps168
  go_wp2_with (go_at_call 217;refine H1.out.mono ?_;rintro e w1 ⟨rfl,rfl⟩)
  go_ret
  exact ⟨rfl,rfl⟩
 | true=>
  rw[hb,if_pos rfl]at h1
  have H1:=Lib.hid h1
  clear h1 hb
  by_cases hj:i+m.size<s.size
  ·have hz:(0:Int)<((tl s (i+m.size)).size:Int):=by rw[tl_size];omega
   have hz0:0<(tl s (i+m.size)).size:=by rw[tl_size];omega
   have hb0:((tl s (i+m.size))[0]'hz0)=s[i+m.size]:=tl_at hz0 hj
   have e1:¬(tl s (i+m.size)).toList=[]:=by rw[←List.length_eq_zero_iff,ByteArray.toList_eq,Array.length_toList];show ¬(tl s (i+m.size)).size=0;omega
   have e2:(tl s (i+m.size)).toList.isEmpty=false:=by simpa using e1
   rw[byteAt_in hj,←hb0]
   clear hb0
   generalize tl s (i+m.size)=T at *
   unfold letB
   go_enter Tryz.func168,Tryz.ntmps168
   cases hsm:small (T[0].toNat:Int) with
   | true=>
    go_wp2_with (first
     | (go_at_call 217;refine H1.out.mono ?_;rintro e w1 ⟨rfl,rfl⟩)
     | (go_at_call 201;refine (isSmall_any _ _).mono ?_;rintro e w1 ⟨rfl,rfl⟩;rw[hsm]))
    go_ret
    exact ⟨rfl,rfl⟩
   | false=>
    go_wp2_with (first
     | (go_at_call 217;refine H1.out.mono ?_;rintro e w1 ⟨rfl,rfl⟩)
     | (go_at_call 201;refine (isSmall_any _ _).mono ?_;rintro e w1 ⟨rfl,rfl⟩;rw[hsm])
     | (go_at_call 221;refine (isGreat_any _ _).mono ?_;rintro e w1 ⟨rfl,rfl⟩))
    go_ret
    exact ⟨by simp,rfl⟩
  ·have hz:(tl s (i+m.size))=⟨#[]⟩:=tl_end s (by omega)
   rw[hz]at H1
   rw[show byteAt s (i+m.size) = -1 from dif_neg hj]
   have hl:letB (-1)=false:=by decide
   clear hz
   go_enter Tryz.func168,Tryz.ntmps168
   go_wp2_with (go_at_call 217;refine H1.out.mono ?_;rintro e w1 ⟨rfl,rfl⟩)
   go_ret
   exact ⟨by rw[hl];rfl,rfl⟩
end Go.Proofs.YthdkkpbhijlpaaaGreatDoor
namespace Go.Proofs.YthdkkpbhijlpaaaGreatDoor
open Go.ChangeShapes Go.WideShapes Go.ChangeAt Go.RowKit Go.Shelf
theorem endsAt_any (b:UInt8) (w:World):Calls Tryz.prog 219 #[.string ⟨#[32,9,10,12,13,47,62]⟩,.int .u8 (b.toNat:Int)] w fun e w'=>(∃z:Int,e=.returned (.int .i64 z)∧decide (0≤z)=endB (b.toNat:Int))∧w=w':=by
 refine (strings_IndexByte ⟨#[32,9,10,12,13,47,62]⟩ (b.toNat:Int) w).mono fun e w' ⟨he,hw⟩=>⟨⟨_,he,?_⟩,hw.symm⟩
 have h:=name_cs b
 rw[Lib.contains_iff_indexByte]at h
 rw[show ((b.toNat:Int)).toNat.toUInt8=b from by simp]
 rw[show (ByteArray.mk #[32,9,10,12,13,47,62]).data.toList=nameCs.data.toList from rfl,h]
 cases hb:blankB (b.toNat:Int) <;> simp[inName,endB,hb,bne]
set_option maxHeartbeats 1000000 in
set_option maxRecDepth 100000 in
theorem endsRaw_any (s raw:ByteArray) (i:Nat) (hs:s.size≤65536) (hr:raw.size≤65536) (w:World):
 Calls Tryz.prog 166 #[.string (tl s i),.string raw] w fun e w'=>e=.returned (.bool (rawHit s raw i))∧Below w.heap.size w w':=by
 have h1:=strings_CutPrefix (tl s i) ⟨#[60,47]⟩ w
 rw[tl_list,trim_tl,show (ByteArray.mk #[60,47]).data.toList.length=2 from rfl]at h1
 have hp:Lib.hasPrefix (rest s i) (ByteArray.mk #[60,47]).data.toList=(byteAt s i==60&&byteAt s (i+1)==47):=by
  show Lib.hasPrefix (rest s i) [60,47]=_
  rw[pre_cons,pre_cons,pre_nil,Bool.and_true];rfl
 rw[hp]at h1
 clear hp
 have HB0:=Lib.hid (Below.refl w.heap.size w)
 cases hb:(byteAt s i==60&&byteAt s (i+1)==47) with
 | false=>
  rw[hb,if_neg (by decide)]at h1
  have hh:rawHit s raw i=false:=by
   unfold rawHit
   rw[Bool.and_assoc (decide _),hb];simp
  rw[hh]
  have H1:=Lib.hid h1
  clear h1 hb hh
  go_enter Tryz.func166,Tryz.ntmps166
  go_wp2_with (go_at_call 217;refine H1.out.mono ?_;rintro e w1 ⟨rfl,rfl⟩)
  go_ret
  exact ⟨rfl,HB0.out⟩
 | true=>
  rw[hb,if_pos rfl]at h1
  have H1:=Lib.hid h1
  have hz:=tl_size s (i+2)
  clear h1
  by_cases hl:i+2+raw.size<s.size
  ·have hcut:=cutTo_at s (i+2) raw.size (by omega)
   have hlt:raw.size<(tl s (i+2)).size:=by omega
   have hb0:((tl s (i+2))[raw.size]'hlt)=s[i+2+raw.size]:=tl_at hlt hl
   have HL:=Lib.hid (fun w=>implLowerOf_small (s.extract (i+2) (i+2+raw.size)) w (by rw[ByteArray.size_extract];omega))
   have hle:(raw.size:Int)≤65536:=by omega
   have hle2:((tl s (i+2)).size:Int)≤65536:=by omega
   have HL2:Hid (∀w,Calls Tryz.prog 218 #[.string (s.extract (i+2) (i+2+raw.size))] w fun e w'=>e=.returned (.string (lowX s (i+2) (i+2+raw.size)))∧Below w.heap.size w w'):=HL
   clear HL hz
   cases he:((lowX s (i+2) (i+2+raw.size)).toList==raw.toList) with
   | false=>
    have hh:rawHit s raw i=false:=by unfold rawHit;rw[he];simp
    rw[hh]
    generalize lowX s (i+2) (i+2+raw.size)=X at he HL2
    clear hb hh hb0
    go_enter Tryz.func166,Tryz.ntmps166
    go_wp2_with (first
     | (go_at_call 217;refine H1.out.mono ?_;rintro e w1 ⟨rfl,rfl⟩)
     | (go_at_call 218;refine (HL2.out _).mono ?_;rintro e w2 ⟨rfl,hB⟩;have B:=Lib.hid hB;clear hB))
    go_ret
    exact ⟨rfl,B.out⟩
   | true=>
    have hh:rawHit s raw i=endB (byteAt s (i+2+raw.size)):=by
     unfold rawHit;rw[he,decide_eq_true hl,Bool.and_assoc true,hb];simp
    rw[hh,byteAt_in hl]
    generalize lowX s (i+2) (i+2+raw.size)=X at he HL2
    clear hb hh
    have HI:=Lib.hid (endsAt_any s[i+2+raw.size])
    go_enter Tryz.func166,Tryz.ntmps166
    go_wp2_with (first
     | (go_at_call 217;refine H1.out.mono ?_;rintro e w1 ⟨rfl,rfl⟩)
     | (go_at_call 218;refine (HL2.out _).mono ?_;rintro e w2 ⟨rfl,hB⟩;have B:=Lib.hid hB;clear hB)
     | (go_at_call 219;refine (HI.out _).mono ?_;rintro e w3 ⟨⟨z,rfl,hz3⟩,rfl⟩;have Z:=Lib.hid hz3;clear hz3))
    go_ret
    exact ⟨congrArg (fun b=>Ending.returned (.bool b)) Z.out,B.out⟩
  ·have hh:rawHit s raw i=false:=by unfold rawHit;rw[decide_eq_false hl];simp
   rw[hh]
   have hle:¬(raw.size:Int)<((tl s (i+2)).size:Int):=by omega
   have hle2:decide ((raw.size:Int)<((tl s (i+2)).size:Int))=false:=by simpa using hle
   have hle3:decide (raw.size<(tl s (i+2)).size)=false:=by simp;omega
   clear hb hh hz
   go_enter Tryz.func166,Tryz.ntmps166
   go_wp2_with (go_at_call 217;refine H1.out.mono ?_;rintro e w1 ⟨rfl,rfl⟩)
   go_ret
   exact ⟨rfl,HB0.out⟩
end Go.Proofs.YthdkkpbhijlpaaaGreatDoor
namespace Go.Proofs.YthdkkpbhijlpaaaGreatDoor
open Go.ChangeShapes Go.WideShapes Go.ChangeAt Go.RowKit Go.Shelf
abbrev laidL:List (String × DataW Unit):=[("math/bits.deBruijn32tab",Rows.laid_math_bits_deBruijn32tab),("math/bits.deBruijn64tab",Rows.laid_math_bits_deBruijn64tab),("internal/strconv.uint64pow10",Rows.laid_internal_strconv_uint64pow10),("unicode/utf8.acceptRanges",Rows.laid_unicode_utf8_acceptRanges),("strconv.ErrRange",Rows.laid_strconv_ErrRange),("strconv.ErrSyntax",Rows.laid_strconv_ErrSyntax),("unicode/utf8.first",Rows.laid_unicode_utf8_first)]
theorem starErr : "*" ++ "errors.errorString" = "*errors.errorString" := by decide
theorem rowErr (u:TypeId) (h:Tryz.prog.typeName? 3 u=some "*errors.errorString"):u=278 :=
 typeName_ptr_named (nm := "errors.errorString") (by rw[starErr];kernel_rfl) (by kernel_rfl) (by decide) u (by rw[starErr];exact h)
theorem laid_size {W:World} {n:String} {d:DataW Unit} {r:List (String × DataW Unit)} {g:Nat} (h:laidMet Tryz.prog ((n,d)::r) W) (hg:Tryz.prog.globalNamed n=some g):g<W.heap.size:=by
 obtain ⟨ps,⟨g',t',cs,fuel,p,q,hg',ht',hvar,_⟩,_⟩:=h
 obtain rfl:=Option.some.inj (hg.symm.trans hg')
 unfold World.var? at hvar
 rw[hg]at hvar
 simp only[Option.bind_some]at hvar
 split at hvar
 ·rename_i cs' t fr hb
  exact (Array.getElem?_eq_some_iff.1 hb).1
 ·cases hvar
theorem env_of {W:World} (h:laidMet Tryz.prog laidL W):Env W:=by
 refine ⟨?_,?_,?_⟩
 ·obtain ⟨a,s,hv,hc,_,_⟩:=laid_sentinel (g:=3) h.tail.tail.tail.tail.tail (by kernel_rfl) (by kernel_rfl) Tryz.underlying198 rowErr Tryz.underlying278 Tryz.underlying280 rfl rfl Tryz.underlying9 (by kernel_rfl) (by kernel_rfl)
  exact ⟨_,by simpa using World.var?_cell (g:=3) (by kernel_rfl) hv 0,Or.inr ⟨_,_,rfl⟩⟩
 ·have h3:laidMet Tryz.prog (("internal/strconv.uint64pow10",Lib.tabData .u64 Lib.pow10Tab)::_) W:=h.tail.tail
  exact Lib.tabIs_of_head gPow (by kernel_rfl) Tryz.underlying282 Tryz.underlying267 (by kernel_rfl) (by kernel_rfl) h3
 ·have h7:=laid_size (g:=7) h.tail (by kernel_rfl)
  omega
def intsOf (d:DataW Unit):Array Value:=match d with
 | .agg ds=>(ds.flatMap fun x=>match x with | .lit (.int k z)=>[Value.int k z] | .agg es=>es.filterMap fun y=>(match y with | .lit (.int k z)=>some (Value.int k z) | _=>none) | _=>[]).toArray
 | _=>#[]
def textOf' (d:DataW Unit):ByteArray:=match d with
 | .iface _ (.ptr (.agg [.lit (.string s)]))=>⟨s.toArray⟩
 | _=>⟨#[]⟩
noncomputable def laidWorld (os:Os):World:=
 let N:=(World.settled Tryz.prog os).heap.size
 let w0:=World.holding Tryz.prog os ⟨#[.cells #[.string (textOf' Rows.laid_strconv_ErrSyntax)] 280,.cells #[.string (textOf' Rows.laid_strconv_ErrRange)] 280],#[],[]⟩
 let put (h:Array Obj) (g:Nat) (cs:Array Value):Array Obj:=h.modify g fun
  | .cells _ t frozen=>.cells cs t frozen
  | o=>o
 let h1:=put w0.heap 3 #[.iface 278 (.pointer (some ⟨N,0,none⟩))]
 let h2:=put h1 4 #[.iface 278 (.pointer (some ⟨N+1,0,none⟩))]
 let h3:=put h2 5 (intsOf Rows.laid_internal_strconv_uint64pow10)
 let h4:=put h3 6 (intsOf Rows.laid_math_bits_deBruijn32tab)
 let h5:=put h4 7 (intsOf Rows.laid_math_bits_deBruijn64tab)
 let h6:=put h5 2 (intsOf Rows.laid_unicode_utf8_acceptRanges)
 let h7:=put h6 1 (intsOf Rows.laid_unicode_utf8_first)
 { w0 with heap:=h7 }
theorem laid_met (os:Os) (args:Array Value):laidMet Tryz.prog laidL ((laidWorld os).forCall (fun _ _=>0) ⟨#[],args,[]⟩).memory:=
 laidMet_of_run' 8 (by kernel_rfl) (by kernel_rfl)
theorem env2_of {W:World} (h:laidMet Tryz.prog laidL W) (hsh:W.ShapedOpen Tryz.prog):Env2 W:=⟨env_of h,laysM145.s1_3 W hsh⟩
end Go.Proofs.YthdkkpbhijlpaaaGreatDoor
