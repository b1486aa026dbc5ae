import Derived.Deep.RegionWith
import Derived.Deep.Draws
import Derived.Maps.Own
import Derived.Maps.OwnOps
import Derived.Maps.Views
import Derived.Laws.StructEq
import Derived.Deep.DeepCutAuto
import Derived.Test.YthdkkpbhijlpaaaGreatDoorQ07
import Derived.Test.YthdkkpbhijlpaaaGreatDoorQ04
import Derived.Test.YthdkkpbhijlpaaaGreatDoorQ16
import Derived.Test.YthdkkpbhijlpaaaGreatDoorQ18
set_option linter.unusedVariables false
namespace Go.Proofs.YthdkkpbhijlpaaaGreatDoor
open Go.ChangeShapes Go.WideShapes Go.ChangeAt Go.RowKit Go.Deep
def OsAt (w:World) (b:Nat):Nat→List (ByteArray × Int)→Prop
 | _,[]=>True
 | o,x::r=>w.cell? ⟨b,o,none⟩=some (.string x.1)∧w.cell? ⟨b,o+1,none⟩=some (.int .i64 x.2)∧x.1.size≤maxLen∧OsAt w b (o+2) r
theorem OsAt.carry {w w':World} {b:Nat}:∀{l:List (ByteArray × Int)} {o:Nat},OsAt w b o l→(∀j,j<2*l.length→w'.cell? ⟨b,o+j,none⟩=w.cell? ⟨b,o+j,none⟩)→OsAt w' b o l
 | [],_,_,_=>trivial
 | x::r,o,⟨h1,h2,h3,h5⟩,hs=>⟨(hs 0 (by simp)).trans h1,(hs 1 (by simp;omega)).trans h2,h3,OsAt.carry h5 fun j hj=>by
  have:=hs (2+j) (by simp;omega)
  rwa[←Nat.add_assoc]at this⟩
theorem OsAt.left {w:World} {b:Nat}:∀{p q:List (ByteArray × Int)} {o:Nat},OsAt w b o (p++q)→OsAt w b o p
 | [],_,_,_=>trivial
 | x::p,q,o,⟨h1,h2,h3,h5⟩=>⟨h1,h2,h3,OsAt.left h5⟩
theorem OsAt.get {w:World} {b:Nat}:∀{l:List (ByteArray × Int)} {o:Nat},OsAt w b o l→∀k (h:k<l.length),w.cell? ⟨b,o+k*2,none⟩=some (.string l[k].1)∧w.cell? ⟨b,o+k*2+1,none⟩=some (.int .i64 l[k].2)∧l[k].1.size≤maxLen
 | [],_,_,k,h=>absurd h (Nat.not_lt_zero _)
 | x::r,o,⟨h1,h2,h3,_⟩,0,_=>⟨by simpa using h1,by simpa using h2,by simpa using h3⟩
 | x::r,o,⟨_,_,_,h5⟩,k+1,h=>by
  have:=OsAt.get h5 k (by simpa using h)
  simpa[show o+2+k*2=o+(k+1)*2 by omega]using this
def OsIn (w:World) (A:Option Addr) (b o:Nat) (l:List (ByteArray × Int)):Prop:=RowAt 0 w.heap.size A l.length b o∧OsAt w b o l
theorem OsIn.next {w w':World} {A:Option Addr} {b o:Nat} {l:List (ByteArray × Int)} (h:OsIn w A b o l) (hB:Below w.heap.size w w'):OsIn w' A b o l:=by
 refine ⟨h.1.mono (Nat.le_refl _) hB.size,?_⟩
 cases l with
 | nil=>trivial
 | cons x r=>exact h.2.carry fun j _=>hB.cell (p:=⟨b,o+j,none⟩) (by have:=(h.1.2 (by simp)).2.2;show b<_;omega)
theorem OsIn.get {w:World} {A:Option Addr} {b o:Nat} {l:List (ByteArray × Int)} (h:OsIn w A b o l) (k:Nat) (hk:k<l.length):A=some ⟨b,o,none⟩∧b<w.heap.size∧w.cell? ⟨b,o+k*2,none⟩=some (.string l[k].1)∧w.cell? ⟨b,o+k*2+1,none⟩=some (.int .i64 l[k].2)∧l[k].1.size≤maxLen:=
 ⟨(h.1.2 (by omega)).1,(h.1.2 (by omega)).2.2,h.2.get k hk⟩
theorem OsIn.take {w:World} {A:Option Addr} {b o:Nat} {l:List (ByteArray × Int)} (h:OsIn w A b o l) (k:Nat):OsIn w A b o (l.take k):=by
 refine ⟨⟨by have:=h.1.1;simp;omega,fun hk=>h.1.2 (by simp at hk;omega)⟩,?_⟩
 have:=h.2
 rw[←List.take_append_drop k l]at this
 exact this.left
end Go.Proofs.YthdkkpbhijlpaaaGreatDoor
namespace Go.Proofs.YthdkkpbhijlpaaaGreatDoor
open Go.ChangeShapes Go.WideShapes Go.ChangeAt Go.RowKit Go.Maps
theorem keysLaw:Keyed Tryz.prog 9 := string_keyed Tryz.underlying9
theorem zero4 (w:World):(zeroValue 4).run Tryz.prog w=.ok (.bool false) w:=by kernel_rfl
def SetFrom (w0 w:World) (b n:Nat) (ls:List (List UInt8)):Prop:=
 (∃D:DataW Unit,IsMap D∧w.ownsMap Tryz.prog 9 (plainElem Tryz.prog 4) b n D ∧
  ∀l:List UInt8,D.atKey (.string l) (.lit (.bool false))=.lit (.bool (ls.any fun x=>x==l))) ∧
 Below w0.heap.size w0 w∧w0.heap.size≤b
theorem setFrom_made (w:World):SetFrom w (w.alloc (.map #[] 0)) w.heap.size 0 []:=
 ⟨⟨.map [],isMap_empty,World.ownsMap_made _ _ _ _,fun _=>rfl⟩,(Below.refl _ _).alloc (Nat.le_refl _) _,Nat.le_refl _⟩
theorem key_string (s:ByteArray) (h:s.size≤maxLen):keyOf Tryz.prog 9 (.string s)=some (.string s.data.toList):=WideMaps.keyOf_string_mk Tryz.underlying9 h
theorem isKey_string (l:List UInt8):WideAt.IsKeyLit (.string l):=by simp[WideAt.IsKeyLit]
theorem setFrom_put {w0 w:World} {b n:Nat} {ls:List (List UInt8)} (h:SetFrom w0 w b n ls) (hn:n<maxLen) (l:List UInt8) (hl:l.length≤maxLen):
 ∃w',(Instr.mapUpdate 214 (.map (some b)) (.string ⟨l.toArray⟩) (.bool true)).run Tryz.prog w=.ok () w'∧SetFrom w0 w' b (n+1) (ls++[l]):=by
 obtain ⟨⟨D,hD,hown,hat⟩,hb,hle⟩:=h
 obtain ⟨w',hrun,hown',hg⟩:=hown.update keysLaw Tryz.underlying214 hn (key_string ⟨l.toArray⟩ (by simpa[ByteArray.size]using hl)) (plainElem_bool Tryz.underlying4 true)
 refine ⟨w',hrun,⟨_,hD.put _ _,hown',fun k=>?_⟩,hb.grown hg hb.size (fun k hk=>by cases hk;exact hle),hle⟩
 by_cases e:k=l
 ·subst e
  rw[atKey_put_same hD (isKey_string _)];simp
 ·rw[atKey_put_other (by simpa using e),hat k]
  have e2:(l==k)=false:=by rw[beq_eq_false_iff_ne];exact fun x=>e x.symm
  rw[List.any_append];simp[e2]
theorem wpList_insert_set {ops:Array Oper} {rest:List Oper} {o:Oper} {a:Act} {Q:Exit→Act→World→Prop} (w0 w:World)
 (hg:o.guard=none) (m x v:Operand) (hop:o.op=Op.insert 214 m x v) (b n:Nat) (ls:List (List UInt8)) (l:List UInt8)
 (hm:a.eval m=.map (some b)) (hx:a.eval x=.string ⟨l.toArray⟩) (hv:a.eval v=.bool true) (h:SetFrom w0 w b n ls) (hn:n<maxLen) (hl:l.length≤maxLen)
 (hK:∀w',SetFrom w0 w' b (n+1) (ls++[l])→wpList Tryz.prog ops Q rest (a.put o.dst undef) w'):
 wpList Tryz.prog ops Q (o::rest) a w:=by
 refine wpList_plain hg fun K' hK'=>?_
 obtain ⟨w',hrun,r⟩:=setFrom_put h hn l hl
 unfold Oper.wp
 simp[execOp,hop,hm,hx,hv,hrun,Result.andThen]
 exact hK' _ _ (hK w' r)
set_option maxRecDepth 100000 in
theorem wpList_lookup_set {ops:Array Oper} {rest:List Oper} {o:Oper} {a:Act} {Q:Exit→Act→World→Prop} (w0 w:World)
 (hg:o.guard=none) (m x:Operand) (hop:o.op=Op.lookup 214 m x false) (b n:Nat) (ls:List (List UInt8)) (s:ByteArray)
 (hm:a.eval m=.map (some b)) (hx:a.eval x=.string s) (h:SetFrom w0 w b n ls) (hs:s.size≤maxLen)
 (hK:wpList Tryz.prog ops Q rest (a.put o.dst (.bool (inL ls s))) w):
 wpList Tryz.prog ops Q (o::rest) a w:=by
 refine wpList_plain hg fun K' hK'=>?_
 obtain ⟨⟨D,hD,hown,hat⟩,_⟩:=h
 obtain ⟨u,ps,hrun,hu⟩:=hown.lookup keysLaw Tryz.underlying214 (zero4 w) (plainElem_bool Tryz.underlying4 false) (key_string s hs)
 rw[hat,←ByteArray.toList_eq]at hu
 have hu':u=.bool (inL ls s):=by
  unfold plainElem at hu
  rw[Tryz.underlying4]at hu
  cases u <;> simp at hu
  rw[hu.1];rfl
 subst hu'
 unfold Oper.wp
 simp[execOp,hop,hm,hx,hrun,Result.andThen]
 exact hK' _ _ hK
set_option maxHeartbeats 1000000 in
theorem implBreaksOut_any (s:ByteArray) (w:World) (hs:s.size≤maxLen):
 Calls Tryz.prog 228 #[.string s] w fun e w'=>e=.returned (.bool (inL outL s))∧Below w.heap.size w w':=by
 have hmm:=@run_makeMap Tryz.prog
 have hset:=setFrom_made w
 have HS:=Lib.hid hs
 clear hs
 go_enter Tryz.func228,Tryz.ntmps228
 go_wp2_with (first | (refine wpList_insert_set w _ rfl _ _ _ rfl _ _ _ _ rfl rfl rfl (by assumption) (by decide) (by decide) ?_;clear hset;intro w1 hset) | (refine wpList_lookup_set w _ rfl _ _ rfl _ _ _ _ rfl rfl hset HS.out ?_))
 go_ret
 exact ⟨rfl,hset.2.1⟩
end Go.Proofs.YthdkkpbhijlpaaaGreatDoor
namespace Go.Proofs.YthdkkpbhijlpaaaGreatDoor
open Go.ChangeShapes Go.WideShapes Go.ChangeAt Go.RowKit Go.Deep
def cutTo (p:ByteArray × Int→Bool) (l:List (ByteArray × Int)):Nat→Nat
 | 0=>0
 | k+1=>match l[k]? with
  | some x=>if p x=true then k+1 else cutTo p l k
  | none=>cutTo p l k
def cutOf (p:ByteArray × Int→Bool) (l:List (ByteArray × Int)):Nat:=cutTo p l l.length
theorem cutTo_no {p:ByteArray × Int→Bool} {l:List (ByteArray × Int)} {k:Nat} (hk:k<l.length) (h:p l[k]=false):cutTo p l (k+1)=cutTo p l k:=by
 simp only[cutTo,List.getElem?_eq_getElem hk,h];rfl
theorem cutTo_yes {p:ByteArray × Int→Bool} {l:List (ByteArray × Int)} {k:Nat} (hk:k<l.length) (h:p l[k]=true):cutTo p l (k+1)=k+1:=by
 simp only[cutTo,List.getElem?_eq_getElem hk,h];rfl
theorem cutTo_le (p:ByteArray × Int→Bool) (l:List (ByteArray × Int)):∀k,cutTo p l k≤k
 | 0=>Nat.le_refl _
 | k+1=>by
  simp only[cutTo]
  have:=cutTo_le p l k
  split
  ·split <;> omega
  ·omega
theorem cutOf_le (p:ByteArray × Int→Bool) (l:List (ByteArray × Int)):cutOf p l≤l.length:=cutTo_le p l _
def htmlB (x:ByteArray × Int):Bool:=x.2==0
def nameIs (n:ByteArray) (x:ByteArray × Int):Bool:=x.1.toList==n.toList
theorem leftOpen1_any (x:ByteArray × Int) (w:World):
 Calls Tryz.prog 230 #[.agg #[.string x.1,.int .i64 x.2]] w fun e w'=>e=.returned (.bool (htmlB x))∧Below w.heap.size w w':=by
 obtain ⟨n,v⟩:=x
 go_enter Tryz.func230,Tryz.ntmps230
 go_wp2
 go_ret
 exact ⟨rfl,(Below.refl w.heap.size w).alloc (Nat.le_refl _) _⟩
theorem placeHtml_any (l:List (ByteArray × Int)) (w:World) (A:Option Addr) (c b o:Nat) (hl:OsIn w A b o l):
 Calls Tryz.prog 229 #[.slice A l.length c,.func (.func 230) #[] #[]] w fun e w'=>e=.returned (.int .i64 ((cutOf htmlB l:Nat)-1))∧Below w.heap.size w w':=by
 have hml:=hl.1.1
 unfold maxLen at hml
 have HL:=Lib.hid hl
 clear hl
 go_enter Tryz.func229,Tryz.ntmps229
 go_wp2
 go_loopw [5] (fun i wr=>∃z:Int,i=.int .i64 z∧-1≤z∧z<l.length∧Hid (cutTo htmlB l (z+1).toNat=cutOf htmlB l∧Below w.heap.size w wr)) (fun i wr=>(intOf i+1).toNat)
 case atStart=>exact ⟨_,rfl,by omega,by omega,Lib.hid ⟨by rw[show ((l.length:Int)-1+1).toNat=l.length by omega];rfl,Below.refl _ _⟩⟩
 case round=>
  obtain ⟨z,rfl,hz1,hz2,HH⟩:=hrel
  by_cases hz:0≤z
  ·obtain ⟨k,rfl⟩:=Int.eq_ofNat_of_zero_le hz
   have hkl:k<l.length:=by omega
   obtain ⟨rfl,hlt,t1,t2,t3⟩:=(HL.out.next HH.out.2).get k hkl
   by_cases ho:htmlB l[k]=true
   ·have HO:=Lib.hid ho
    have HC:Hid (k+1=cutOf htmlB l):=Lib.hid (by have:=HH.out.1;rw[show ((k:Int)+1).toNat=k+1 by omega,cutTo_yes hkl ho]at this;exact this)
    clear ho
    go_wp2_with (go_at_call 230;refine (leftOpen1_any l[k] _).mono ?_;rintro e w' ⟨rfl,hB⟩;rw[HO.out];have HB:=Lib.hid hB;clear hB)
    go_ret
    exact ⟨ret_int (by rw[←HC.out];try omega),HH.out.2.trans (HB.out.mono HH.out.2.size)⟩
   ·have ho':htmlB l[k]=false:=by simpa using ho
    have HO:=Lib.hid ho'
    have HC:Hid (cutTo htmlB l k=cutOf htmlB l):=Lib.hid (by have:=HH.out.1;rw[show ((k:Int)+1).toNat=k+1 by omega,cutTo_no hkl ho']at this;exact this)
    clear ho ho'
    go_wp2_with (go_at_call 230;refine (leftOpen1_any l[k] _).mono ?_;rintro e w' ⟨rfl,hB⟩;rw[HO.out];have HB:=Lib.hid hB;clear hB)
    go_roundw
    case rel=>exact ⟨(k:Int)-1,rfl,by omega,by omega,Lib.hid ⟨by rw[show ((k:Int)-1+1).toNat=k by omega];exact HC.out,HH.out.2.trans (HB.out.mono HH.out.2.size)⟩⟩
    case measure=>(simp[intOf] <;> omega)
  ·obtain rfl:z = -1:=by omega
   go_wp2
   go_ret
   exact ⟨ret_int (by rw[←HH.out.1];rfl),HH.out.2⟩
end Go.Proofs.YthdkkpbhijlpaaaGreatDoor
namespace Go.Proofs.YthdkkpbhijlpaaaGreatDoor
open Go.ChangeShapes Go.WideShapes Go.ChangeAt Go.RowKit Go.Deep
def topOf (l:List (ByteArray × Int)):ByteArray × Int:=l.getLast?.getD (⟨#[]⟩,0)
theorem topOf_take {l:List (ByteArray × Int)} {k:Nat} (h0:0<k) (hk:k≤l.length):topOf (l.take k)=l[k-1]:=by
 unfold topOf
 rw[List.getLast?_eq_getElem?]
 simp only[List.length_take,Nat.min_eq_left hk]
 rw[List.getElem?_take_of_lt (by omega),List.getElem?_eq_getElem (by omega)];rfl
theorem topOf_last {l:List (ByteArray × Int)} (h0:0<l.length):topOf l=l[l.length-1]:=by
 have:=topOf_take (l:=l) h0 (Nat.le_refl _)
 rwa[List.take_length]at this
theorem topOf_nil:topOf []=(⟨#[]⟩,0):=rfl
theorem innermost_any (l:List (ByteArray × Int)) (w:World) (A:Option Addr) (c b o:Nat) (hl:OsIn w A b o l):
 Calls Tryz.prog 231 #[.slice A l.length c] w fun e w'=>e=.returned (.agg #[.string (topOf l).1,.int .i64 (topOf l).2])∧Below w.heap.size w w':=by
 have hml:=hl.1.1
 unfold maxLen at hml
 by_cases h0:0<l.length
 ·obtain ⟨rfl,hlt,t1,t2,t3⟩:=hl.get (l.length-1) (by omega)
  have HT:=Lib.hid (topOf_last h0)
  have h0':((l.length:Int)==0)=false:=beq_eq_false_iff_ne.2 (by omega)
  have hq:((l.length:Int)-1).toNat=l.length-1:=by omega
  clear hl
  rw[HT.out]
  go_enter Tryz.func231,Tryz.ntmps231
  go_wp2
  (try simp only[Exit.inBlock,Exit.then])
  refine bodyPost_ret (v:=.agg #[.string l[l.length-1].1,.int .i64 l[l.length-1].2]) (by simp[results,Tryz.results231,go_sem]) rfl ⟨rfl,?_⟩
  go_grown
 ·obtain rfl:l=[]:=List.length_eq_zero_iff.1 (by omega)
  go_enter Tryz.func231,Tryz.ntmps231
  go_wp2
  (try simp only[Exit.inBlock,Exit.then])
  refine bodyPost_ret (v:=.agg #[.string ⟨#[]⟩,.int .i64 0]) (by simp[results,Tryz.results231,go_sem]) rfl ⟨rfl,?_⟩
  go_grown
theorem withoutInnermost_any (n c b o:Nat) (w:World) (hn:0<n) (hc:n≤c) (hm:n≤maxLen):
 Calls Tryz.prog 233 #[.slice (some ⟨b,o,none⟩) n c] w fun e w'=>e=.returned (.slice (some ⟨b,o,none⟩) (n-1:Nat) c)∧w=w':=by
 unfold maxLen at hm
 have hq:((n:Int)-1).toNat=n-1:=by omega
 go_enter Tryz.func233,Tryz.ntmps233
 go_wp2
 go_ret
 exact ⟨by first | rfl | (dsimp only;rfl),rfl⟩
def endsL:List (List UInt8):=[[112],[100,105,118],[117,108],[116,97,98,108,101],[104,49]]
theorem endsParagraph_any (s:ByteArray) (w:World):
 Calls Tryz.prog 232 #[.string s] w fun e w'=>e=.returned (.bool (inL endsL s))∧w=w':=by
 go_enter Tryz.func232,Tryz.ntmps232
 go_wp2
 all_goals (go_ret;exact ⟨ret_bool (by first | (simp only[inL,endsL,List.any_cons,List.any_nil,beq_flip _ s.toList, *];rfl) | (exfalso;simp_all;done)),rfl⟩)
def spcOf (l:List (ByteArray × Int)) (n:ByteArray):Int:=if spaceI n=0 then (topOf l).2 else spaceI n
theorem run_field1 (x:Value) (y':Int) (w:World):(Instr.field 168 (.agg #[x,.int .i64 y']) 1).run Tryz.prog w=.ok (.int .i64 y') w:=by kernel_rfl
theorem spaceWithin_any (l:List (ByteArray × Int)) (n:ByteArray) (w:World) (A:Option Addr) (c b o:Nat) (hl:OsIn w A b o l):
 Calls Tryz.prog 178 #[.slice A l.length c,.string n] w fun e w'=>e=.returned (.int .i64 (spcOf l n))∧Below w.heap.size w w':=by
 have HL:=Lib.hid hl
 clear hl
 by_cases h:spaceI n=0
 ·have hfd:=run_field1 (.string (topOf l).1) (topOf l).2
  have HS:=Lib.hid h
  have HE:Hid (spcOf l n=(topOf l).2):=Lib.hid (if_pos h)
  clear h
  go_enter Tryz.func178,Tryz.ntmps178
  go_wp2_with (first | (go_at_call 234;refine (implSpaceOf_any _ _).mono ?_;rintro e w' ⟨rfl,rfl⟩;rw[HS.out]) | (go_at_call 231;refine (innermost_any l _ A c b o HL.out).mono ?_;rintro e w' ⟨rfl,hB⟩;have HB:=Lib.hid hB;clear hB))
  go_ret
  exact ⟨ret_int HE.out.symm,HB.out⟩
 ·have HE:Hid (spcOf l n=spaceI n):=Lib.hid (if_neg h)
  have h':(spaceI n==0)=false:=beq_eq_false_iff_ne.2 h
  have h'':(spaceI n != 0)=true:=by simpa using h
  go_enter Tryz.func178,Tryz.ntmps178
  go_wp2_with (first | (go_at_call 234;refine (implSpaceOf_any _ _).mono ?_;rintro e w' ⟨rfl,rfl⟩))
  go_ret
  exact ⟨ret_int HE.out.symm,Below.refl _ _⟩
end Go.Proofs.YthdkkpbhijlpaaaGreatDoor
namespace Go.Proofs.YthdkkpbhijlpaaaGreatDoor
open Go.ChangeShapes Go.WideShapes Go.ChangeAt Go.RowKit Go.Deep
theorem fieldsOpen:Tryz.prog.underlying 168 = some (.struct (Tryz.prog.fieldsOf 168)):=by kernel_rfl
theorem heldOpen:Tryz.prog.stoodInHeld 168 = false:=by kernel_rfl
theorem fieldsL:∃f0 f1:Field,(Tryz.prog.fieldsOf 168).toList=[f0,f1]∧(f0.name ≠ "_" ∧ f1.name ≠ "_")∧(f0.offset=0∧f1.offset=1)∧f0.type=9 ∧ f1.type=3 := by
 refine ⟨(Tryz.prog.fieldsOf 168)[0]!,(Tryz.prog.fieldsOf 168)[1]!,by kernel_rfl,⟨?_,?_⟩,⟨by kernel_rfl,by kernel_rfl⟩,by kernel_rfl,by kernel_rfl⟩
 all_goals (refine of_decide_eq_true ?_;kernel_rfl)
theorem run_eqlOpen (s s':ByteArray) (z z':Int) (w:World):(binOp .eql 168 (.agg #[.string s,.int .i64 z]) (.agg #[.string s',.int .i64 z'])).run Tryz.prog w=.ok (.bool ((s.toList==s'.toList)&&(z==z'))) w:=by
 obtain ⟨f0,f1,hf,⟨n0,n1⟩,⟨o0,o1⟩,t0,t1⟩:=fieldsL
 rw[run_eql_struct,run_equalIn_agg w 9999 _ _ _ fieldsOpen heldOpen,hf]
 simp only[Op.eqFields,n0,n1,o0,o1,t0,t1,ne_eq,not_false_eq_true,if_true]
 have p0:∀(a b:Value) (w:World),(part 9 #[a,b] 0).run Tryz.prog w=.ok a w:=fun a b w=>by kernel_rfl
 have p1:∀(a b:Value) (w:World),(part 3 #[a,b] 1).run Tryz.prog w=.ok b w:=fun a b w=>by kernel_rfl
 simp only[Sem.run_bind,p0,Result.andThen_ok,run_equalIn_string w _ _ _ _ Tryz.underlying9]
 cases s.toList==s'.toList <;> cases h2:(z==z') <;> simp[Result.andThen_ok,run_equalIn_int w _ _ _ _ _ _ Tryz.underlying3, *]
 all_goals simpa using h2
def left1 (l:List (ByteArray × Int)) (n:ByteArray):Nat:=if inL outL n=true then cutOf htmlB l else l.length
def isTop (l:List (ByteArray × Int)) (k:Nat) (s:List UInt8):Bool:=(topOf (l.take k)).1.toList==s&&(topOf (l.take k)).2==0
def left2 (l:List (ByteArray × Int)) (n:ByteArray):Nat:=if (isTop l (left1 l n) [112]&&inL endsL n)=true then left1 l n-1 else left1 l n
def leftOf (l:List (ByteArray × Int)) (n:ByteArray):Nat:=if (isTop l (left2 l n) [108,105]&&(n.toList==[108,105]))=true then left2 l n-1 else left2 l n
theorem left1_le (l:List (ByteArray × Int)) (n:ByteArray):left1 l n≤l.length:=by
 unfold left1;have:=cutOf_le htmlB l;split <;> omega
theorem left2_le (l:List (ByteArray × Int)) (n:ByteArray):left2 l n≤l.length:=by
 unfold left2;have:=left1_le l n;split <;> omega
theorem leftOf_le (l:List (ByteArray × Int)) (n:ByteArray):leftOf l n≤l.length:=by
 unfold leftOf;have:=left2_le l n;split <;> omega
theorem isTop_pos {l:List (ByteArray × Int)} {k:Nat} {s:List UInt8} (hs:s≠[]) (h:isTop l k s=true):0<k:=by
 rcases Nat.eq_zero_or_pos k with rfl | h0
 ·exfalso
  simp only[isTop,List.take_zero,topOf_nil,Bool.and_eq_true,beq_iff_eq]at h
  exact hs (by rw[←h.1];exact is_nil (s:=⟨#[]⟩) (by decide))
 ·exact h0
def StackIs (v:Value) (w:World) (b o:Nat) (l:List (ByteArray × Int)) (k:Nat):Prop:=∃A c,v=.slice A k c∧k≤c∧OsIn w A b o (l.take k)
theorem StackIs.mk' {v:Value} {w:World} {b o:Nat} {l:List (ByteArray × Int)} {k:Nat} (A:Option Addr) (c:Nat) (h:v=.slice A k c) (hc:k≤c) (hl:OsIn w A b o (l.take k)):StackIs v w b o l k:=⟨A,c,h,hc,hl⟩
theorem slice_stack (A:Option Addr) (b o n c k:Nat) (hk:k≤c) (hA:A=some ⟨b,o,none⟩∨(A=none∧c=0)) (w:World):(Instr.slice 191 (.slice A n c) none (some (.int .i64 (k:Int))) none).run Tryz.prog w=.ok (.slice A k c) w:=by
 have he:Tryz.prog.elem 191 = 168 := by kernel_rfl
 have ht:Tryz.prog.underlying 191 = some (.slice (Tryz.prog.elem 191)):=by kernel_rfl
 have hs:(sizeOf 168).run Tryz.prog w=.ok 2 w:=by kernel_rfl
 rw[run_slice_h w _ _ _ _ ht .i64 (k:Int) (by omega) (by omega),he,hs]
 show Result.ok (sliced A 0 (k:Int).toNat c 2) w=_
 unfold sliced
 rw[Int.toNat_natCast]
 by_cases e:c=0
 ·subst e
  obtain rfl:k=0:=by omega
  rfl
 ·rw[if_neg e]
  rcases hA with rfl | ⟨rfl,h⟩
  ·simp[Addr.add]
  ·omega
theorem innermost_k (l:List (ByteArray × Int)) (k:Nat) (w:World) (A:Option Addr) (c b o:Nat) (hk:k≤l.length) (hl:OsIn w A b o (l.take k)):
 Calls Tryz.prog 231 #[.slice A k c] w fun e w'=>e=.returned (.agg #[.string (topOf (l.take k)).1,.int .i64 (topOf (l.take k)).2])∧Below w.heap.size w w':=by
 have:=innermost_any (l.take k) w A c b o hl
 rwa[List.length_take,Nat.min_eq_left hk]at this
theorem eql_top {l:List (ByteArray × Int)} {k:Nat} {s:List UInt8} {bp:Bool} (h:isTop l k s=bp) (w:World):
 (binOp .eql 168 (.agg #[.string (topOf (l.take k)).1,.int .i64 (topOf (l.take k)).2]) (.agg #[.string ⟨s.toArray⟩,.int .i64 0])).run Tryz.prog w=.ok (.bool bp) w:=by
 rw[run_eqlOpen,←h,isTop,ByteArray.toList_eq ⟨s.toArray⟩]
theorem isTop_le {l:List (ByteArray × Int)} {k:Nat} {s:List UInt8} {w:World} {A:Option Addr} {b o:Nat} (hs:s≠[]) (hk:k≤l.length) (h:isTop l k s=true) (hl:OsIn w A b o (l.take k)):0<k∧A=some ⟨b,o,none⟩:=by
 have h0:=isTop_pos hs h
 exact ⟨h0,(hl.1.2 (by rw[List.length_take];omega)).1⟩
theorem take_take' {l:List (ByteArray × Int)} {k j:Nat} (h:j≤k):(l.take k).take j=l.take j:=by rw[List.take_take,Nat.min_eq_left h]
set_option maxHeartbeats 1000000 in
theorem leftOpen_any (l:List (ByteArray × Int)) (n:ByteArray) (w:World) (A:Option Addr) (c b o:Nat) (hn:n.size≤maxLen) (hc:l.length≤c) (hA:A=some ⟨b,o,none⟩∨(A=none∧c=0)) (hl:OsIn w A b o l):
 Calls Tryz.prog 176 #[.slice A l.length c,.string n] w fun e w'=>∃v,e=.returned v∧StackIs v w' b o l (leftOf l n)∧Below w.heap.size w w':=by
 have hml:=hl.1.1
 unfold maxLen at hml
 have HL:=Lib.hid hl
 have HN:=Lib.hid hn
 have hcl:=cutOf_le htmlB l
 obtain ⟨bo,hbo⟩:∃bo,inL outL n=bo:=⟨_,rfl⟩
 have HBO:=Lib.hid hbo
 clear hl hn hbo
 go_enter Tryz.func176,Tryz.ntmps176
 go_upto_if 7 with (go_at_call 228;refine (implBreaksOut_any n _ HN.out).mono ?_;rintro e w1 ⟨rfl,hB⟩;rw[HBO.out];have B1:=Lib.hid hB;clear hB)
 go_cut [0] (fun s0 wx=>StackIs s0 wx b o l (left1 l n)∧Below w.heap.size w wx)
 case first=>
  cases bo
  case true=>
   have HK:Hid (left1 l n=cutOf htmlB l):=Lib.hid (if_pos HBO.out)
   have hsl:=slice_stack A b o l.length c (cutOf htmlB l) (by omega) hA
   have hz:((cutOf htmlB l:Nat):Int)-1+1=((cutOf htmlB l:Nat):Int):=by omega
   go_wp2_with (go_at_call 229;refine (placeHtml_any l _ A c b o (HL.out.next B1.out)).mono ?_;rintro e w2 ⟨rfl,hB⟩;have B2:=Lib.hid (B1.out.trans (hB.mono B1.out.size));clear hB)
   go_meet
   exact ⟨StackIs.mk' A c (by rw[HK.out]) (by rw[HK.out];omega) ((HL.out.next B2.out).take _),B2.out⟩
  case false=>
   have HK:Hid (left1 l n=l.length):=Lib.hid (if_neg (by rw[HBO.out];decide))
   go_wp2
   go_meet
   exact ⟨StackIs.mk' A c (by rw[HK.out]) (by rw[HK.out];exact hc) ((HL.out.next B1.out).take _),B1.out⟩
 case rest=>
  obtain ⟨⟨A1,c1,rfl,hc1,hl1⟩,hB⟩:=hcut
  have HB1:=Lib.hid hB
  have HL1:=Lib.hid hl1
  obtain ⟨bp,hbp⟩:∃bp,isTop l (left1 l n) [112]=bp:=⟨_,rfl⟩
  obtain ⟨be,hbe⟩:∃be:Bool,inL endsL n=be:=⟨_,rfl⟩
  have HBP:=Lib.hid hbp
  have HBE:=Lib.hid hbe
  have hkl:=left1_le l n
  have heq:=eql_top hbp
  clear hB hl1 hbp hbe
  go_upto_region 4 with fail
  go_cut [21] (fun s wx=>s=.bool (bp&&be)∧Below w.heap.size w wx∧OsIn wx A1 b o (l.take (left1 l n)))
  case first=>
   cases bp <;> cases be
   all_goals (
    have HBe:=HBE.out
    go_wp2_with (first | (go_at_call 231;refine (innermost_k l _ _ A1 c1 b o hkl (HL1.out)).mono ?_;rintro e w2 ⟨rfl,hB⟩;have B2:=Lib.hid (HB1.out.trans (hB.mono HB1.out.size));have L2:=Lib.hid (HL1.out.next hB);clear hB) | (go_at_call 232;refine (endsParagraph_any n _).mono ?_;rintro e w3 ⟨rfl,rfl⟩;rw[HBE.out]))
    go_meet
    exact ⟨rfl,B2.out,L2.out⟩)
  case rest=>
   obtain ⟨rfl,hB,hl3⟩:=hcut
   obtain ⟨bb,hbb⟩:∃bb,(bp&&be)=bb:=⟨_,rfl⟩
   have HBB:=Lib.hid hbb
   have HB3:=Lib.hid hB
   have HL3:=Lib.hid hl3
   rw[hbb]
   clear hbb hB heq hl3
   go_upto_if 21 with fail
   go_cut [0] (fun s0 wx=>StackIs s0 wx b o l (left2 l n)∧Below w.heap.size w wx)
   case first=>
    cases bb
    case true=>
     have hbp:bp=true:=by have:=HBB.out;cases bp <;> simp_all
     obtain ⟨h0,rfl⟩:=isTop_le (by decide) hkl (HBP.out.trans hbp) HL1.out
     have HK:Hid (left2 l n=left1 l n-1):=Lib.hid (if_pos (by rw[HBP.out,HBE.out];exact HBB.out))
     go_wp2_with (go_at_call 233;refine (withoutInnermost_any (left1 l n) c1 b o _ h0 hc1 (by unfold maxLen;omega)).mono ?_;rintro e w2 ⟨rfl,rfl⟩)
     go_meet
     exact ⟨StackIs.mk' _ c1 (by rw[HK.out]) (by rw[HK.out];omega) (by rw[HK.out,←take_take' (show left1 l n-1≤left1 l n by omega)];exact HL3.out.take _),HB3.out⟩
    case false=>
     have HK:Hid (left2 l n=left1 l n):=Lib.hid (if_neg (by rw[HBP.out,HBE.out,HBB.out];decide))
     go_wp2
     go_meet
     exact ⟨StackIs.mk' A1 c1 (by rw[HK.out]) (by rw[HK.out];exact hc1) (by rw[HK.out];exact HL3.out),HB3.out⟩
   case rest=>
    obtain ⟨⟨A2,c2,rfl,hc2,hl2⟩,hB⟩:=hcut
    clear HBP HBE HBB HB1 HL1 HL3 HB3
    have HB1:=Lib.hid hB
    have HL1:=Lib.hid hl2
    obtain ⟨bp,hbp⟩:∃bp,isTop l (left2 l n) [108,105]=bp:=⟨_,rfl⟩
    obtain ⟨be,hbe⟩:∃be:Bool,(n.toList==[108,105])=be:=⟨_,rfl⟩
    have HBP:=Lib.hid hbp
    have HBE:=Lib.hid hbe
    have hkl2:=left2_le l n
    have heq:=eql_top hbp
    clear hB hl2 hbp hbe
    go_upto_region 6 with fail
    go_cut [31] (fun s wx=>s=.bool (bp&&be)∧Below w.heap.size w wx∧OsIn wx A2 b o (l.take (left2 l n)))
    case first=>
     cases bp <;> cases be
     all_goals (
      have HBe:=HBE.out
      go_wp2_with (go_at_call 231;refine (innermost_k l _ _ A2 c2 b o hkl2 (HL1.out)).mono ?_;rintro e w2 ⟨rfl,hB⟩;have B2:=Lib.hid (HB1.out.trans (hB.mono HB1.out.size));have L2:=Lib.hid (HL1.out.next hB);clear hB)
      go_meet
      exact ⟨rfl,B2.out,L2.out⟩)
    case rest=>
     obtain ⟨rfl,hB,hl3⟩:=hcut
     obtain ⟨bb,hbb⟩:∃bb,(bp&&be)=bb:=⟨_,rfl⟩
     have HBB:=Lib.hid hbb
     have HB3:=Lib.hid hB
     have HL3:=Lib.hid hl3
     rw[hbb]
     clear hbb hB heq hl3
     cases bb
     case true=>
      have hbp:bp=true:=by have:=HBB.out;cases bp <;> simp_all
      obtain ⟨h0,rfl⟩:=isTop_le (by decide) hkl2 (HBP.out.trans hbp) HL1.out
      have HK:Hid (leftOf l n=left2 l n-1):=Lib.hid (if_pos (by rw[HBP.out,HBE.out];exact HBB.out))
      go_wp2_with (go_at_call 233;refine (withoutInnermost_any (left2 l n) c2 b o _ h0 hc2 (by unfold maxLen;omega)).mono ?_;rintro e w2 ⟨rfl,rfl⟩)
      go_ret
      exact ⟨_,rfl,StackIs.mk' _ c2 (by rw[HK.out];rfl) (by rw[HK.out];omega) (by rw[HK.out,←take_take' (show left2 l n-1≤left2 l n by omega)];exact HL3.out.take _),HB3.out⟩
     case false=>
      have HK:Hid (leftOf l n=left2 l n):=Lib.hid (if_neg (by rw[HBP.out,HBE.out,HBB.out];decide))
      go_wp2
      go_ret
      exact ⟨_,rfl,StackIs.mk' A2 c2 (by rw[HK.out];rfl) (by rw[HK.out];exact hc2) (by rw[HK.out];exact HL3.out),HB3.out⟩
end Go.Proofs.YthdkkpbhijlpaaaGreatDoor
namespace Go.Proofs.YthdkkpbhijlpaaaGreatDoor
open Go.ChangeShapes Go.WideShapes Go.ChangeAt Go.RowKit Go.Deep
structure Fr where
 sp:Int
 n:ByteArray
 al:List (ByteArray × ByteArray)
 P:Fo
structure Zi where
 F:Fo
 up:List Fr
 c:Nat
inductive Rs where
 | bad (c:Int)
 | ok (z:Zi)
def Zi.pop:Zi→Zi
 | ⟨F,[],c⟩=>⟨F,[],c⟩
 | ⟨F,x::up,c⟩=>⟨x.P.app (.one 1 x.sp x.n ⟨#[]⟩ x.al F),up,c⟩
def Zi.pops:Nat→Zi→Zi
 | 0,z=>z
 | k+1,z=>Zi.pops k z.pop
def opensOf (up:List Fr):List (ByteArray × Int):=(up.map fun x=>(x.n,x.sp)).reverse
def Zi.to (z:Zi) (k:Nat):Zi:=z.pops (z.up.length-k)
def Zi.done (z:Zi):Fo:=(z.to 0).F
def rawIn (l:List (ByteArray × Int)):ByteArray:=if ((topOf l).2==0&&inL rawL (topOf l).1)=true then (topOf l).1 else ⟨#[]⟩
def Zi.raw (z:Zi):ByteArray:=rawIn (opensOf z.up)
def Zi.add (z:Zi) (k sp:Int) (n t:ByteArray) (al:List (ByteArray × ByteArray)):Rs:=
 if 10≤z.up.length then .bad 11 else if 60≤z.c then .bad 6 else if 120<t.size then .bad 8 else .ok ⟨z.F.app (.one k sp n t al .nil),z.up,z.c+1⟩
def Zi.words (z:Zi) (t:ByteArray):Rs:=
 match z.F.last with
 | some (k',t')=>if k'=2 then (if 120<t'.size+t.size then .bad 8 else .ok ⟨z.F.addText t,z.up,z.c⟩) else z.add 2 0 ⟨#[]⟩ t []
 | none=>z.add 2 0 ⟨#[]⟩ t []
def staysB (sp:Int) (n:ByteArray) (s:Bool):Bool:=if sp=0 then !inL voidL n else !s
def Zi.begin (z:Zi) (T:Tk):Rs:=
 let y:=z.to (leftOf (opensOf z.up) T.n)
 let sp:=spcOf (opensOf y.up) T.n
 if 10≤y.up.length then .bad 11 else if 60≤y.c then .bad 6 else
  if staysB sp T.n T.s=true then .ok ⟨.nil,⟨sp,T.n,T.al,y.F⟩::y.up,y.c+1⟩ else .ok ⟨y.F.app (.one 1 sp T.n ⟨#[]⟩ T.al .nil),y.up,y.c+1⟩
def Zi.close (z:Zi) (n:ByteArray):Zi:=if 0<cutOf (nameIs n) (opensOf z.up) then z.to (cutOf (nameIs n) (opensOf z.up)-1) else z
def Zi.take (z:Zi) (T:Tk):Rs:=
 if T.k=1 then z.words T.t else if T.k=4 then z.add 3 0 ⟨#[]⟩ T.t [] else if T.k=2 then z.begin T else if T.k=3 then .ok (z.close T.n) else .ok z
noncomputable def runZ (s:ByteArray):Nat→Nat→Zi→Rs
 | 0,_,z=>.ok z
 | f+1,a,z=>if a<s.size then (match z.take (nextOf s a z.raw) with | .bad c=>.bad c | .ok y=>runZ s f (a+(nextOf s a z.raw).l) y) else .ok z
def Rs.fin:Rs→Fo × Int
 | .bad c=>(.nil,c)
 | .ok z=>(z.done,0)
noncomputable def builtOf (s:ByteArray):Fo × Int:=(runZ s s.size 0 ⟨.nil,[],0⟩).fin
theorem opensOf_len (up:List Fr):(opensOf up).length=up.length:=by simp[opensOf]
theorem opensOf_cons (x:Fr) (up:List Fr):opensOf (x::up)=opensOf up++[(x.n,x.sp)]:=by simp[opensOf]
theorem opensOf_drop (up:List Fr) (k:Nat) (hk:k≤up.length):opensOf (up.drop (up.length-k))=(opensOf up).take k:=by
 unfold opensOf
 rw[List.take_reverse,List.map_drop]
 simp[List.length_map]
theorem Zi.pop_up (z:Zi):z.pop.up=z.up.tail:=by
 obtain ⟨F,up,c⟩:=z
 cases up <;> rfl
theorem Zi.pop_c (z:Zi):z.pop.c=z.c:=by
 obtain ⟨F,up,c⟩:=z
 cases up <;> rfl
theorem Zi.pops_up:∀(k:Nat) (z:Zi),(z.pops k).up=z.up.drop k
 | 0,z=>rfl
 | k+1,z=>by rw[Zi.pops,Zi.pops_up k,Zi.pop_up];simp
theorem Zi.pops_c:∀(k:Nat) (z:Zi),(z.pops k).c=z.c
 | 0,z=>rfl
 | k+1,z=>by rw[Zi.pops,Zi.pops_c k,Zi.pop_c]
theorem Zi.to_up (z:Zi) (k:Nat) (hk:k≤z.up.length):opensOf (z.to k).up=(opensOf z.up).take k:=by
 rw[Zi.to,Zi.pops_up,opensOf_drop _ _ hk]
theorem Zi.to_len (z:Zi) (k:Nat) (hk:k≤z.up.length):(z.to k).up.length=k:=by
 rw[Zi.to,Zi.pops_up,List.length_drop];omega
theorem Zi.pops_add:∀(j k:Nat) (z:Zi),z.pops (j+k)=(z.pops j).pops k
 | 0,k,z=>by simp[Zi.pops]
 | j+1,k,z=>by rw[show j+1+k=(j+k)+1 by omega,Zi.pops,Zi.pops_add j k,Zi.pops]
theorem Zi.to_to (z:Zi) (j k:Nat) (hj:j≤k) (hk:k≤z.up.length):(z.to k).to j=z.to j:=by
 rw[Zi.to,Zi.to_len z k hk,Zi.to,Zi.to,←Zi.pops_add]
 congr 1;omega
theorem Zi.done_to (z:Zi) (k:Nat) (hk:k≤z.up.length):(z.to k).done=z.done:=by
 rw[Zi.done,Zi.to_to z 0 k (Nat.zero_le _) hk];rfl
theorem runZ_end (s:ByteArray) (f a:Nat) (z:Zi) (h:s.size≤a):runZ s f a z=.ok z:=by
 cases f with
 | zero=>rfl
 | succ f=>rw[runZ,if_neg (by omega)]
theorem runZ_bad {s:ByteArray} {f a:Nat} {z:Zi} {c:Int} (h:a<s.size) (ht:z.take (nextOf s a z.raw)=.bad c):runZ s (f+1) a z=.bad c:=by
 rw[runZ,if_pos h,ht]
theorem runZ_ok {s:ByteArray} {f a:Nat} {z y:Zi} (h:a<s.size) (ht:z.take (nextOf s a z.raw)=.ok y):runZ s (f+1) a z=runZ s f (a+(nextOf s a z.raw).l) y:=by
 rw[runZ,if_pos h,ht]
end Go.Proofs.YthdkkpbhijlpaaaGreatDoor
namespace Go.Proofs.YthdkkpbhijlpaaaGreatDoor
open Go.ChangeShapes Go.WideShapes Go.ChangeAt Go.RowKit Go.Deep
theorem rawEnd_at {s raw:ByteArray} {a:Nat} (ha:a<s.size) (h:¬a<rawEnd s raw a):rawHit s raw a=true:=by
 by_cases hh:rawHit s raw a=true
 ·exact hh
 ·have h1:rawHit s raw a=false:=by simpa using hh
  have h2:=rawEnd_miss ha h1
  have h3:=(rawEnd_le s raw (a+1) (by omega)).1
  omega
theorem run_exact {p:Int→Bool}:∀(l:List UInt8) (n:Nat) (hn:n<l.length),(∀i (h:i<n),p (l[i].toNat:Int)=true)→p (l[n].toNat:Int)=false→run p l=n
 | [],n,hn,_,_=>absurd hn (Nat.not_lt_zero _)
 | c::r,0,_,_,h0=>by
  have h0':p (c.toNat:Int)=false:=by simpa using h0
  simp[run,h0']
 | c::r,n+1,hn,h,h0=>by
  have hc:p (c.toNat:Int)=true:=by simpa using h 0 (by omega)
  have:=run_exact r n (by simpa using hn) (fun i hi=>by simpa using h (i+1) (by omega)) (by simpa using h0)
  simp only[run]at this
  simp[run,hc,this]
theorem raw_cases {raw:ByteArray} (h:inL rawL raw=true):∃l ∈ rawL,raw=⟨l.toArray⟩:=by
 simp only[inL,List.any_eq_true,beq_iff_eq]at h
 obtain ⟨l,hl,e⟩:=h
 exact ⟨l,hl,by rw[e,ByteArray.toList_eq]⟩
theorem low_letter (c:UInt8) (h:small ((lowU c).toNat:Int)=true):letB (c.toNat:Int)=true:=by
 rw[lowU_nat]at h
 unfold lowB at h
 unfold letB
 split at h
 ·rename_i hg;rw[hg];simp
 ·rw[h];simp
theorem letter_inName (c:Int) (h:letB c=true):inName c=true:=by
 simp only[letB,small,great,Bool.or_eq_true,Bool.and_eq_true,decide_eq_true_eq]at h
 simp only[inName,blankB,Bool.and_eq_true,Bool.not_eq_true',Bool.or_eq_false_iff,beq_eq_false_iff_ne,bne_iff_ne,ne_eq]
 omega
theorem endB_inName (c:Int) (h:endB c=true):inName c=false:=by
 simp only[endB,Bool.or_eq_true,beq_iff_eq]at h
 unfold inName
 rcases h with (h | h) | h
 ·simp[h]
 ·simp[h]
 ·simp[h]
theorem raw_small:∀l ∈ rawL,(∀c ∈ l,small (c.toNat:Int)=true)∧0<l.length:=by decide
theorem raw_named {raw:ByteArray} (h:inL rawL raw=true):namedB small tagB raw=true:=by
 obtain ⟨l,hl,rfl⟩:=raw_cases h
 simp only[rawL,List.mem_cons,List.not_mem_nil,or_false]at hl
 rcases hl with rfl | rfl | rfl | rfl <;> exact (namedB_true (by unfold Named AllTo;decide)).symm
theorem raw_rule {s raw:ByteArray} {a:Nat} (hr:inL rawL raw=true) (ha:a<s.size):
 (nextOf s a raw).k=1∨((nextOf s a raw).k=3∧(nextOf s a raw).n=raw)∨((nextOf s a raw).k=5∧s.size≤a+(nextOf s a raw).l):=by
 obtain ⟨l,hl,hrl⟩:=raw_cases hr
 have hz:raw.size=l.length:=by rw[hrl];simp[ByteArray.size]
 have ht:raw.toList=l:=by rw[ByteArray.toList_eq,hrl]
 obtain ⟨hsm,hpos⟩:=raw_small l hl
 unfold nextOf
 split
 ·exact Or.inl rfl
 ·rename_i hn
  have hh:=rawEnd_at ha (fun h=>hn ⟨by omega,h⟩)
  simp only[rawHit,Bool.and_eq_true,decide_eq_true_eq,beq_iff_eq]at hh
  obtain ⟨⟨⟨⟨h1,h2⟩,h3⟩,h4⟩,h5⟩:=hh
  have hlow:(s.extract (a+2) (a+2+raw.size)).data.toList.map lowU=l:=by
   rw[←ht,←h4,ByteArray.toList_eq];simp[lowX]
  have hsl:s.data.toList.length=s.size:=Array.length_toList
  have hext:(s.extract (a+2) (a+2+raw.size)).data.toList=(s.data.toList.drop (a+2)).take raw.size:=by
   rw[ByteArray.data_extract,Array.toList_extract,List.extract]
   simp
  rw[hext]at hlow
  have hb:∀i (h:i<raw.size),letB (((s.data.toList.drop (a+2))[i]'(by rw[List.length_drop];omega)).toNat:Int)=true:=by
   intro i hi
   apply low_letter
   apply hsm
   have hm:lowU ((s.data.toList.drop (a+2))[i]'(by rw[List.length_drop];omega)) ∈ ((s.data.toList.drop (a+2)).take raw.size).map lowU:=by
    refine List.mem_map.2 ⟨_,?_,rfl⟩
    rw[List.mem_take_iff_getElem]
    exact ⟨i,by rw[List.length_drop];omega,rfl⟩
   rw[hlow]at hm
   exact hm
  have hrun:runAt inName s (a+2)=raw.size:=by
   refine run_exact _ _ (by rw[List.length_drop];omega) (fun i hi=>letter_inName _ (hb i hi)) (endB_inName _ ?_)
   rw[byteAt_in h1]at h5
   rw[List.getElem_drop]
   exact h5
  have hname:nameOf s (a+2)=raw:=by
   rw[hrl,nameOf,hrun,hext,hlow]
  have hlet:letB (byteAt s (a+2))=true:=by
   rw[byteAt_in (by omega)]
   have:=hb 0 (by omega)
   rw[List.getElem_drop]at this
   exact this
  have hm:markTk s a=closeTk s a:=by
   unfold markTk
   rw[if_neg (by rw[h2];omega),h3,if_neg (by decide),if_pos ⟨rfl,hlet⟩]
  rw[hm,closeTk,hname,raw_named hr]
  split
  ·exact Or.inr (Or.inl ⟨rfl,rfl⟩)
  ·refine Or.inr (Or.inr ⟨rfl,?_⟩)
   show s.size≤a+(s.size-a)
   omega
theorem cutOf_top {l:List (ByteArray × Int)} (h0:0<l.length) (n:ByteArray) (hn:(topOf l).1=n):cutOf (nameIs n) l=l.length:=by
 rw[topOf_last h0]at hn
 unfold cutOf
 obtain ⟨k,hk⟩:∃k,l.length=k+1:=⟨l.length-1,by omega⟩
 rw[hk]
 refine cutTo_yes (by omega) ?_
 simp only[nameIs,beq_iff_eq]
 rw[←hn]
 simp only[hk,Nat.add_sub_cancel]
end Go.Proofs.YthdkkpbhijlpaaaGreatDoor
