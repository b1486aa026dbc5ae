import Derived.Test.YthdkkpbhijlpaaaGreatDoorProg
import Derived.WalkKit
import Derived.ProofKit
import Derived.Lib.Atoi
import Derived.Lib.ItoaNum
import Derived.Lib.Hide
import Derived.Below
import Derived.WalkSpells
import Derived.Lib.Bytealg
import Derived.Lib.IndexLaws
import Derived.Test.YthdkkpbhijlpaaaGreatDoorRows
import Derived.OpenShut
import Derived.ShutString
import Derived.BigQuiet
import Derived.Deep.QuietTactic
import Derived.Outline
import Derived.Laws.Concat
import Derived.Laws.RangeString
set_option linter.unusedVariables false
namespace Go.Proofs.YthdkkpbhijlpaaaGreatDoor
open Go.ChangeShapes Go.WideShapes Go.ChangeAt Go.RowKit
def dec3 (n:Nat):List UInt8:=
 if n<10 then [UInt8.ofNat (48+n)] else if n<100 then [UInt8.ofNat (48+n / 10),UInt8.ofNat (48+n%10)]
 else [UInt8.ofNat (48+n / 100),UInt8.ofNat (48+n / 10%10),UInt8.ofNat (48+n%10)]
theorem itoa_dec3 {n:Nat} (h:n<1000):Lib.itoa (n:Int)=dec3 n:=by
 rw[Lib.itoa,if_neg (by omega)]
 show Lib.decDigits n=dec3 n
 by_cases h1:n<10
 ·rw[Lib.decDigits_one h1,dec3,if_pos h1]
 ·by_cases h2:n<100
  ·rw[Lib.decDigits_two h1 h2,dec3,if_neg h1,if_pos h2]
  ·rw[Lib.decDigits,dif_neg h1,Lib.decDigits_two (by omega) (by omega),dec3,if_neg h1,if_neg h2]
   have:n / 10 / 10=n / 100:=by omega
   rw[this];rfl
def num3 (l:List UInt8):Option Nat:=((List.range 126).find? fun i=>dec3 (i+1)==l).map (· + 1)
theorem num3_some {l:List UInt8} {n:Nat} (h:num3 l=some n):1≤n∧n≤126∧l=dec3 n:=by
 unfold num3 at h
 rw[Option.map_eq_some_iff]at h
 obtain ⟨i,hi,rfl⟩:=h
 have h1:=List.find?_some hi
 have h2:=List.mem_range.1 (List.mem_of_find?_eq_some hi)
 have h3:dec3 (i+1)=l:=by simpa using h1
 exact ⟨by omega,by omega,h3.symm⟩
def valD (l:List UInt8):Nat:=l.foldl (fun a c=>a*10+(c.toNat-48)) 0
theorem valD_dec3:∀n:Fin 127,valD (dec3 n)=n:=by decide
theorem dec3_inj (a b:Fin 127) (h:dec3 a=dec3 b):a=b:=by
 apply Fin.ext
 rw[←valD_dec3 a,←valD_dec3 b,h]
theorem num3_dec3 {n:Nat} (h1:1≤n) (h2:n≤126):num3 (dec3 n)=some n:=by
 unfold num3
 cases e:(List.range 126).find? fun i=>dec3 (i+1)==dec3 n with
 | none=>
  rw[List.find?_eq_none]at e
  have:=e (n-1) (by simp;omega)
  rw[show n-1+1=n by omega]at this
  simp at this
 | some i=>
  have h3:=List.find?_some e
  have h4:=List.mem_range.1 (List.mem_of_find?_eq_some e)
  have h5:dec3 (i+1)=dec3 n:=by simpa using h3
  have:=dec3_inj ⟨i+1,by omega⟩ ⟨n,by omega⟩ h5
  simp at this
  simp[this]
theorem num3_none {l:List UInt8} (h:∀n,1≤n→n≤126→l≠dec3 n):num3 l=none:=by
 cases e:num3 l with
 | none=>rfl
 | some n=>
  obtain ⟨h1,h2,h3⟩:=num3_some e
  exact absurd h3 (h n h1 h2)
theorem dec3_form:∀n:Fin 127,1≤n.val→(dec3 n).all (fun c=>decide (48≤c.toNat∧c.toNat≤57))=true∧(dec3 n).head?≠some 48∧dec3 n≠[]:=by decide
def Dig (s:ByteArray) (k:Nat):Prop:=∀j (h:j<s.size),j<k→48≤(s[j]).toNat∧(s[j]).toNat≤57
def valT (s:ByteArray) (k:Nat):Nat:=valD (s.data.toList.take k)
theorem Dig.zero (s:ByteArray):Dig s 0:=fun _ _ h=>by omega
theorem Dig.succ {s:ByteArray} {k:Nat} (h:Dig s k) (hk:k<s.size) (h1:48≤(s[k]).toNat) (h2:(s[k]).toNat≤57):Dig s (k+1):=fun j hj h3=>by
 by_cases e:j=k
 ·subst e;exact ⟨h1,h2⟩
 ·exact h j hj (by omega)
theorem valT_succ {s:ByteArray} {k:Nat} (hk:k<s.size):valT s (k+1)=valT s k*10+((s[k]).toNat-48):=by
 unfold valT
 have e:s.data.toList.take (k+1)=s.data.toList.take k++[s[k]]:=List.take_succ_eq_append_getElem (by simpa using hk)
 rw[e,valD,List.foldl_append];rfl
theorem valT_lt {s:ByteArray}:∀{k:Nat},Dig s k→k≤s.size→valT s k+1≤10 ^ k
 | 0,_,_=>by simp[valT,valD]
 | k+1,h,hk=>by
  have ih:=valT_lt (k:=k) (fun j hj h1=>h j hj (by omega)) (by omega)
  have hd:=h k (by omega) (by omega)
  rw[valT_succ (by omega),Nat.pow_succ]
  omega
theorem byte_at {s:ByteArray} {i:Nat} (h:i<s.size):s.data.toList[i]?=some s[i]:=by
 rw[List.getElem?_eq_getElem (by simpa using h)];rfl
theorem num3_bad {s:ByteArray} (h:s.size=0∨(∃h:0<s.size,(s[0]).toNat=48)∨∃j,∃h:j<s.size,(s[j]).toNat<48∨57<(s[j]).toNat):num3 s.data.toList=none:=by
 refine num3_none fun n h1 h2 e=>?_
 obtain ⟨f1,f2,f3⟩:=dec3_form ⟨n,by omega⟩ h1
 simp only at f1 f2 f3
 rw[←e]at f1 f2 f3
 rcases h with h | ⟨h,h0⟩ | ⟨j,hj,hd⟩
 ·apply f3
  apply List.length_eq_zero_iff.1
  simpa using h
 ·apply f2
  rw[List.head?_eq_getElem?,byte_at h]
  congr 1
  exact UInt8.toNat_inj.1 h0
 ·have:=List.all_eq_true.1 f1 _ (List.mem_of_getElem? (byte_at hj))
  simp at this
  omega
theorem dec3_one {a:UInt8} (h:48≤a.toNat∧a.toNat≤57):[a]=dec3 (a.toNat-48):=by
 rw[dec3,if_pos (by omega)]
 congr 1
 apply UInt8.toNat_inj.1;simp;omega
theorem dec3_two {a b:UInt8} (h:49≤a.toNat∧a.toNat≤57) (h':48≤b.toNat∧b.toNat≤57):[a,b]=dec3 ((a.toNat-48)*10+(b.toNat-48)):=by
 rw[dec3,if_neg (by omega),if_pos (by omega)]
 congr 1
 ·apply UInt8.toNat_inj.1;simp;omega
 ·congr 1;apply UInt8.toNat_inj.1;simp;omega
theorem dec3_three {a b c:UInt8} (h:49≤a.toNat∧a.toNat≤57) (h':48≤b.toNat∧b.toNat≤57) (h'':48≤c.toNat∧c.toNat≤57):[a,b,c]=dec3 (((a.toNat-48)*10+(b.toNat-48))*10+(c.toNat-48)):=by
 rw[dec3,if_neg (by omega),if_neg (by omega)]
 congr 1
 ·apply UInt8.toNat_inj.1;simp;omega
 ·congr 1
  ·apply UInt8.toNat_inj.1;simp;omega
  ·congr 1;apply UInt8.toNat_inj.1;simp;omega
theorem num3_good {s:ByteArray} (hs:s.size≤3) (h0:0<s.size) (hf:s.size=1∨(s[0]).toNat≠48) (hd:Dig s s.size):s.data.toList=dec3 (valT s s.size):=by
 have hz:s.data.toList.length=s.size:=by simp
 have hv:valT s s.size=valD s.data.toList:=by unfold valT;rw[List.take_of_length_le (by omega)]
 rw[hv]
 have a0:=byte_at h0
 have d0:=hd 0 h0 h0
 rcases e:s.data.toList with _ | ⟨a,_ | ⟨b,_ | ⟨c,_ | ⟨_,_⟩⟩⟩⟩
 ·rw[e]at hz;simp at hz;omega
 ·rw[e]at a0;simp at a0;rw[←a0]at d0
  have ev:valD [a]=a.toNat-48:=by simp[valD]
  rw[ev];exact dec3_one d0
 ·rw[e]at a0 hz;simp at a0 hz
  have a1:=byte_at (s:=s) (i:=1) (by omega)
  have d1:=hd 1 (by omega) (by omega)
  rw[e]at a1;simp at a1
  rw[←a0]at d0 hf;rw[←a1]at d1
  have ev:valD [a,b]=(a.toNat-48)*10+(b.toNat-48):=by simp[valD]
  rw[ev];exact dec3_two ⟨by omega,d0.2⟩ d1
 ·rw[e]at a0 hz;simp at a0 hz
  have a1:=byte_at (s:=s) (i:=1) (by omega)
  have d1:=hd 1 (by omega) (by omega)
  have a2:=byte_at (s:=s) (i:=2) (by omega)
  have d2:=hd 2 (by omega) (by omega)
  rw[e]at a1 a2;simp at a1 a2
  rw[←a0]at d0 hf;rw[←a1]at d1;rw[←a2]at d2
  have ev:valD [a,b,c]=((a.toNat-48)*10+(b.toNat-48))*10+(c.toNat-48):=by simp[valD]
  rw[ev];exact dec3_three ⟨by omega,d0.2⟩ d1 d2
 ·rw[e]at hz;simp at hz;omega
def NumPost (s:ByteArray) (w:World) (e:Ending) (w':World):Prop:=∃(z:Int) (b:Bool),e=.returned (.tuple #[.int .i64 z,.bool b]) ∧
 ((b=true∧1≤z∧z≤126∧num3 s.data.toList=some z.toNat)∨((b=false∨z<1∨126<z)∧num3 s.data.toList=none))∧w=w'
theorem numPost_good {s:ByteArray} (hs:s.size≤3) (h0:0<s.size) (hf:s.size=1∨(s[0]).toNat≠48) (hd:Dig s s.size) (w:World):NumPost s w (.returned (.tuple #[.int .i64 (valT s s.size:Int),.bool true])) w:=by
 have hg:=num3_good hs h0 hf hd
 refine ⟨_,_,rfl,?_,rfl⟩
 by_cases h:1≤valT s s.size∧valT s s.size≤126
 ·exact Or.inl ⟨rfl,by omega,by omega,by rw[hg,num3_dec3 h.1 h.2];rfl⟩
 ·refine Or.inr ⟨by omega,num3_none fun n h1 h2 e=>?_⟩
  have:=valD_dec3 ⟨n,by omega⟩
  simp only at this
  rw[←e]at this
  have hv:valT s s.size=valD s.data.toList:=by unfold valT;rw[List.take_of_length_le (by simp)]
  omega
theorem numPost_none {s:ByteArray} {z:Int} {b:Bool} (h:b=false∨z<1∨126<z) (hn:num3 s.data.toList=none) (w:World):NumPost s w (.returned (.tuple #[.int .i64 z,.bool b])) w:=⟨z,b,rfl,Or.inr ⟨h,hn⟩,rfl⟩
set_option maxHeartbeats 4000000 in
theorem l00Number_any (s:ByteArray) (hs:s.size≤3) (w:World):Calls Tryz.prog 265 #[.string s] w (NumPost s w):=by
 by_cases h0:s.size=0
 ·have HB:=Lib.hid (num3_bad (Or.inl h0))
  have h0a:((s.size:Int)==0)=true:=by simp[h0]
  have h0b:decide ((0:Int)<(s.size:Int))=false:=by simp[h0]
  clear h0
  go_enter Tryz.func265,Tryz.ntmps265
  go_wp2
  go_ret2
  exact numPost_none (Or.inl rfl) HB.out w
 ·have hpos:0<s.size:=by omega
  have hpos':(0:Int)<(s.size:Int):=by omega
  have h0a:((s.size:Int)==0)=false:=beq_eq_false_iff_ne.2 (by omega)
  have h18:decide ((18:Int)<(s.size:Int))=false:=by simp;omega
  by_cases h45:((s[0].toNat:Int)==45)=true
  ·have HB:=Lib.hid (num3_bad (Or.inr (Or.inr ⟨0,hpos,Or.inl (by have:(s[0].toNat:Int)=45:=by simpa using h45
                                                                 omega)⟩)):num3 s.data.toList=none)
   have hx:∀w,(Instr.slice 9 (.string s) (some (.int .i64 1)) none none).run Tryz.prog w=.ok (.string (s.extract 1 s.size)) w:=fun w=>by
    rw[run_slice_string_from_if w 9 s .i64 _ Tryz.underlying9,if_pos (by omega)]
    rfl
   have hT:(s.extract 1 s.size).size+1=s.size:=by rw[ByteArray.size_extract];omega
   generalize s.extract 1 s.size=T at hx hT
   have hT2:T.size≤2:=by omega
   have HT:=Lib.hid hT
   clear hT
   have h18T:decide ((18:Int)<(T.size:Int))=false:=by simp;omega
   by_cases hT0:T.size=0
   ·have hTa:((T.size:Int)==0)=true:=by simp[hT0]
    clear hT0
    go_enter Tryz.func265,Tryz.ntmps265
    go_wp2
    go_ret2
    exact numPost_none (Or.inl rfl) HB.out w
   ·have hTp:0<T.size:=by omega
    have hTp':(0:Int)<(T.size:Int):=by omega
    have hTa:((T.size:Int)==0)=false:=beq_eq_false_iff_ne.2 (by omega)
    clear hT0
    by_cases h48:((T[0].toNat:Int)==48)=true
    ·by_cases h1:(1:Int)<(T.size:Int)
     ·go_enter Tryz.func265,Tryz.ntmps265
      go_wp2
      go_ret2
      exact numPost_none (Or.inl rfl) HB.out w
     ·have h1':decide ((1:Int)<(T.size:Int))=false:=by simpa using h1
      clear h1
      go_enter Tryz.func265,Tryz.ntmps265
      go_wp2
      go_ret2
      exact numPost_none (Or.inl rfl) HB.out w
    ·have h48':((T[0].toNat:Int)==48)=false:=by simpa using h48
     clear h48
     go_enter Tryz.func265,Tryz.ntmps265
     go_wp2
     go_loop [5,6] (fun n i=>∃k:Nat,k≤T.size∧i=.int .i64 k∧n=.int .i64 (valT T k:Int)∧Dig T k) (fun _ i=>T.size-(intOf i).toNat)
     case atStart=>exact ⟨0,Nat.zero_le _,rfl,rfl,Dig.zero T⟩
     case round=>
      obtain ⟨k,hk,rfl,rfl,hd⟩:=hrel
      have HD:=Lib.hid hd
      have hv:=valT_lt hd hk
      have hp10:10 ^ k≤1000:=by
       have:k≤3:=by omega
       calc 10 ^ k≤10 ^ 3:=Nat.pow_le_pow_right (by omega) this
        _=1000:=rfl
      clear hd
      have hv2:valT T k≤999:=by omega
      clear hv hp10
      by_cases hlt:k<T.size
      ·have hbl:=(T[k]).toNat_lt
       by_cases hlo:(T[k].toNat:Int)<48
       ·skip
        go_wp2
        go_ret2
        exact numPost_none (Or.inl rfl) HB.out w
       ·by_cases hhi:(57:Int)<(T[k].toNat:Int)
        ·have hlo':decide ((T[k].toNat:Int)<48)=false:=by simpa using hlo
         go_wp2
         go_ret2
         exact numPost_none (Or.inl rfl) HB.out w
        ·have hlo':decide ((T[k].toNat:Int)<48)=false:=by simpa using hlo
         have hs1:=valT_succ hlt
         have HS:=Lib.hid (show (valT T k:Int)*10+(T[k].toNat:Int)-48=(valT T (k+1):Int) by omega)
         clear hs1
         have hlo2:48≤(T[k].toNat:Int):=by omega
         have hhi2:(T[k].toNat:Int)≤57:=by omega
         clear hlo hhi hbl
         go_wp2
         go_round
         case rel=>exact ⟨k+1,by omega,by go_num,by rw[HS.out],HD.out.succ hlt (by omega) (by omega)⟩
         case measure=>simp[intOf];omega
      ·obtain rfl:k=T.size:=by omega
       go_wp2
       go_ret2
       exact numPost_none (Or.inr (Or.inl (by omega))) HB.out w
  ·have h45':((s[0].toNat:Int)==45)=false:=by simpa using h45
   clear h45
   by_cases h48:((s[0].toNat:Int)==48)=true∧1<s.size
   ·have HB:=Lib.hid (num3_bad (Or.inr (Or.inl ⟨hpos,by have:=h48.1;simp at this;omega⟩)):num3 s.data.toList=none)
    obtain ⟨h48a,h48b⟩:=h48
    have h1:(1:Int)<(s.size:Int):=by omega
    go_enter Tryz.func265,Tryz.ntmps265
    go_wp2
    go_ret2
    exact numPost_none (Or.inl rfl) HB.out w
   ·have HF:=Lib.hid (show s.size=1∨(s[0]).toNat≠48 by
     by_cases e:s.size=1
     ·exact Or.inl e
     ·refine Or.inr fun e2=>h48 ⟨by simp[e2],by omega⟩)
    have hg:((s[0].toNat:Int)==48)=false∨(((s[0].toNat:Int)==48)=true∧decide ((1:Int)<(s.size:Int))=false):=by
     by_cases e:((s[0].toNat:Int)==48)=true
     ·exact Or.inr ⟨e,by simp;have:¬1<s.size:=fun h=>h48 ⟨e,h⟩;omega⟩
     ·exact Or.inl (by simpa using e)
    clear h48
    rcases hg with hg | ⟨hg,hg2⟩
    all_goals
     go_enter Tryz.func265,Tryz.ntmps265
     go_wp2
     go_loop [5,6] (fun n i=>∃k:Nat,k≤s.size∧i=.int .i64 k∧n=.int .i64 (valT s k:Int)∧Dig s k) (fun _ i=>s.size-(intOf i).toNat)
     case atStart=>exact ⟨0,Nat.zero_le _,rfl,rfl,Dig.zero s⟩
     case round=>
      obtain ⟨k,hk,rfl,rfl,hd⟩:=hrel
      have HD:=Lib.hid hd
      have hv:=valT_lt hd hk
      have hp10:10 ^ k≤1000:=by
       have:k≤3:=by omega
       calc 10 ^ k≤10 ^ 3:=Nat.pow_le_pow_right (by omega) this
        _=1000:=rfl
      clear hd
      have hv2:valT s k≤999:=by omega
      clear hv hp10
      by_cases hlt:k<s.size
      ·have hbl:=(s[k]).toNat_lt
       by_cases hlo:(s[k].toNat:Int)<48
       ·have HB:=Lib.hid (num3_bad (Or.inr (Or.inr ⟨k,hlt,Or.inl (by omega)⟩)):num3 s.data.toList=none)
        go_wp2
        go_ret2
        exact numPost_none (Or.inl rfl) HB.out w
       ·by_cases hhi:(57:Int)<(s[k].toNat:Int)
        ·have hlo':decide ((s[k].toNat:Int)<48)=false:=by simpa using hlo
         have HB:=Lib.hid (num3_bad (Or.inr (Or.inr ⟨k,hlt,Or.inr (by omega)⟩)):num3 s.data.toList=none)
         go_wp2
         go_ret2
         exact numPost_none (Or.inl rfl) HB.out w
        ·have hlo':decide ((s[k].toNat:Int)<48)=false:=by simpa using hlo
         have hs1:=valT_succ hlt
         have HS:=Lib.hid (show (valT s k:Int)*10+(s[k].toNat:Int)-48=(valT s (k+1):Int) by omega)
         clear hs1
         have hlo2:48≤(s[k].toNat:Int):=by omega
         have hhi2:(s[k].toNat:Int)≤57:=by omega
         clear hlo hhi hbl
         go_wp2
         go_round
         case rel=>exact ⟨k+1,by omega,by go_num,by rw[HS.out],HD.out.succ hlt (by omega) (by omega)⟩
         case measure=>simp[intOf];omega
      ·obtain rfl:k=s.size:=by omega
       go_wp2
       go_ret2
       exact numPost_good hs hpos HF.out HD.out w
end Go.Proofs.YthdkkpbhijlpaaaGreatDoor
namespace Go.Proofs.YthdkkpbhijlpaaaGreatDoor
open Go.ChangeShapes Go.WideShapes Go.ChangeAt Go.RowKit
def ampL:List UInt8:=[38,97,109,112,59]
def ltL:List UInt8:=[38,108,116,59]
def gtL:List UInt8:=[38,103,116,59]
def quotL:List UInt8:=[38,113,117,111,116,59]
def told (l:List UInt8):List UInt8:=(l.take 6).take (Lib.indexByte (l.take 6) 59+1).toNat
def numbered:List UInt8→Option Nat
 | a::b::r=>if a=38∧b=35∧r.getLast?=some 59 then num3 r.dropLast else none
 | _=>none
def meaning (t:List UInt8):Option UInt8:=
 if t=ampL then some 38 else if t=ltL then some 60 else if t=gtL then some 62 else if t=quotL then some 34 else (numbered t).map UInt8.ofNat
def oneAt (l:List UInt8):Option (UInt8 × Nat):=(meaning (told l)).map fun b=>(b,(told l).length)
theorem told_prefix (l:List UInt8):told l <+: l:=(List.take_prefix _ _).trans (List.take_prefix _ _)
theorem told_le (l:List UInt8):(told l).length≤6:=by
 unfold told
 rw[List.length_take,List.length_take];omega
theorem take_get {l:List UInt8} {i:Nat} (h:i<6):(l.take 6)[i]?=l[i]?:=by rw[List.getElem?_take];simp[h]
theorem told_at {l:List UInt8} {p:Nat} (hp:p<6) (h:l[p]?=some 59) (hn:∀i,i<p→l[i]?≠some 59):told l=l.take (p+1):=by
 have hi:Lib.indexByte (l.take 6) 59=p:=by
  have hg:=Lib.indexByte_ge (l.take 6) 59
  by_cases e:Lib.indexByte (l.take 6) 59 = -1
  ·exact absurd (by rw[take_get hp];exact h) (Lib.indexByte_none e p)
  ·obtain ⟨o,ho⟩:=Int.eq_ofNat_of_zero_le (show 0≤Lib.indexByte (l.take 6) 59 by omega)
   obtain ⟨h1,h2⟩:=Lib.indexByte_some ho
   rw[ho]
   congr 1
   by_cases hlt:o<p
   ·rw[take_get (by omega)]at h1
    exact absurd h1 (hn o hlt)
   ·by_cases hgt:p<o
    ·exact absurd (by rw[take_get hp];exact h) (h2 p hgt)
    ·omega
 unfold told
 rw[hi,List.take_take]
 congr 1
 omega
theorem told_none {l:List UInt8} (hn:∀i,i<6→l[i]?≠some 59):told l=[]:=by
 have hi:Lib.indexByte (l.take 6) 59 = -1:=by
  have hg:=Lib.indexByte_ge (l.take 6) 59
  by_cases e:Lib.indexByte (l.take 6) 59 = -1
  ·exact e
  ·obtain ⟨o,ho⟩:=Int.eq_ofNat_of_zero_le (show 0≤Lib.indexByte (l.take 6) 59 by omega)
   obtain ⟨h1,_⟩:=Lib.indexByte_some ho
   by_cases h6:o<6
   ·rw[take_get h6]at h1
    exact absurd h1 (hn o h6)
   ·rw[List.getElem?_take]at h1
    simp at h1;omega
 unfold told
 rw[hi];rfl
theorem told_amp (r:List UInt8):told (ampL++r)=ampL:=told_at (p:=4) (by omega) rfl (fun i hi=>by match i,hi with | 0,_=>simp[ampL] | 1,_=>simp[ampL] | 2,_=>simp[ampL] | 3,_=>simp[ampL])
theorem told_lt (r:List UInt8):told (ltL++r)=ltL:=told_at (p:=3) (by omega) rfl (fun i hi=>by match i,hi with | 0,_=>simp[ltL] | 1,_=>simp[ltL] | 2,_=>simp[ltL])
theorem told_gt (r:List UInt8):told (gtL++r)=gtL:=told_at (p:=3) (by omega) rfl (fun i hi=>by match i,hi with | 0,_=>simp[gtL] | 1,_=>simp[gtL] | 2,_=>simp[gtL])
theorem told_quot (r:List UInt8):told (quotL++r)=quotL:=told_at (p:=5) (by omega) rfl (fun i hi=>by match i,hi with | 0,_=>simp[quotL] | 1,_=>simp[quotL] | 2,_=>simp[quotL] | 3,_=>simp[quotL] | 4,_=>simp[quotL])
def nmL:List (List UInt8):=[ampL,ltL,gtL,quotL]
def nmB:List UInt8:=[38,60,62,34]
theorem nm_told {k:Nat} (hk:k<nmL.length) (l:List UInt8) (h:nmL[k] <+: l):told l=nmL[k]:=by
 obtain ⟨r,rfl⟩:=h
 match k,hk with
 | 0,_=>exact told_amp r
 | 1,_=>exact told_lt r
 | 2,_=>exact told_gt r
 | 3,_=>exact told_quot r
theorem nm_meaning:∀k:Fin 4,meaning (nmL[k])=some (nmB[k]):=by decide
theorem one_named {k:Nat} (hk:k<nmL.length) {l:List UInt8} (h:nmL[k] <+: l):oneAt l=some (nmB[k]'hk,nmL[k].length):=by
 unfold oneAt
 rw[nm_told hk l h]
 have e:meaning nmL[k]=some (nmB[k]'hk):=nm_meaning ⟨k,hk⟩
 rw[e];rfl
def NoName (l:List UInt8) (k:Nat):Prop:=∀j (h:j<nmL.length),j<k→¬nmL[j] <+: l
theorem NoName.zero (l:List UInt8):NoName l 0:=fun _ _ h=>by omega
theorem NoName.succ {l:List UInt8} {k:Nat} (h:NoName l k) (hk:k<nmL.length) (hn:¬nmL[k] <+: l):NoName l (k+1):=fun j hj h1=>by
 by_cases e:j=k
 ·subst e;exact hn
 ·exact h j hj (by omega)
theorem one_number {l:List UInt8} (h:NoName l 4):oneAt l=(numbered (told l)).map fun n=>(UInt8.ofNat n,(told l).length):=by
 have hp:=told_prefix l
 have e0:told l≠ampL:=fun e=>h 0 (by decide) (by omega) (by rw[e]at hp;exact hp)
 have e1:told l≠ltL:=fun e=>h 1 (by decide) (by omega) (by rw[e]at hp;exact hp)
 have e2:told l≠gtL:=fun e=>h 2 (by decide) (by omega) (by rw[e]at hp;exact hp)
 have e3:told l≠quotL:=fun e=>h 3 (by decide) (by omega) (by rw[e]at hp;exact hp)
 rw[oneAt,meaning,if_neg e0,if_neg e1,if_neg e2,if_neg e3]
 cases numbered (told l) <;> rfl
theorem numbered_short {t:List UInt8} (h:t.length≤3):numbered t=none:=by
 match t,h with
 | [],_=>rfl
 | [_],_=>rfl
 | [_,_],_=>simp[numbered]
 | [a,b,c],_=>
  show (if a=38∧b=35∧[c].getLast?=some 59 then num3 [c].dropLast else none)=none
  split
  ·have e:num3 []=none:=by decide
   exact e
  ·rfl
theorem one_short {l:List UInt8} (h:NoName l 4) (hl:l.length≤3):oneAt l=none:=by
 rw[one_number h,numbered_short (Nat.le_trans (told_prefix l).length_le hl)];rfl
theorem one_noHash {l:List UInt8} (h:NoName l 4) (hl:l[1]?≠some 35):oneAt l=none:=by
 rw[one_number h]
 have hp:=told_prefix l
 rcases e:told l with _ | ⟨a,_ | ⟨b,r⟩⟩
 ·rfl
 ·rfl
 ·have:b≠35:=fun eb=>hl (by
   obtain ⟨t,ht⟩:=hp
   rw[e]at ht
   rw[←ht,←eb];rfl)
  simp[numbered,this]
theorem one_noEnd {l:List UInt8} (h:NoName l 4) (hn:∀i,i<6→l[i]?≠some 59):oneAt l=none:=by
 rw[one_number h,told_none hn];rfl
theorem one_digits {a b:UInt8} {d r:List UInt8} (h:NoName (a::b::(d++59::r)) 4) (ha:a=38) (hb:b=35) (hd:d.length≤3) (hn:∀c ∈ d,c≠59):
 oneAt (a::b::(d++59::r))=(num3 d).map fun n=>(UInt8.ofNat n,d.length+3):=by
 subst ha hb
 have ht:told (38::35::(d++59::r))=38::35::(d++[59]):=by
  rw[told_at (p:=d.length+2) (by omega)]
  ·simp[List.take_append,List.take_of_length_le (Nat.le_succ d.length)]
  ·simp
  ·intro i hi
   match i,hi with
   | 0,_=>simp
   | 1,_=>simp
   | j+2,hj=>
    have hjd:j<d.length:=by omega
    simp only[List.getElem?_cons_succ]
    rw[List.getElem?_append_left hjd,List.getElem?_eq_getElem hjd]
    intro e
    exact hn _ (List.getElem_mem hjd) (Option.some.inj e)
 rw[one_number h,ht]
 have:numbered (38::35::(d++[59]))=num3 d:=by simp[numbered]
 rw[this]
 congr 1
 funext n
 simp
theorem one_len {l:List UInt8} {b:UInt8} {n:Nat} (h:oneAt l=some (b,n)):1≤n∧n≤l.length∧n=(told l).length∧meaning (told l)=some b:=by
 unfold oneAt at h
 rw[Option.map_eq_some_iff]at h
 obtain ⟨x,hx,he⟩:=h
 injection he with h1 h2
 subst h1 h2
 refine ⟨?_,(told_prefix l).length_le,rfl,hx⟩
 rcases e:told l with _ | ⟨a,r⟩
 ·rw[e]at hx
  have:meaning []=none:=by decide
  rw[this]at hx;cases hx
 ·simp
end Go.Proofs.YthdkkpbhijlpaaaGreatDoor
namespace Go.Proofs.YthdkkpbhijlpaaaGreatDoor
open Go.ChangeShapes Go.WideShapes Go.ChangeAt Go.RowKit
def small (c:Int):Bool:=decide (97≤c)&&decide (c≤122)
def great (c:Int):Bool:=decide (65≤c)&&decide (c≤90)
def digit (c:Int):Bool:=decide (48≤c)&&decide (c≤57)
def lowB (c:Int):Int:=if great c then c+32 else c
def tagB (c:Int):Bool:=small c||digit c||c==45
theorem ret_bool {a b:Bool} (h:a=b):Ending.returned (.bool a)=.returned (.bool b):=by rw[h]
theorem ret_int {k:IntKind} {a b:Int} (h:a=b):Ending.returned (.int k a)=.returned (.int k b):=by rw[h]
theorem isSmall_any (c:Int) (w:World):
 Calls Tryz.prog 201 #[.int .u8 c] w fun e w'=>e=.returned (.bool (small c))∧w=w':=by
 go_enter Tryz.func201,Tryz.ntmps201
 go_wp2
 all_goals (go_ret;exact ⟨ret_bool (by rw[Bool.eq_iff_iff];simp[small] <;> omega),rfl⟩)
theorem isGreat_any (c:Int) (w:World):
 Calls Tryz.prog 221 #[.int .u8 c] w fun e w'=>e=.returned (.bool (great c))∧w=w':=by
 go_enter Tryz.func221,Tryz.ntmps221
 go_wp2
 all_goals (go_ret;exact ⟨ret_bool (by rw[Bool.eq_iff_iff];simp[great] <;> omega),rfl⟩)
theorem l00Digit_any (c:Int) (w:World):
 Calls Tryz.prog 185 #[.int .u8 c] w fun e w'=>e=.returned (.bool (digit c))∧w=w':=by
 go_enter Tryz.func185,Tryz.ntmps185
 go_wp2
 all_goals (go_ret;exact ⟨ret_bool (by rw[Bool.eq_iff_iff];simp[digit] <;> omega),rfl⟩)
theorem followsInTag_any (c:Int) (w:World):
 Calls Tryz.prog 202 #[.int .u8 c] w fun e w'=>e=.returned (.bool (tagB c))∧w=w':=by
 go_enter Tryz.func202,Tryz.ntmps202
 go_wp2
 all_goals (go_ret;exact ⟨ret_bool (by rw[Bool.eq_iff_iff];simp[tagB,small,digit] <;> omega),rfl⟩)
theorem l01In_any (n a b:Int) (w:World):
 Calls Tryz.prog 32 #[.int .i64 n,.int .i64 a,.int .i64 b] w fun e w'=>e=.returned (.bool (decide (a≤n)&&decide (n≤b)))∧w=w':=by
 go_enter Tryz.func32,Tryz.ntmps32
 go_wp2
 all_goals (go_ret;exact ⟨ret_bool (by rw[Bool.eq_iff_iff];simp <;> omega),rfl⟩)
theorem isSpace_any (n:Int) (w:World):
 Calls Tryz.prog 162 #[.int .i64 n] w fun e w'=>e=.returned (.bool (decide (0≤n)&&decide (n≤2)))∧w=w':=by
 go_enter Tryz.func162,Tryz.ntmps162
 go_wp2
 all_goals (go_ret;exact ⟨ret_bool (by rw[Bool.eq_iff_iff];simp <;> omega),rfl⟩)
theorem lowerByte_any (c:Int) (h0:0≤c) (h1:c≤255) (w:World):
 Calls Tryz.prog 255 #[.int .u8 c] w fun e w'=>e=.returned (.int .u8 (lowB c))∧w=w':=by
 by_cases hg:65≤c∧c≤90
 ·obtain ⟨g0,g1⟩:=hg
  go_enter Tryz.func255,Tryz.ntmps255
  go_wp2
  all_goals (go_ret;exact ⟨ret_int (by simp[lowB,great,g0,g1] <;> omega),rfl⟩)
 ·go_enter Tryz.func255,Tryz.ntmps255
  go_wp2
  all_goals (go_ret;exact ⟨ret_int (by rw[lowB,if_neg (by simp[great] <;> omega)]),rfl⟩)
end Go.Proofs.YthdkkpbhijlpaaaGreatDoor
namespace Go.Proofs.YthdkkpbhijlpaaaGreatDoor
open Go.ChangeShapes Go.WideShapes Go.ChangeAt Go.RowKit
def escT (c:UInt8):List UInt8:=if c=38 then [38,97,109,112,59] else if c=60 then [38,108,116,59] else if c=62 then [38,103,116,59] else [c]
def escV (c:UInt8):List UInt8:=if c=34 then [38,113,117,111,116,59] else escT c
def escL (f:UInt8→List UInt8) (l:List UInt8):List UInt8:=l.flatMap f
theorem escT_len (c:UInt8):(escT c).length≤6:=by unfold escT;repeat' split
                                                 all_goals simp
theorem escV_len (c:UInt8):(escV c).length≤6:=by
 unfold escV;split
 ·simp
 ·exact escT_len c
theorem escL_len {f:UInt8→List UInt8} (hf:∀c,(f c).length≤6):∀l:List UInt8,(escL f l).length≤6*l.length
 | []=>by simp[escL]
 | c::r=>by
  have h1:=escL_len hf r
  have h2:=hf c
  have e:(escL f (c::r)).length=(f c).length+(escL f r).length:=by simp[escL]
  rw[e];simp only[List.length_cons];omega
theorem escL_append (f:UInt8→List UInt8) (a b:List UInt8):escL f (a++b)=escL f a++escL f b:=by simp[escL]
theorem escL_snoc (f:UInt8→List UInt8) (s:ByteArray) (k:Nat) (h:k<s.size):escL f (s.data.toList.take (k+1))=escL f (s.data.toList.take k)++f s[k]:=by
 rw[List.take_succ_eq_append_getElem (by simpa using h),escL_append]
 congr 1
 simp[escL];rfl
def escS (f:UInt8→List UInt8) (s:ByteArray) (k:Nat):ByteArray:=⟨(escL f (s.data.toList.take k)).toArray⟩
theorem escS_size {f:UInt8→List UInt8} (hf:∀c,(f c).length≤6) (s:ByteArray) (k:Nat):(escS f s k).size≤6*k:=by
 show (escL f (s.data.toList.take k)).toArray.size≤_
 have h1:=escL_len hf (s.data.toList.take k)
 have h2:(s.data.toList.take k).length≤k:=List.length_take_le _ _
 rw[List.size_toArray];omega
theorem escS_snoc (f:UInt8→List UInt8) (s:ByteArray) (k:Nat) (h:k<s.size) (l:List UInt8) (hl:f s[k]=l):escS f s k++⟨l.toArray⟩=escS f s (k+1):=by
 unfold escS
 rw[ByteArray.mk_append_mk,escL_snoc f s k h,hl]
theorem escS_zero (f:UInt8→List UInt8) (s:ByteArray):escS f s 0=⟨#[]⟩:=by simp[escS,escL]
theorem extract_one (s:ByteArray) (k:Nat) (h:k<s.size):s.extract k (k+1)=⟨[s[k]].toArray⟩:=by
 have e:(s.extract k (k+1)).data=#[s[k]]:=by
  rw[ByteArray.data_extract]
  apply Array.ext
  ·simp;omega
  ·intro i h1 h2
   simp at h2
   subst h2
   simp;rfl
 cases hs:s.extract k (k+1)
 rw[hs]at e
 simp at e
 rw[e]
theorem byte_of_int {c:UInt8} {n:Nat} (hn:n<256) (h:((c.toNat:Int)==(n:Int))=true):c=UInt8.ofNat n:=by
 have h':(c.toNat:Int)=n:=by simpa using h
 apply UInt8.toNat_inj.1
 simp;omega
theorem byte_ne_int {c:UInt8} {n:Nat} (hn:n<256) (h:((c.toNat:Int)==(n:Int))=false):¬c=UInt8.ofNat n:=by
 rintro rfl
 have:(UInt8.ofNat n).toNat=n:=by simp;omega
 rw[this]at h
 simp at h
theorem escT_same {c:UInt8} (h1:((c.toNat:Int)==38)=false) (h2:((c.toNat:Int)==60)=false) (h3:((c.toNat:Int)==62)=false):escT c=[c]:=by
 have e1:¬c=38:=byte_ne_int (n:=38) (by omega) h1
 have e2:¬c=60:=byte_ne_int (n:=60) (by omega) h2
 have e3:¬c=62:=byte_ne_int (n:=62) (by omega) h3
 rw[escT,if_neg e1,if_neg e2,if_neg e3]
theorem run_add {f:UInt8→List UInt8} (hf:∀c,(f c).length≤6) (s:ByteArray) (hs:s.size≤65536) (k:Nat) (h:k<s.size) (l:List UInt8) (hl:f s[k]=l) (w:World):(Op.stringOp .add (escS f s k) ⟨l.toArray⟩).run Tryz.prog w=.ok (.string (escS f s (k+1))) w:=by
 have h1:=escS_size hf s k
 have h2:=hf s[k]
 rw[hl]at h2
 rw[run_string_add_sum w _ _ (by show _+l.toArray.size≤_;rw[List.size_toArray];omega),escS_snoc f s k h l hl]
theorem cut_at (s:ByteArray) (i j:Nat) (hij:i≤j) (hj:j≤s.size) (x y:Int) (hx:x=i) (hy:y=j) (w:World):
 (Instr.slice 9 (.string s) (some (.int .i64 x)) (some (.int .i64 y)) none).run Tryz.prog w=.ok (.string (s.extract i j)) w:=by
 subst hx hy
 rw[run_slice_string_if w 9 s .i64 .i64 _ _ Tryz.underlying9,if_pos (by omega),if_pos (by omega)]
 simp
set_option maxHeartbeats 1000000 in
theorem l02Text_any (s:ByteArray) (w:World) (hs:s.size≤65536):
 Calls Tryz.prog 77 #[.string s] w fun e w'=>e=.returned (.string (escS escT s s.size))∧w=w':=by
 go_enter Tryz.func77,Tryz.ntmps77
 go_wp2
 go_loop [3,4] (fun r i=>∃k:Nat,k≤s.size∧i=.int .i64 k∧r=.string (escS escT s k)) (fun _ i=>s.size-(intOf i).toNat)
 case atStart=>exact ⟨0,Nat.zero_le _,rfl,by rw[escS_zero]⟩
 case round=>
  obtain ⟨k,hk,rfl,rfl⟩:=hrel
  by_cases hlt:k<s.size
  ·have hz:=escS_size escT_len s k
   by_cases h1:((s[k].toNat:Int)==38)=true
   ·have ha:∀w,(Op.stringOp .add (escS escT s k) ⟨#[38,97,109,112,59]⟩).run Tryz.prog w=.ok (.string (escS escT s (k+1))) w:=run_add escT_len s hs k hlt [38,97,109,112,59] (by rw[byte_of_int (n:=38) (by omega) h1];rfl)
    go_wp2
    go_round
    case rel=>exact ⟨k+1,by omega,by go_num,rfl⟩
    case measure=>simp[intOf];omega
   ·have h1':((s[k].toNat:Int)==38)=false:=by simpa using h1
    clear h1
    by_cases h2:((s[k].toNat:Int)==60)=true
    ·have ha:∀w,(Op.stringOp .add (escS escT s k) ⟨#[38,108,116,59]⟩).run Tryz.prog w=.ok (.string (escS escT s (k+1))) w:=run_add escT_len s hs k hlt [38,108,116,59] (by rw[byte_of_int (n:=60) (by omega) h2];rfl)
     go_wp2
     go_round
     case rel=>exact ⟨k+1,by omega,by go_num,rfl⟩
     case measure=>simp[intOf];omega
    ·have h2':((s[k].toNat:Int)==60)=false:=by simpa using h2
     clear h2
     by_cases h3:((s[k].toNat:Int)==62)=true
     ·have ha:∀w,(Op.stringOp .add (escS escT s k) ⟨#[38,103,116,59]⟩).run Tryz.prog w=.ok (.string (escS escT s (k+1))) w:=run_add escT_len s hs k hlt [38,103,116,59] (by rw[byte_of_int (n:=62) (by omega) h3];rfl)
      go_wp2
      go_round
      case rel=>exact ⟨k+1,by omega,by go_num,rfl⟩
      case measure=>simp[intOf];omega
     ·have h3':((s[k].toNat:Int)==62)=false:=by simpa using h3
      clear h3
      have hx:=cut_at s k (k+1) (by omega) (by omega) k (k+1) rfl (by omega)
      have ha:∀w,(Op.stringOp .add (escS escT s k) (s.extract k (k+1))).run Tryz.prog w=.ok (.string (escS escT s (k+1))) w:=by
       rw[extract_one s k hlt]
       exact run_add escT_len s hs k hlt [s[k]] (escT_same h1' h2' h3')
      go_wp2
      go_round
      case rel=>exact ⟨k+1,by omega,by go_num,rfl⟩
      case measure=>simp[intOf];omega
  ·obtain rfl:k=s.size:=by omega
   go_wp2
   go_ret
   exact ⟨rfl,rfl⟩
theorem escS_all (f:UInt8→List UInt8) (s:ByteArray):escS f s s.size=⟨(escL f s.data.toList).toArray⟩:=by
 rw[escS,List.take_of_length_le (by simp)]
theorem l02Text_cut (s:ByteArray) (k:Nat) (h:k<s.size) (w:World):
 Calls Tryz.prog 77 #[.string (s.extract k (k+1))] w fun e w'=>e=.returned (.string ⟨(escT s[k]).toArray⟩)∧w=w':=by
 rw[extract_one s k h]
 refine (l02Text_any ⟨[s[k]].toArray⟩ w (by show 1≤_;omega)).mono fun e w' ⟨he,hw⟩=>⟨he.trans ?_,hw⟩
 rw[escS_all]
 simp[escL]
theorem escV_quot {c:UInt8} (h:((c.toNat:Int)==34)=true):escV c=[38,113,117,111,116,59]:=by
 rw[byte_of_int (n:=34) (by omega) h];rfl
theorem escV_other {c:UInt8} (h:((c.toNat:Int)==34)=false):escV c=escT c:=by
 have e1:¬c=34:=byte_ne_int (n:=34) (by omega) h
 rw[escV,if_neg e1]
set_option maxHeartbeats 1000000 in
theorem l02Value_any (s:ByteArray) (w:World) (hs:s.size≤65536):
 Calls Tryz.prog 131 #[.string s] w fun e w'=>e=.returned (.string (escS escV s s.size))∧w=w':=by
 go_enter Tryz.func131,Tryz.ntmps131
 go_wp2
 go_loop [3,4] (fun r i=>∃k:Nat,k≤s.size∧i=.int .i64 k∧r=.string (escS escV s k)) (fun _ i=>s.size-(intOf i).toNat)
 case atStart=>exact ⟨0,Nat.zero_le _,rfl,by rw[escS_zero]⟩
 case round=>
  obtain ⟨k,hk,rfl,rfl⟩:=hrel
  by_cases hlt:k<s.size
  ·by_cases h1:((s[k].toNat:Int)==34)=true
   ·have ha:∀w,(Op.stringOp .add (escS escV s k) ⟨#[38,113,117,111,116,59]⟩).run Tryz.prog w=.ok (.string (escS escV s (k+1))) w:=run_add escV_len s hs k hlt [38,113,117,111,116,59] (escV_quot h1)
    go_wp2
    go_round
    case rel=>exact ⟨k+1,by omega,by go_num,rfl⟩
    case measure=>simp[intOf];omega
   ·have h1':((s[k].toNat:Int)==34)=false:=by simpa using h1
    clear h1
    have hx:=cut_at s k (k+1) (by omega) (by omega) k (k+1) rfl (by omega)
    have ha:=run_add escV_len s hs k hlt (escT s[k]) (escV_other h1')
    go_wp2_with (go_at_call 77;refine (l02Text_cut s k hlt _).mono ?_;rintro e w1 ⟨rfl,rfl⟩)
    go_round
    case rel=>exact ⟨k+1,by omega,by go_num,rfl⟩
    case measure=>simp[intOf];omega
  ·obtain rfl:k=s.size:=by omega
   go_wp2
   go_ret
   exact ⟨rfl,rfl⟩
def escAns (f:UInt8→List UInt8) (s:ByteArray):ByteArray:=if s.size≤65536 then escS f s s.size else ⟨#[]⟩
theorem ret_string {a b:ByteArray} (h:a=b):Ending.returned (.string a)=.returned (.string b):=by rw[h]
end Go.Proofs.YthdkkpbhijlpaaaGreatDoor
