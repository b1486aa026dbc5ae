import Derived.Test.YthdkkpbhijlpaaaGreatDoorShelf
import Derived.Lib.AppendIntMem
import Derived.Lib.AtoiErrMem
import Derived.StillTailTactics
import Derived.Test.YthdkkpbhijlpaaaGreatDoorQ01
import Derived.Test.YthdkkpbhijlpaaaGreatDoorQ02
set_option linter.unusedVariables false
namespace Go.Proofs.YthdkkpbhijlpaaaGreatDoor
open Go.ChangeShapes Go.WideShapes Go.ChangeAt Go.RowKit
def unF:Nat→List UInt8→List UInt8
 | 0,_=>[]
 | _+1,[]=>[]
 | f+1,c::r=>if c=38 then (match oneAt (c::r) with | some (b,n)=>b::unF f ((c::r).drop n) | none=>c::unF f r) else c::unF f r
theorem unF_more:∀(f g:Nat) (l:List UInt8),l.length≤f→l.length≤g→unF f l=unF g l
 | 0,0,_,_,_=>rfl
 | 0,g+1,l,h,_=>by
  obtain rfl:l=[]:=List.length_eq_zero_iff.1 (by omega)
  rfl
 | f+1,0,l,_,h=>by
  obtain rfl:l=[]:=List.length_eq_zero_iff.1 (by omega)
  rfl
 | f+1,g+1,[],_,_=>rfl
 | f+1,g+1,c::r,h1,h2=>by
  simp only[List.length_cons]at h1 h2
  unfold unF
  have e:unF f r=unF g r:=unF_more f g r (by omega) (by omega)
  split
  ·cases ho:oneAt (c::r) with
   | none=>simp only[e]
   | some x=>
    obtain ⟨b,n⟩:=x
    obtain ⟨hn1,_,_,_⟩:=one_len ho
    have:unF f ((c::r).drop n)=unF g ((c::r).drop n):=unF_more f g _ (by simp;omega) (by simp;omega)
    simp only[this]
  ·rw[e]
def un (l:List UInt8):List UInt8:=unF l.length l
theorem un_nil:un []=[]:=rfl
theorem un_other {c:UInt8} (r:List UInt8) (h:c≠38):un (c::r)=c::un r:=by
 show unF (r.length+1) (c::r)=c::unF r.length r
 rw[unF,if_neg h]
theorem un_none {c:UInt8} {r:List UInt8} (h:oneAt (c::r)=none):un (c::r)=c::un r:=by
 show unF (r.length+1) (c::r)=c::unF r.length r
 rw[unF]
 by_cases e:c=38
 ·rw[if_pos e,h]
 ·rw[if_neg e]
theorem un_some {r:List UInt8} {b:UInt8} {n:Nat} (h:oneAt (38::r)=some (b,n)):un (38::r)=b::un ((38::r).drop n):=by
 obtain ⟨hn1,hn2,_,_⟩:=one_len h
 show unF (r.length+1) (38::r)=b::unF _ _
 rw[unF,if_pos rfl,h]
 simp only
 rw[unF_more r.length _ _ (by simp;omega) (Nat.le_refl _)]
theorem OwnB.empty (w:World):OwnB w (w.alloc (.cells #[] 5)) (.slice (some ⟨w.heap.size,0,none⟩) 0 0) []:=
 ⟨World.ownsRow_lit w #[] 0 (Nat.le_refl _) (by decide) rfl,(Below.refl _ _).alloc (Nat.le_refl _) _⟩
theorem OwnB.later {w0 w w':World} {v:Value} {l:List UInt8} (h:OwnB w0 w v l) (hb:Below w.heap.size w w'):OwnB w0 w' v l:=by
 refine ⟨⟨h.1.1,?_⟩,h.2.trans (hb.mono h.2.size)⟩
 rcases h.1.2 with h2 | ⟨g,cap,cur,h2,h3,h4,h5⟩
 ·exact Or.inl h2
 ·refine Or.inr ⟨g,cap,cur,h2,h3,?_,h5⟩
  have hlt:g<w.heap.size:=(Array.getElem?_eq_some_iff.1 h4).1
  exact (hb.block g hlt).trans h4
def UnTo (s:ByteArray) (p:Nat) (l:List UInt8):Prop:=l++un (rest s p)=un s.data.toList∧l.length≤p
theorem UnTo.start (s:ByteArray):UnTo s 0 []:=⟨rfl,Nat.le_refl _⟩
theorem rest_drop (s:ByteArray) (p n:Nat):(rest s p).drop n=rest s (p+n):=by simp[rest,List.drop_drop]
theorem UnTo.other {s:ByteArray} {p:Nat} {l:List UInt8} (h:UnTo s p l) (hp:p<s.size) (hc:s[p]≠38):UnTo s (p+1) (l++[s[p]]):=by
 refine ⟨?_,by have:=h.2;simp;omega⟩
 rw[←h.1,rest_cons hp,un_other _ hc,List.append_assoc];rfl
theorem UnTo.none {s:ByteArray} {p:Nat} {l:List UInt8} (h:UnTo s p l) (hp:p<s.size) (hc:oneAt (rest s p)=none):UnTo s (p+1) (l++[s[p]]):=by
 refine ⟨?_,by have:=h.2;simp;omega⟩
 rw[rest_cons hp]at hc
 rw[←h.1,rest_cons hp,un_none hc,List.append_assoc];rfl
theorem UnTo.some {s:ByteArray} {p:Nat} {l:List UInt8} (h:UnTo s p l) (hp:p<s.size) (h38:s[p]=38) {b:UInt8} {n:Nat} (hc:oneAt (rest s p)=some (b,n)):UnTo s (p+n) (l++[b])∧p+n≤s.size∧1≤n:=by
 have hl:=one_len hc
 have hrl:=rest_len s p
 refine ⟨⟨?_,by have:=h.2;simp;omega⟩,by omega,hl.1⟩
 have e:=rest_drop s p n
 rw[rest_cons hp,h38]at hc e
 rw[←h.1,rest_cons hp,h38,un_some hc,e,List.append_assoc];rfl
theorem UnTo.done {s:ByteArray} {l:List UInt8} (h:UnTo s s.size l):l=un s.data.toList:=by
 have:=h.1
 rw[show rest s s.size=[] by simp[rest],un_nil,List.append_nil]at this
 exact this
theorem ret_str {a b:List UInt8} (h:a=b):Ending.returned (.string ⟨a.toArray⟩)=.returned (.string ⟨b.toArray⟩):=by rw[h]
set_option maxHeartbeats 4000000 in
theorem l02Un_any (s:ByteArray) (hs:s.size≤65536) (w:World):
 Calls Tryz.prog 188 #[.string s] w fun e w'=>e=.returned (.string ⟨(un s.data.toList).toArray⟩)∧Below w.heap.size w w':=by
 go_enter Tryz.func188,Tryz.ntmps188
 go_wp2
 go_loopw [4,3] (fun i v wr=>∃(p:Nat) (l:List UInt8),p≤s.size∧i=.int .i64 p∧OwnB w wr v l∧UnTo s p l) (fun i _ _=>s.size-(intOf i).toNat)
 case atStart=>exact ⟨0,[],Nat.zero_le _,rfl,OwnB.empty w,UnTo.start s⟩
 case round=>
  obtain ⟨p,l,hp,rfl,hown,hun⟩:=hrel
  have HU:=Lib.hid hun
  have hll:=hun.2
  clear hun
  by_cases hlt:p<s.size
  ·by_cases h38:((s[p].toNat:Int)==38)=true
   ·have H38:=Lib.hid (show s[p]=38 from byte_of_int (n:=38) (by omega) h38)
    go_wp2_with (go_at_call 239;refine (l02One_any s p hlt hs H38.out _).mono ?_)
    rintro e w1 ⟨c,n,rfl,hc,hb⟩
    replace hown:=hown.later hb
    clear hb
    rcases hc with ⟨b,m,ho,rfl,rfl⟩ | ⟨ho,rfl,rfl⟩
    ·obtain ⟨hu2,hm1,hm2⟩:=HU.out.some hlt H38.out ho
     have HU2:=Lib.hid hu2
     clear hu2 ho
     have hm3:(0:Int)<(m:Int):=by omega
     go_wp2_with (at_builtin;refine wpList_append_byte w _ rfl (.tmp 24) (.tmp 26) rfl _ _ _ b rfl rfl hown ?c1 ?c2 ?_)
     case c1=>omega
     case c2=>rfl
     intro v' w2 hown1
     clear hown
     go_wp2
     go_roundw
     case rel=>exact ⟨p+m,_,hm1,by go_num,hown1,HU2.out⟩
     case measure=>simp[intOf];omega
    ·have HU2:=Lib.hid (HU.out.none hlt ho)
     clear ho
     go_wp2_with (at_builtin;refine wpList_append_byte w _ rfl (.tmp 31) (.tmp 35) rfl _ _ _ s[p] rfl rfl hown ?c1 ?c2 ?_)
     case c1=>omega
     case c2=>rfl
     intro v' w2 hown1
     clear hown
     go_wp2
     go_roundw
     case rel=>exact ⟨p+1,_,by omega,by go_num,hown1,HU2.out⟩
     case measure=>simp[intOf];omega
   ·have h38':((s[p].toNat:Int)==38)=false:=by simpa using h38
    have HU2:=Lib.hid (HU.out.other hlt (fun e=>h38 (by rw[e];rfl)))
    clear h38
    go_wp2_with (at_builtin;refine wpList_append_byte w _ rfl (.tmp 31) (.tmp 35) rfl _ _ _ s[p] rfl rfl hown ?c1 ?c2 ?_)
    case c1=>omega
    case c2=>rfl
    intro v' w2 hown1
    clear hown
    go_wp2
    go_roundw
    case rel=>exact ⟨p+1,_,by omega,by go_num,hown1,HU2.out⟩
    case measure=>simp[intOf];omega
  ·obtain rfl:p=s.size:=by omega
   go_wp2_with (refine wpList_string_own w _ rfl (.tmp 39) rfl _ _ rfl hown ?_)
   go_ret
   exact ⟨ret_str HU.out.done,hown.2⟩
end Go.Proofs.YthdkkpbhijlpaaaGreatDoor
namespace Go.Proofs.YthdkkpbhijlpaaaGreatDoor
open Go.ChangeShapes Go.WideShapes Go.ChangeAt Go.RowKit Go.Shelf
theorem gPow:Tryz.prog.globalNamed "internal/strconv.uint64pow10" = some 5 := by kernel_rfl
def Env (w:World):Prop:=(∃ev,w.cell? ⟨3,0,none⟩=some ev∧(ev=.nilIface∨∃te pe,ev=.iface te pe))∧Lib.TabIs Tryz.prog w "internal/strconv.uint64pow10" .u64 Lib.pow10Tab∧5 < w.heap.size
theorem Env.below {w w':World} (h:Env w) (hb:Below w.heap.size w w'):Env w':=by
 obtain ⟨⟨ev,h1,h2⟩,h3,h4⟩:=h
 refine ⟨⟨ev,(hb.cell (p:=⟨3,0,none⟩) (show 3 < w.heap.size by omega)).trans h1,h2⟩,?_,by have:=hb.size;omega⟩
 have e:w'.heap[5]?=w.heap[5]?:=hb.block _ (by omega)
 unfold Lib.TabIs World.var? at h3 ⊢
 rw[gPow]at h3 ⊢
 simp only[Option.bind_some]at h3 ⊢
 rw[e];exact h3
set_option maxRecDepth 100000 in
set_option maxHeartbeats 4000000 in
theorem upTo_any (s:ByteArray) (hs:s.size≤65536) (w:World):
 Calls Tryz.prog 261 #[.string s] w fun e w'=>e=.returned (.string ⟨(told s.data.toList).toArray⟩)∧w=w':=by
 obtain ⟨m,hm1,hm2⟩:∃m:Nat,(m=if 6<s.size then 6 else s.size)∧m≤s.size:=⟨_,rfl,by split <;> omega⟩
 have hmin:∀(ts:Array TypeId) (t:TypeId) w,(Builtin.min_ ts t #[.int .i64 (s.size:Int),.int .i64 6]).run Tryz.prog w=.ok (.int .i64 (m:Int)) w:=fun ts t w=>by
  rw[run_min_int2]
  congr 3
  rw[hm1]
  by_cases h:6<s.size
  ·rw[if_pos (by omega),if_pos h];rfl
  ·rw[if_neg (by omega),if_neg h]
 have hx:∀w,(Instr.slice 9 (.string s) none (some (.int .i64 (m:Int))) none).run Tryz.prog w=.ok (.string (s.extract 0 m)) w:=fun w=>by
  rw[run_slice_string_to_if w 9 s .i64 _ Tryz.underlying9,if_pos (by omega)]
  rfl
 have hT:(s.extract 0 m).data.toList=s.data.toList.take 6:=by
  have e:(s.extract 0 m).data.toList=s.data.toList.take m:=by
   rw[ByteArray.data_extract,Array.toList_extract];simp
  rw[e,hm1]
  split
  ·rfl
  ·rw[List.take_of_length_le (l:=s.data.toList) (i:=6) (by simp;omega),List.take_of_length_le (by simp)]
 generalize hTe:s.extract 0 m=T at hx hT
 clear hTe
 have hJ0:=Lib.indexByte_ge T.data.toList 59
 have hJ1:Lib.indexByte T.data.toList 59<(T.size:Int):=by
  by_cases e:Lib.indexByte T.data.toList 59 = -1
  ·omega
  ·obtain ⟨o,ho⟩:=Int.eq_ofNat_of_zero_le (show 0≤Lib.indexByte T.data.toList 59 by omega)
   obtain ⟨h1,_⟩:=Lib.indexByte_some ho
   have:=(List.getElem?_eq_some_iff.1 h1).1
   simp at this
   rw[ho];omega
 have hT6:T.size≤6:=by
  have:=congrArg List.length hT
  simp[List.length_take]at this
  have e:T.data.size=T.size:=rfl
  omega
 have hIdx:∀w,Calls Tryz.prog 219 #[.string T,.int .u8 59] w fun e w'=>e=.returned (.int .i64 (Lib.indexByte T.data.toList 59))∧w'=w:=fun w=>
  (strings_IndexByte T 59 w).mono fun _ _ ⟨h1,h2⟩=>⟨h1,h2⟩
 have hR:told s.data.toList=T.data.toList.take (Lib.indexByte T.data.toList 59+1).toNat:=by unfold told;rw[←hT]
 generalize Lib.indexByte T.data.toList 59=J at hIdx hJ0 hJ1 hR
 have hw:IntKind.i64.wrap (J+1)=J+1:=by rw[IntKind.wrap_i64];omega
 have hy:∀w,(Instr.slice 9 (.string T) none (some (.int .i64 (J+1))) none).run Tryz.prog w=.ok (.string ⟨(told s.data.toList).toArray⟩) w:=fun w=>by
  rw[run_slice_string_to_if w 9 T .i64 _ Tryz.underlying9,if_pos (by omega)]
  congr 2
  rw[hR]
  apply ByteArray.ext
  apply Array.toList_inj.1
  rw[ByteArray.data_extract,Array.toList_extract];simp
 generalize (⟨(told s.data.toList).toArray⟩:ByteArray)=R at hy
 clear hR hT hm1 hm2 hJ0 hJ1 hT6 hs
 go_enter Tryz.func261,Tryz.ntmps261
 go_wp2_with (go_at_call 219;refine (hIdx _).mono ?_;rintro e w1 ⟨rfl,rfl⟩)
 go_ret
 exact ⟨rfl,rfl⟩
def isNum (u:List UInt8):Bool:=Lib.hasPrefix u [38,35]
theorem dec3_atoi:∀n:Fin 127,Lib.atoi (dec3 n)=some (n.val:Int):=by decide
theorem num3_lib {d:List UInt8} {n:Int} (h1:1≤n) (h2:n≤126) (h:Lib.itoa n=d):num3 d=some n.toNat:=by
 obtain ⟨m,rfl⟩:=Int.eq_ofNat_of_zero_le (show 0≤n by omega)
 rw[itoa_dec3 (by omega)]at h
 rw[←h]
 exact num3_dec3 (by omega) (by omega)
theorem num3_nolib {d:List UInt8} (h:∀n:Int,Lib.atoi d=some n→1≤n→n≤126→Lib.itoa n≠d):num3 d=none:=by
 refine num3_none fun n h1 h2 e=>?_
 have ha:=dec3_atoi ⟨n,by omega⟩
 simp only at ha
 rw[←e]at ha
 exact h n ha (by omega) (by omega) (by rw[itoa_dec3 (by omega)];exact e.symm)
theorem beq_dec (a b:UInt8):(b==a)=decide (a=b):=by rw[Bool.eq_iff_iff,beq_iff_eq,decide_eq_true_iff];exact eq_comm
theorem numbered_end {u:List UInt8}:numbered (u++[59])=if isNum u=true then num3 (u.drop 2) else none:=by
 match u with
 | []=>rfl
 | [a]=>simp[numbered,isNum,Lib.hasPrefix,List.isPrefixOf]
 | a::b::r=>
  have e:numbered (a::b::r++[59])=if a=38∧b=35 then num3 r else none:=by
   show (if a=38∧b=35∧(r++[59]).getLast?=some 59 then num3 (r++[59]).dropLast else none)=_
   simp
  have e2:isNum (a::b::r)=(decide (a=38)&&decide (b=35)):=by
   simp only[isNum,Lib.hasPrefix,List.isPrefixOf,Bool.and_true]
   rw[beq_dec a 38,beq_dec b 35]
  rw[e,e2]
  by_cases h1:a=38 <;> by_cases h2:b=35 <;> simp[h1,h2]
def byteText (o:Option Nat):ByteArray:=match o with | some n=>⟨#[UInt8.ofNat n]⟩ | none=>⟨#[]⟩
theorem encode_small {n:Int} (h1:1≤n) (h2:n≤126):Utf8.encode n=⟨#[UInt8.ofNat n.toNat]⟩:=by
 have hv:Utf8.valid n=true:=by simp[Utf8.valid];omega
 unfold Utf8.encode
 simp only[hv,if_true]
 rw[if_pos (by omega)]
theorem convNum (n:Int) (w:World):(convert 21 9 (.int .i32 n)).run Tryz.prog w=.ok (.string (Utf8.encode n)) w:=by
 simp[convert,run_underlying Tryz.underlying21,run_underlying Tryz.underlying9,Conv.intToString]
theorem trim_semi (t:ByteArray) (u:List UInt8) (h:t.data.toList=u++[59]):Lib.trimSuffix t.data.toList [59]=u:=by
 rw[h]
 have hs:Lib.hasSuffix (u++[59]) [59]=true:=by rw[Lib.hasSuffix,List.isSuffixOf_iff_suffix];exact ⟨u,rfl⟩
 rw[Lib.trimSuffix,if_pos hs]
 simp
theorem numbered_lib {l:List UInt8} (h:l=[]∨∃u,l=u++[59]):numbered l=if Lib.hasPrefix (Lib.trimSuffix l [59]) [38,35]=true then num3 (Lib.trimPrefix (Lib.trimSuffix l [59]) [38,35]) else none:=by
 rcases h with rfl | ⟨u,rfl⟩
 ·rfl
 ·have e:Lib.trimSuffix (u++[59]) [59]=u:=trim_semi ⟨(u++[59]).toArray⟩ u (by simp)
  rw[e,numbered_end]
  unfold isNum
  split
  ·rw[Lib.trimPrefix,if_pos (by assumption)];rfl
  ·rfl
set_option maxRecDepth 100000 in
set_option maxHeartbeats 8000000 in
theorem numMean_any (t:ByteArray) (ht:t.size≤6) (he:t.data.toList=[]∨∃u,t.data.toList=u++[59]) (w:World) (hw:Env w):
 Calls Tryz.prog 274 #[.string t] w fun e w'=>e=.returned (.string (byteText (numbered t.data.toList)))∧Below w.heap.size w w':=by
 have hN:=numbered_lib he
 have hl1:=Lib.trimSuffix_le t.data.toList [59]
 have hTrim:∀w,Calls Tryz.prog 279 #[.string t,.string ⟨#[59]⟩] w fun e w'=>e=.returned (.string ⟨(Lib.trimSuffix t.data.toList [59]).toArray⟩)∧w=w':=fun w=>
  (strings_TrimSuffix t ⟨#[59]⟩ w (by omega)).mono fun _ _ ⟨h1,h2⟩=>⟨h1,h2.symm⟩
 generalize hU:(⟨(Lib.trimSuffix t.data.toList [59]).toArray⟩:ByteArray)=U at hTrim
 have hUl:U.data.toList=Lib.trimSuffix t.data.toList [59]:=by rw[←hU]
 rw[←hUl]at hN hl1
 clear hU hUl
 have hCut:∀w,Calls Tryz.prog 217 #[.string U,.string ⟨#[38,35]⟩] w fun e w'=>e=.returned (.tuple #[.string ⟨(Lib.trimPrefix U.data.toList [38,35]).toArray⟩,.bool (Lib.hasPrefix U.data.toList [38,35])])∧w=w':=fun w=>
  (strings_CutPrefix U ⟨#[38,35]⟩ w).mono fun _ _ ⟨h1,h2⟩=>⟨h1,h2.symm⟩
 have hl2:(Lib.trimPrefix U.data.toList [38,35]).length≤U.data.toList.length:=by
  unfold Lib.trimPrefix;split
  ·simp
  ·omega
 generalize hD:(⟨(Lib.trimPrefix U.data.toList [38,35]).toArray⟩:ByteArray)=D at hCut
 have hDl:D.data.toList=Lib.trimPrefix U.data.toList [38,35]:=by rw[←hD]
 rw[←hDl]at hN hl2
 have hD18:D.size≤18:=by
  have e1:D.data.toList.length=D.size:=by rw[Array.length_toList];rfl
  have e2:t.data.toList.length=t.size:=by rw[Array.length_toList];rfl
  omega
 generalize Lib.hasPrefix U.data.toList [38,35]=b at hN hCut
 clear hD hDl hl1 hl2 he ht
 generalize hM:byteText (numbered t.data.toList)=M
 rw[hN]at hM
 clear hN
 cases ha:Lib.atoi D.data.toList with
 | none=>
  have hM0:M=⟨#[]⟩:=by
   rw[←hM,num3_nolib (d:=D.data.toList) (fun n h=>by rw[ha]at h;cases h)]
   simp[byteText]
  subst hM0
  obtain ⟨ev,hv,hev⟩:=hw.1
  cases b with
  | false=>
   go_enter Tryz.func274,Tryz.ntmps274
   go_wp2_with (first | (go_at_call 279;refine (hTrim _).mono ?_;rintro e w1 ⟨rfl,rfl⟩) | (go_at_call 217;refine (hCut _).mono ?_;rintro e w1 ⟨rfl,rfl⟩) | (go_at_call 280;refine (strconv_Atoi_err D hD18 ha ev _ hv hev).mono ?_;rintro e w1 ⟨N,rfl,-,-,hb⟩))
   go_ret
   exact ⟨rfl,by assumption⟩
  | true=>
   go_enter Tryz.func274,Tryz.ntmps274
   go_wp2_with (first | (go_at_call 279;refine (hTrim _).mono ?_;rintro e w1 ⟨rfl,rfl⟩) | (go_at_call 217;refine (hCut _).mono ?_;rintro e w1 ⟨rfl,rfl⟩) | (go_at_call 280;refine (strconv_Atoi_err D hD18 ha ev _ hv hev).mono ?_;rintro e w1 ⟨N,rfl,-,-,hb⟩))
   go_ret
   exact ⟨rfl,by assumption⟩
 | some n=>
  cases b with
  | false=>
   have hM0:M=⟨#[]⟩:=by rw[←hM];simp[byteText]
   subst hM0
   go_enter Tryz.func274,Tryz.ntmps274
   go_wp2_with (first | (go_at_call 279;refine (hTrim _).mono ?_;rintro e w1 ⟨rfl,rfl⟩) | (go_at_call 217;refine (hCut _).mono ?_;rintro e w1 ⟨rfl,rfl⟩) | (go_at_call 280;go_must (refine (strconv_Atoi D n hD18 ha _).mono ?_;rintro e w1 ⟨rfl,t',hw'⟩;have hb:Below w.heap.size w w1:=(by rw[hw'];exact Lib.bytesWorld_below _ _ _);clear hw')))
   go_ret
   exact ⟨rfl,by assumption⟩
  | true=>
   rw[if_pos rfl]at hM
   by_cases h1:n<1
   ·have h1':decide (n<1)=true:=decide_eq_true h1
    have hM0:M=⟨#[]⟩:=by
     rw[←hM,num3_nolib (d:=D.data.toList) (fun n' h h2 h3=>by rw[ha]at h;cases h;omega)]
     simp[byteText]
    subst hM0
    go_enter Tryz.func274,Tryz.ntmps274
    go_wp2_with (first | (go_at_call 279;refine (hTrim _).mono ?_;rintro e w1 ⟨rfl,rfl⟩) | (go_at_call 217;refine (hCut _).mono ?_;rintro e w1 ⟨rfl,rfl⟩) | (go_at_call 280;go_must (refine (strconv_Atoi D n hD18 ha _).mono ?_;rintro e w1 ⟨rfl,t',hw'⟩;have hb:Below w.heap.size w w1:=(by rw[hw'];exact Lib.bytesWorld_below _ _ _);clear hw')))
    go_ret
    exact ⟨rfl,by assumption⟩
   ·have h1':decide (n<1)=false:=decide_eq_false h1
    by_cases h2:126<n
    ·have h2':decide (126<n)=true:=decide_eq_true h2
     have hM0:M=⟨#[]⟩:=by
      rw[←hM,num3_nolib (d:=D.data.toList) (fun n' h h2 h3=>by rw[ha]at h;cases h;omega)]
      simp[byteText]
     subst hM0
     go_enter Tryz.func274,Tryz.ntmps274
     go_wp2_with (first | (go_at_call 279;refine (hTrim _).mono ?_;rintro e w1 ⟨rfl,rfl⟩) | (go_at_call 217;refine (hCut _).mono ?_;rintro e w1 ⟨rfl,rfl⟩) | (go_at_call 280;go_must (refine (strconv_Atoi D n hD18 ha _).mono ?_;rintro e w1 ⟨rfl,t',hw'⟩;have hb:Below w.heap.size w w1:=(by rw[hw'];exact Lib.bytesWorld_below _ _ _);clear hw')))
     go_ret
     exact ⟨rfl,by assumption⟩
    ·have h2':decide (126<n)=false:=decide_eq_false h2
     by_cases h3:Lib.itoa n=D.data.toList
     ·have hMs:M=⟨#[UInt8.ofNat n.toNat]⟩:=by rw[←hM,num3_lib (by omega) (by omega) h3];rfl
      have hD3:(⟨(Lib.itoa n).toArray⟩:ByteArray)=D:=by
       rw[h3]
      have hwr:IntKind.i32.wrap n=n:=by rw[IntKind.wrap_i32];omega
      have hcv:=convNum n
      rw[encode_small (by omega) (by omega),←hMs]at hcv
      go_enter Tryz.func274,Tryz.ntmps274
      go_wp2_with (first | (go_at_call 279;refine (hTrim _).mono ?_;rintro e w1 ⟨rfl,rfl⟩) | (go_at_call 217;refine (hCut _).mono ?_;rintro e w1 ⟨rfl,rfl⟩) | (go_at_call 280;go_must (refine (strconv_Atoi D n hD18 ha _).mono ?_;rintro e w1 ⟨rfl,t',hw'⟩;have hb:Below w.heap.size w w1:=(by rw[hw'];exact Lib.bytesWorld_below _ _ _);clear hw')) | (go_at_call 281;go_must (refine (strconv_Itoa n (by omega) (by omega) _ (hw.below (by assumption)).2.1).mono ?_;rintro e w2 ⟨rfl,k',os,hw2⟩;have hb2:Below w.heap.size w w2:=(by rw[hw2];exact Below.trans (by assumption) (Lib.below_grow _ _ (Below.size (by assumption)) _ _));clear hw2)))
      go_ret
      exact ⟨by rw[hMs];rfl,hb2⟩
     ·have hM0:M=⟨#[]⟩:=by
       rw[←hM,num3_nolib (d:=D.data.toList) (fun n' h _ _=>by rw[ha]at h;cases h;exact h3)]
       simp[byteText]
      subst hM0
      have hne:(!D.toList==Lib.itoa n)=true:=by
       have e:¬D.toList=Lib.itoa n:=fun e=>h3 (by rw[←e,ByteArray.toList_eq])
       simp[e]
      go_enter Tryz.func274,Tryz.ntmps274
      go_wp2_with (first | (go_at_call 279;refine (hTrim _).mono ?_;rintro e w1 ⟨rfl,rfl⟩) | (go_at_call 217;refine (hCut _).mono ?_;rintro e w1 ⟨rfl,rfl⟩) | (go_at_call 280;go_must (refine (strconv_Atoi D n hD18 ha _).mono ?_;rintro e w1 ⟨rfl,t',hw'⟩;have hb:Below w.heap.size w w1:=(by rw[hw'];exact Lib.bytesWorld_below _ _ _);clear hw')) | (go_at_call 281;go_must (refine (strconv_Itoa n (by omega) (by omega) _ (hw.below (by assumption)).2.1).mono ?_;rintro e w2 ⟨rfl,k',os,hw2⟩;have hb2:Below w.heap.size w w2:=(by rw[hw2];exact Below.trans (by assumption) (Lib.below_grow _ _ (Below.size (by assumption)) _ _));clear hw2)))
      go_ret
      exact ⟨rfl,hb2⟩
end Go.Proofs.YthdkkpbhijlpaaaGreatDoor
namespace Go.Proofs.YthdkkpbhijlpaaaGreatDoor
open Go.ChangeShapes Go.WideShapes Go.ChangeAt Go.RowKit Go.Shelf
def marksB:ByteArray:=⟨#[38,60,62,34]⟩
theorem marks_at:∀k:Fin 4,(marksB[k.val]'(by have:=k.2;show k.val<4;omega)).toNat=(allMarks[k.val]'(by have:=k.2;show k.val<4;omega)):=by decide
theorem markOf_at:∀k:Fin 4,(markOf (allMarks[k.val]'(by have:=k.2;show k.val<4;omega))).data.toList=nmL[k]:=by decide
theorem nmB_at:∀k:Fin 4,nmB[k]=UInt8.ofNat (allMarks[k.val]'(by have:=k.2;show k.val<4;omega)):=by decide
def mtext (t:List UInt8):ByteArray:=match meaning t with | some b=>⟨#[b]⟩ | none=>⟨#[]⟩
theorem mtext_hit {t:List UInt8} {k:Nat} (hk:k<4) (h:t=nmL[k]'(by show k<4;exact hk)):mtext t=⟨#[UInt8.ofNat (allMarks[k]'(by show k<4;exact hk))]⟩:=by
 have e1:=nm_meaning ⟨k,hk⟩
 have e2:=nmB_at ⟨k,hk⟩
 rw[e2]at e1
 unfold mtext
 rw[h]
 rw[show meaning (nmL[k]'(by show k<4;exact hk))=_ from e1]
def NotNm (t:List UInt8) (k:Nat):Prop:=∀j (h:j<nmL.length),j<k→t≠nmL[j]
theorem NotNm.zero (t:List UInt8):NotNm t 0:=fun _ _ h=>by omega
theorem NotNm.succ {t:List UInt8} {k:Nat} (h:NotNm t k) (hk:k<nmL.length) (hn:t≠nmL[k]):NotNm t (k+1):=fun j hj h1=>by
 by_cases e:j=k
 ·subst e;exact hn
 ·exact h j hj (by omega)
theorem mtext_number {t:List UInt8} (h:NotNm t 4):mtext t=byteText (numbered t):=by
 have e0:t≠ampL:=h 0 (by decide) (by omega)
 have e1:t≠ltL:=h 1 (by decide) (by omega)
 have e2:t≠gtL:=h 2 (by decide) (by omega)
 have e3:t≠quotL:=h 3 (by decide) (by omega)
 unfold mtext meaning
 rw[if_neg e0,if_neg e1,if_neg e2,if_neg e3]
 cases numbered t <;> rfl
set_option maxRecDepth 100000 in
set_option maxHeartbeats 8000000 in
theorem meaningOf_any (t:ByteArray) (ht:t.size≤6) (he:t.data.toList=[]∨∃u,t.data.toList=u++[59]) (w:World) (hw:Env w):
 Calls Tryz.prog 262 #[.string t] w fun e w'=>e=.returned (.string (mtext t.data.toList))∧Below w.heap.size w w':=by
 go_enter Tryz.func262,Tryz.ntmps262
 go_wp2
 go_loopw [] (fun wr=>∃k:Nat,k≤4∧wr.heap[w.heap.size]?=some (.stringIter marksB k)∧Below w.heap.size w wr∧NotNm t.data.toList k) (fun wr=>4-wr.iterPos w.heap.size)
 case atStart=>exact ⟨0,by omega,by have:=World.iter_heap w marksB 0;exact this,(Below.refl _ w).alloc (Nat.le_refl _) _,NotNm.zero _⟩
 case round=>
  obtain ⟨k,hk,hit,hbw,hn⟩:=hrel
  have HN:=Lib.hid hn
  clear hn
  have hsz:w.heap.size<wr.heap.size:=(Array.getElem?_eq_some_iff.1 hit).1
  by_cases hp:k<4
  ·have hp':k<marksB.size:=hp
   have hr:=marks_at ⟨k,hp⟩
   have hX:=markOf_at ⟨k,hp⟩
   simp only at hr hX
   have hmem:(allMarks[k]'(by show k<4;exact hp)) ∈ allMarks:=List.getElem_mem _
   have hHit:=mtext_hit (t:=t.data.toList) hp
   have hlt:=allMarks_lt hmem
   generalize (allMarks[k]'(by show k<4;exact hp))=r at hr hX hmem hHit hlt
   have hnx:∀ty,(Instr.next (.pointer (some ⟨w.heap.size,0,none⟩)) true ty).run Tryz.prog wr=_:=fun ty=>Lib.run_next_ascii_at wr w.heap.size marksB k ty hit hp' (by rw[hr];exact hlt)
   rw[hr]at hnx
   have hI2:(wr.iterAt w.heap.size marksB (k+1)).heap[w.heap.size]?=some (.stringIter marksB (k+1)):=Lib.iterAt_heap wr w.heap.size marksB k (k+1) hit
   have hbw2:=Lib.below_iterAt hbw (k:=w.heap.size) (Nat.le_refl _) marksB (k+1)
   generalize hW:wr.iterAt w.heap.size marksB (k+1)=W2 at hnx hI2 hbw2
   clear hW hbw
   have hr1:1≤(r:Int)∧(r:Int)≤126:=by simp[allMarks]at hmem;omega
   have hE:∀w,Calls Tryz.prog 238 #[.int .i32 (r:Int)] w fun e w'=>e=.returned (.string (markOf r))∧w=w':=escapeOf_any r hmem
   have hcv:=convNum (r:Int)
   rw[encode_small hr1.1 hr1.2,show ((r:Int)).toNat=r from rfl]at hcv
   have HR:=Lib.hid hr1
   clear hr hmem hlt hr1
   generalize markOf r=X at hE hX
   have HX:=Lib.hid hX
   clear hX
   by_cases h:t.data.toList=nmL[k]'(by show k<4;exact hp)
   ·have hH:=hHit h
    have hq:(t.toList==X.toList)=true:=by rw[ByteArray.toList_eq,ByteArray.toList_eq,HX.out,h];simp
    clear hHit
    go_wp2_with (go_at_call 238;refine (hE _).mono ?_;rintro e w1 ⟨rfl,rfl⟩)
    go_ret
    exact ⟨ret_string hH.symm,hbw2⟩
   ·have hq:(t.toList==X.toList)=false:=by rw[ByteArray.toList_eq,ByteArray.toList_eq,HX.out];simpa using h
    clear hHit
    go_wp2_with (go_at_call 238;refine (hE _).mono ?_;rintro e w1 ⟨rfl,rfl⟩)
    go_roundw
    case rel=>exact ⟨k+1,by omega,hI2,hbw2,HN.out.succ (by show k<4;exact hp) h⟩
    case measure=>
     simp only[World.iterPos,hI2,hit]
     omega
  ·obtain rfl:k=4:=by omega
   have hnx:∀ty,(Instr.next (.pointer (some ⟨w.heap.size,0,none⟩)) true ty).run Tryz.prog wr=_:=fun ty=>Lib.run_next_end_at wr w.heap.size marksB 4 ty hit (by decide)
   have hsz2:=hbw.size
   go_wp2_with (go_at_call 274;refine (numMean_any t ht he _ (hw.below hbw)).mono ?_)
   rintro e w1 ⟨rfl,hb1⟩
   go_wp2
   go_ret
   exact ⟨ret_string (mtext_number HN.out).symm,hbw.trans (hb1.mono hsz2)⟩
end Go.Proofs.YthdkkpbhijlpaaaGreatDoor
namespace Go.Proofs.YthdkkpbhijlpaaaGreatDoor
open Go.ChangeShapes Go.WideShapes Go.ChangeAt Go.RowKit Go.Shelf
theorem BldF.later {B b:Nat} {bs:List Value} {w w':World} (h:BldF B b bs w) (hb:Below w.heap.size w w'):BldF B b bs w':=by
 have one:∀p,Lib.BuilderAtF 94 5 B b p bs w→Lib.BuilderAtF 94 5 B b p bs w':=fun p x=>by
  have hlt:=x.lt
  obtain ⟨h1,v,h2,h3,h4⟩:=x
  refine ⟨h1,v,(hb.block b hlt).trans h2,?_,h4⟩
  exact h3.kept (row:=none) ⟨hb.os,hb.tape,hb.output,hb.size,fun k hk _=>hb.block k hk⟩ (Classical.em _)
 exact h.elim (fun x=>.inl (one _ x)) (fun x=>.inr (one _ x))
theorem told_end (l:List UInt8):told l=[]∨∃u,told l=u++[59]:=by
 by_cases e:Lib.indexByte (l.take 6) 59 = -1
 ·left;unfold told;rw[e];rfl
 ·have hg:=Lib.indexByte_ge (l.take 6) 59
  obtain ⟨o,ho⟩:=Int.eq_ofNat_of_zero_le (show 0≤Lib.indexByte (l.take 6) 59 by omega)
  obtain ⟨h1,_⟩:=Lib.indexByte_some ho
  right
  refine ⟨(l.take 6).take o,?_⟩
  unfold told
  rw[ho,show ((o:Int)+1).toNat=o+1 by omega]
  obtain ⟨h2,h3⟩:=List.getElem?_eq_some_iff.1 h1
  rw[List.take_succ_eq_append_getElem h2,h3]
def tailOK (t:List UInt8):Bool:=(t.drop 1).all fun c=>decide (c.toNat<128)&&(c != 38)
theorem tail_dec3:∀n:Fin 127,tailOK (38::35::(dec3 n++[59]))=true:=by decide
theorem tail_nm:tailOK ampL=true∧tailOK ltL=true∧tailOK gtL=true∧tailOK quotL=true:=by decide
theorem numbered_is {t:List UInt8} {n:Nat} (h:numbered t=some n):∃m:Fin 127,t=38::35::(dec3 m++[59]):=by
 match t,h with
 | a::b::r,h=>
  by_cases hc:a=38∧b=35∧r.getLast?=some 59
  ·have e:numbered (a::b::r)=num3 r.dropLast:=if_pos hc
   rw[e]at h
   obtain ⟨rfl,rfl,hl⟩:=hc
   obtain ⟨h1,h2,h3⟩:=num3_some h
   refine ⟨⟨n,by omega⟩,?_⟩
   have hne:r≠[]:=by rintro rfl;simp at hl
   have:=List.dropLast_concat_getLast hne
   rw[List.getLast?_eq_some_getLast hne]at hl
   have hl':=Option.some.inj hl
   rw[hl',h3]at this
   rw[this]
  ·have e:numbered (a::b::r)=none:=if_neg hc
   rw[e]at h;cases h
theorem meaning_tail {t:List UInt8} {x:UInt8} (h:meaning t=some x):tailOK t=true:=by
 unfold meaning at h
 repeat' split at h
 ·rename_i e;rw[e];exact tail_nm.1
 ·rename_i e;rw[e];exact tail_nm.2.1
 ·rename_i e;rw[e];exact tail_nm.2.2.1
 ·rename_i e;rw[e];exact tail_nm.2.2.2
 ·cases hn:numbered t with
  | none=>rw[hn]at h;cases h
  | some n=>
   obtain ⟨m,e⟩:=numbered_is hn
   rw[e];exact tail_dec3 m
theorem one_bytes {s:ByteArray} {b:Nat} {x:UInt8} {n:Nat} (h:oneAt (rest s b)=some (x,n)) (j:Nat) (hj:j<s.size) (h1:b+1≤j) (h2:j<b+n):(s[j]'hj).toNat<128∧s[j]'hj≠38:=by
 obtain ⟨_,_,hn,hm⟩:=one_len h
 have ht:=meaning_tail hm
 have hlt:j-b<(told (rest s b)).length:=by omega
 have hp:=told_prefix (rest s b)
 have he:(told (rest s b))[j-b]'hlt=s[j]'hj:=by
  have e1:=List.IsPrefix.getElem hp hlt
  have e2:(rest s b)[j-b]?=some (s[b+(j-b)]'(by omega)):=rest_at (by omega)
  obtain ⟨h3,h4⟩:=List.getElem?_eq_some_iff.1 e2
  rw[e1,h4]
  congr 1;omega
 unfold tailOK at ht
 rw[List.all_eq_true]at ht
 have hmem:(told (rest s b))[j-b]'hlt ∈ (told (rest s b)).drop 1:=by
  rw[List.mem_iff_getElem]
  refine ⟨j-b-1,by simp;omega,?_⟩
  rw[List.getElem_drop]
  congr 1;omega
 have:=ht _ hmem
 rw[he]at this
 simp only[Bool.and_eq_true,decide_eq_true_eq,bne_iff_ne,ne_eq]at this
 exact this
def sl (s:ByteArray) (a b:Nat):List UInt8:=(s.data.toList.take b).drop a
theorem sl_nil (s:ByteArray) (a:Nat):sl s a a=[]:=by simp[sl]
theorem sl_snoc {s:ByteArray} {a b:Nat} (hab:a≤b) (hb:b<s.size):sl s a (b+1)=sl s a b++[s[b]'hb]:=by
 unfold sl
 rw[List.take_succ_eq_append_getElem (by simpa using hb),List.drop_append_of_le_length (by simp;omega)]
 rfl
theorem sl_flat (s:ByteArray) (a b:Nat):(s.extract a b).data.toList=sl s a b:=extract_list s a b
theorem flat_two (s:ByteArray) (a b:Nat) (x:UInt8):flat [s.extract a b,⟨#[x]⟩]=sl s a b++[x]:=by
 show (s.extract a b).data.toList++([x]++[])=_
 rw[sl_flat];rfl
theorem flat_one (s:ByteArray) (a b:Nat):flat [s.extract a b]=sl s a b:=by
 show (s.extract a b).data.toList++[]=_
 rw[sl_flat,List.append_nil]
theorem sl_len (s:ByteArray) (a b:Nat):(sl s a b).length≤s.size:=by unfold sl;simp;omega
def UnInv (s:ByteArray) (a b:Nat) (acc:List UInt8):Prop:=a≤s.size∧b≤s.size ∧
 ((a≤b∧UnTo s b (acc++sl s a b))∨(b<a∧UnTo s a acc∧∀j (h:j<s.size),b≤j→j<a→(s[j]'h).toNat<128∧s[j]'h≠38))
theorem UnInv.start (s:ByteArray):UnInv s 0 0 []:=⟨Nat.zero_le _,Nat.zero_le _,Or.inl ⟨Nat.le_refl _,UnTo.start s⟩⟩
theorem UnInv.len {s:ByteArray} {a b:Nat} {acc:List UInt8} (h:UnInv s a b acc):acc.length≤s.size:=by
 obtain ⟨h1,h2,⟨_,h3⟩ | ⟨_,h3,_⟩⟩:=h
 ·have:=h3.2
  simp only[List.length_append]at this;omega
 ·have:=h3.2;omega
theorem UnInv.next {s:ByteArray} {a b:Nat} {acc:List UInt8} (h:UnInv s a b acc) (hb:b<s.size) (hc:s[b]'hb≠38):UnInv s a (b+1) acc:=by
 obtain ⟨h1,h2,⟨h3,h4⟩ | ⟨h3,h4,h5⟩⟩:=h
 ·refine ⟨h1,hb,Or.inl ⟨by omega,?_⟩⟩
  rw[sl_snoc h3 hb,←List.append_assoc]
  exact h4.other hb hc
 ·by_cases e:b+1<a
  ·exact ⟨h1,hb,Or.inr ⟨e,h4,fun j hj g1 g2=>h5 j hj (by omega) g2⟩⟩
  ·obtain rfl:a=b+1:=by omega
   exact ⟨h1,hb,Or.inl ⟨Nat.le_refl _,by rw[sl_nil,List.append_nil];exact h4⟩⟩
theorem UnInv.run {s:ByteArray} {a b:Nat} {acc:List UInt8} (h:UnInv s a b acc) (d:Nat) (hd:b+d≤s.size) (hc:∀j (hj:j<s.size),b≤j→j<b+d→s[j]'hj≠38):UnInv s a (b+d) acc:=by
 induction d with
 | zero=>exact h
 | succ d ih=>exact (ih (by omega) (fun j hj h1 h2=>hc j hj h1 (by omega))).next (by omega) (hc (b+d) (by omega) (by omega) (by omega))
theorem UnInv.at38 {s:ByteArray} {a b:Nat} {acc:List UInt8} (h:UnInv s a b acc) (hb:b<s.size) (hc:s[b]'hb=38):a≤b∧UnTo s b (acc++sl s a b):=by
 obtain ⟨h1,h2,h3 | ⟨h3,h4,h5⟩⟩:=h
 ·exact h3
 ·exact absurd hc (h5 b hb (Nat.le_refl _) h3).2
theorem UnInv.none {s:ByteArray} {a b:Nat} {acc:List UInt8} (h:UnInv s a b acc) (hb:b<s.size) (hc:s[b]'hb=38) (ho:oneAt (rest s b)=none):UnInv s a (b+1) acc:=by
 obtain ⟨h3,h4⟩:=h.at38 hb hc
 refine ⟨h.1,hb,Or.inl ⟨by omega,?_⟩⟩
 rw[sl_snoc h3 hb,←List.append_assoc]
 exact h4.none hb ho
theorem UnInv.some {s:ByteArray} {a b:Nat} {acc:List UInt8} (h:UnInv s a b acc) (hb:b<s.size) (hc:s[b]'hb=38) {x:UInt8} {n:Nat} (ho:oneAt (rest s b)=some (x,n)):
 UnInv s (b+n) (b+1) (acc++flat [s.extract a b,⟨#[x]⟩]):=by
 obtain ⟨h3,h4⟩:=h.at38 hb hc
 obtain ⟨g1,g2,g3⟩:=h4.some hb hc ho
 have e:acc++flat [s.extract a b,⟨#[x]⟩]=acc++sl s a b++[x]:=by rw[flat_two,List.append_assoc]
 rw[e]
 by_cases en:n=1
 ·subst en
  exact ⟨g2,hb,Or.inl ⟨Nat.le_refl _,by rw[sl_nil,List.append_nil];exact g1⟩⟩
 ·exact ⟨g2,hb,Or.inr ⟨by omega,g1,fun j hj k1 k2=>one_bytes ho j hj k1 k2⟩⟩
theorem UnInv.done {s:ByteArray} {a:Nat} {acc:List UInt8} (h:UnInv s a s.size acc):acc++flat [s.extract a s.size]=un s.data.toList:=by
 obtain ⟨h1,_,⟨_,h3⟩ | ⟨h3,_⟩⟩:=h
 ·rw[←h3.done,flat_one]
 ·omega
theorem UnInv.two {s:ByteArray} (hs:s.size≤65536) {a b:Nat} {acc:List UInt8} (h:UnInv s a b acc) (x:UInt8):acc.length+(flat [s.extract a b,⟨#[x]⟩]).length≤140737488355328:=by
 have h1:=h.len
 have h2:=sl_len s a b
 have h3:(flat [s.extract a b,⟨#[x]⟩]).length=(sl s a b).length+1:=by rw[←sl_flat];simp[flat]
 omega
theorem UnInv.one {s:ByteArray} (hs:s.size≤65536) {a b:Nat} {acc:List UInt8} (h:UnInv s a b acc) (c d:Nat):acc.length+(flat [s.extract c d]).length≤140737488355328:=by
 have h1:=h.len
 have h2:=sl_len s c d
 have h3:(flat [s.extract c d]).length=(sl s c d).length:=by rw[←sl_flat];simp[flat]
 omega
end Go.Proofs.YthdkkpbhijlpaaaGreatDoor
namespace Go.Proofs.YthdkkpbhijlpaaaGreatDoor
open Go.ChangeShapes Go.WideShapes Go.ChangeAt Go.RowKit Go.Shelf
def UnRel (s:ByteArray) (w wr:World) (a b:Nat):Prop:=
 ∃acc:List UInt8,BldF w.heap.size w.heap.size (Lib.byteCells acc) wr∧wr.heap[w.heap.size+1]?=some (.stringIter s b)∧Below w.heap.size w wr∧UnInv s a b acc
theorem UnRel.start (s:ByteArray) (w:World):UnRel s w ((w.alloc (.cells #[.pointer none,.slice none 0 0] 94)).iter s 0) 0 0:=by
 refine ⟨[],?_,?_,((Below.refl _ w).alloc (Nat.le_refl _) _).alloc (by simp) _,UnInv.start s⟩
 ·have:=(Lib.IsBuilderF.of (Lib.fresh_isBuilder 94 5 w)).alloc (.stringIter s 0)
  exact this
 ·have:=World.iter_heap (w.alloc (.cells #[.pointer none,.slice none 0 0] 94)) s 0
  simpa using this
theorem cut_from (s:ByteArray) (a:Nat) (ha:a≤s.size) (w:World):(Instr.slice 9 (.string s) (some (.int .i64 a)) none none).run Tryz.prog w=.ok (.string (s.extract a s.size)) w:=by
 rw[run_slice_string_from_if w 9 s .i64 _ Tryz.underlying9,if_pos (by omega)]
 simp
theorem upTo_at (s:ByteArray) (b:Nat) (hs:s.size≤65536) (w:World):
 Calls Tryz.prog 261 #[.string (s.extract b s.size)] w fun e w'=>e=.returned (.string ⟨(told (rest s b)).toArray⟩)∧w=w':=by
 have h:=upTo_any (s.extract b s.size) (by rw[ByteArray.size_extract];omega) w
 have e:(s.extract b s.size).data.toList=rest s b:=by
  rw[extract_list];unfold rest;rw[List.take_of_length_le (by simp)]
 rw[e]at h
 exact h
set_option maxHeartbeats 8000000 in
set_option maxRecDepth 100000 in
theorem implUn_small (s:ByteArray) (hs:(s.size:Int)≤65536) (w:World) (hw:Env w):
 Calls Tryz.prog 226 #[.string s] w fun e w'=>e=.returned (.string ⟨(un s.data.toList).toArray⟩)∧Below w.heap.size w w':=by
 have h':¬(65536:Int)<s.size:=by omega
 go_enter Tryz.func226,Tryz.ntmps226
 go_wp2
 go_loopw [4] (fun i wr=>∃a b:Nat,i=.int .i64 a∧UnRel s w wr a b) (fun _ wr=>s.size-wr.iterPos (w.heap.size+1))
 case atStart=>exact ⟨0,0,rfl,UnRel.start s w⟩
 case round=>
  obtain ⟨a,b,rfl,acc,hI,hit,hbw,hu⟩:=hrel
  have HU:=Lib.hid hu
  have hbs:=hu.2.1
  have ha:=hu.1
  clear hu
  have hsz:w.heap.size+1<wr.heap.size:=(Array.getElem?_eq_some_iff.1 hit).1
  by_cases hp:b<s.size
  ·by_cases hasc:(s[b]'hp).toNat<128
   ·have hnx:∀ty,(Instr.next (.pointer (some ⟨w.heap.size+1,0,none⟩)) true ty).run Tryz.prog wr=_:=fun ty=>Lib.run_next_ascii_at wr (w.heap.size+1) s b ty hit hp hasc
    have hI2:=hI.iterAt hit (b+1)
    have hit2:=Lib.iterAt_heap wr (w.heap.size+1) s b (b+1) hit
    have hbw2:=Lib.below_iterAt hbw (k:=w.heap.size+1) (by omega) s (b+1)
    have hsz2:w.heap.size+1<(wr.iterAt (w.heap.size+1) s (b+1)).heap.size:=by rw[Lib.iterAt_size];omega
    generalize hW:wr.iterAt (w.heap.size+1) s (b+1)=W2 at hnx hI2 hit2 hbw2 hsz2
    clear hW hI hbw
    by_cases h38:s[b]'hp=38
    ·have h38i:(((s[b]'hp).toNat:Int) != 38)=false:=by rw[h38];rfl
     have h38h:=Lib.hid h38
     clear h38
     have hab:=(HU.out.at38 hp h38h.out).1
     have hx:=cut_from s b (by omega)
     have hUp:=upTo_at s b (by omega)
     have hTl:=told_le (rest s b)
     have hTe:=told_end (rest s b)
     generalize hT:(⟨(told (rest s b)).toArray⟩:ByteArray)=T at hUp
     have hTd:T.data.toList=told (rest s b):=by rw[←hT]
     have hTs:T.size=(told (rest s b)).length:=by rw[←hTd];simp
     have hMe:=fun w hw=>meaningOf_any T (by omega) (by rw[hTd];exact hTe) w hw
     rw[hTd]at hMe
     have hTs':(T.size:Int)=((told (rest s b)).length:Int):=by omega
     cases hm:meaning (told (rest s b)) with
     | none=>
      have ho:oneAt (rest s b)=none:=by unfold oneAt;rw[hm];rfl
      have hM:mtext (told (rest s b))=⟨#[]⟩:=by unfold mtext;rw[hm]
      rw[hM]at hMe
      clear hT hTd hTs hTl hTe hTs' hm hM
      go_wp2_with (first | (go_at_call 261;refine (hUp _).mono ?_;rintro e w1 ⟨rfl,rfl⟩) | (go_at_call 262;refine (hMe _ (hw.below hbw2)).mono ?_;rintro e w1 ⟨rfl,hb1⟩))
      have hI3:=BldF.later hI2 hb1
      have hit3:w1.heap[w.heap.size+1]?=some (.stringIter s (b+1)):=(hb1.block _ hsz2).trans hit2
      have hbw3:Below w.heap.size w w1:=hbw2.trans (hb1.mono (by omega))
      go_roundw
      case rel=>exact ⟨a,b+1,rfl,acc,hI3,hit3,hbw3,HU.out.none hp h38h.out ho⟩
      case measure=>
       simp only[World.iterPos,hit3,hit]
       omega
     | some x=>
      have ho:oneAt (rest s b)=some (x,(told (rest s b)).length):=by unfold oneAt;rw[hm];rfl
      have hM:mtext (told (rest s b))=⟨#[x]⟩:=by unfold mtext;rw[hm]
      have hx2:=cut_at s a b hab (by omega) a b rfl rfl
      rw[hM]at hMe
      have HO:=Lib.hid ho
      have hl:=HU.out.two (by omega) x
      generalize (told (rest s b)).length=n at HO hTs'
      have hn6:n≤6:=by omega
      have hTw:IntKind.i64.wrap ((b:Int)+(T.size:Int))=((b+n:Nat):Int):=by rw[IntKind.wrap_i64];omega
      clear hT hTd hTs hTl hTe hm hM ho
      go_wp2_with (first | (go_at_call 261;refine (hUp _).mono ?_;rintro e w1 ⟨rfl,rfl⟩) | (go_at_call 262;refine (hMe _ (hw.below hbw2)).mono ?_;rintro e w1 ⟨rfl,hb1⟩))
      have hI3:=BldF.later hI2 hb1
      have hit3:w1.heap[w.heap.size+1]?=some (.stringIter s (b+1)):=(hb1.block _ hsz2).trans hit2
      have hbw3:Below w.heap.size w w1:=hbw2.trans (hb1.mono (by omega))
      have hsz3:w.heap.size<w1.heap.size:=by have:=(Array.getElem?_eq_some_iff.1 hit3).1;omega
      refine (writeTwo_any w.heap.size _ (s.extract a b) ⟨#[x]⟩ w1 hI3 hl hsz3).mono ?_
      rintro e w2 ⟨rfl,g1,g2,g3⟩
      have hit4:w2.heap[w.heap.size+1]?=some (.stringIter s (b+1)):=g3.iter hit3 (by omega)
      have hbw4:Below w.heap.size w w2:=hbw3.trans g2
      go_wp2
      go_roundw
      case rel=>exact ⟨b+n,b+1,by go_num,_,g1,hit4,hbw4,HU.out.some hp h38h.out HO.out⟩
      case measure=>
       simp only[World.iterPos,hit4,hit]
       omega
    ·have h38i:(((s[b]'hp).toNat:Int) != 38)=true:=by
      rw[bne_iff_ne]
      intro e
      exact h38 (UInt8.toNat_inj.1 (by show _=38;omega))
     have h38h:=Lib.hid h38
     clear h38
     go_wp2
     go_roundw
     case rel=>exact ⟨a,b+1,rfl,acc,hI2,hit2,hbw2,HU.out.next hp h38h.out⟩
     case measure=>
      simp only[World.iterPos,hit2,hit]
      omega
   ·have hnx:∀ty,(Instr.next (.pointer (some ⟨w.heap.size+1,0,none⟩)) true ty).run Tryz.prog wr=_:=fun ty=>Lib.run_next_any_at wr (w.heap.size+1) s b ty hit hp
    obtain ⟨hw1,hw2⟩:=width_in hp
    have hI2:=hI.iterAt hit (b+(Utf8.decode s b).2)
    have hit2:=Lib.iterAt_heap wr (w.heap.size+1) s b (b+(Utf8.decode s b).2) hit
    have hbw2:=Lib.below_iterAt hbw (k:=w.heap.size+1) (by omega) s (b+(Utf8.decode s b).2)
    generalize hW:wr.iterAt (w.heap.size+1) s (b+(Utf8.decode s b).2)=W2 at hnx hI2 hit2 hbw2
    clear hW hI hbw
    have hdec:=decode_high s b hp (by omega)
    have hrun:∀j (hj:j<s.size),b≤j→j<b+(Utf8.decode s b).2→s[j]'hj≠38:=fun j hj g1 g2 e=>by
     have:=conts hp (by omega) j hj g1 g2
     rw[e]at this
     exact absurd this (by decide)
    have hnu:=Lib.hid (HU.out.run (Utf8.decode s b).2 hw2 hrun)
    have h38i:(((Utf8.decode s b).1:Int) != 38)=true:=by
     rw[bne_iff_ne]
     have:=hdec.1
     omega
    go_wp2
    go_roundw
    case rel=>exact ⟨a,b+(Utf8.decode s b).2,rfl,acc,hI2,hit2,hbw2,hnu.out⟩
    case measure=>
     simp only[World.iterPos,hit2,hit]
     omega
  ·obtain rfl:b=s.size:=by omega
   have hnx:∀ty,(Instr.next (.pointer (some ⟨w.heap.size+1,0,none⟩)) true ty).run Tryz.prog wr=_:=fun ty=>Lib.run_next_end_at wr (w.heap.size+1) s s.size ty hit hp
   have hx:=cut_from s a ha
   have hl:=HU.out.one (by omega) a s.size
   have hsz5:w.heap.size<wr.heap.size:=by omega
   go_wp2_with (go_at_call 116;refine (writeOne_any w.heap.size _ (s.extract a s.size) wr hI hl hsz5).mono ?_)
   rintro e w1 ⟨rfl,g1,g2,g3⟩
   have hbw4:Below w.heap.size w w1:=hbw.trans g2
   have e1:=HU.out.done
   rw[e1]at g1
   have hsz4:w.heap.size≤w1.heap.size:=hbw4.size
   go_wp2_with (go_at_call 62;refine (string_any w.heap.size w.heap.size _ _ g1 hsz4).mono ?_)
   rintro e w2 ⟨rfl,_,k2,_⟩
   go_wp2
   go_ret
   exact ⟨rfl,hbw4.trans k2⟩
end Go.Proofs.YthdkkpbhijlpaaaGreatDoor
