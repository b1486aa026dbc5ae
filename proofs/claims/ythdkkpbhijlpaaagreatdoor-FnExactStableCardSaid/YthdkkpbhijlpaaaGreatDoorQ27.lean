import Derived.Test.YthdkkpbhijlpaaaGreatDoorQ26
set_option linter.unusedVariables false
namespace Go.Proofs.YthdkkpbhijlpaaaGreatDoor
open Go.ChangeShapes Go.WideShapes Go.ChangeAt Go.RowKit Go.Shelf Go.Deep
theorem scan_ext {s:ByteArray}:∀(k k' i:Nat) (al:List (ByteArray × ByteArray)) (f:Bool),s.size-i≤k→s.size-i≤k'→scan s k i al f=scan s k' i al f:=by
 intro k
 induction k with
 | zero=>intro k' i al f h1 _;rw[scan_out (by omega),scan_out (by omega)]
 | succ k ih=>
  intro k' i al f h1 h2
  by_cases hi:i<s.size
  ·obtain ⟨m,rfl⟩:∃m,k'=m+1:=⟨k'-1,by omega⟩
   rw[scan,scan]
   split
   ·rfl
   ·split
    ·exact ih _ _ _ _ (by omega) (by omega)
    ·have:=(attr_le hi).1
     exact ih _ _ _ _ (by omega) (by omega)
  ·rw[scan_out (by omega),scan_out (by omega)]
noncomputable def sc (s:ByteArray) (i:Nat) (al:List (ByteArray × ByteArray)) (f:Bool):Nat × List (ByteArray × ByteArray) × Bool:=scan s (s.size-i) i al f
theorem sc_of {s:ByteArray} {k i:Nat} {al:List (ByteArray × ByteArray)} {f:Bool} (h:s.size-i≤k):scan s k i al f=sc s i al f:=scan_ext _ _ _ _ _ h (Nat.le_refl _)
theorem sc_out {s:ByteArray} {i:Nat} {al:List (ByteArray × ByteArray)} {f:Bool} (h:s.size≤i):sc s i al f=(i,al,f):=scan_out h
theorem sc_end {s:ByteArray} {i:Nat} {al:List (ByteArray × ByteArray)} {f:Bool} (h:i<s.size) (hc:byteAt s i=62):sc s i al f=(i,al,f):=scan_end h (by rw[byteAt_in h]at hc;simpa using hc)
theorem sc_skip {s:ByteArray} {i:Nat} {al:List (ByteArray × ByteArray)} {f:Bool} (h:i<s.size) (hb:blankB (byteAt s i)=true∨byteAt s i=47):sc s i al f=sc s (i+1) al (byteAt s i==47):=by
 rw[←sc_of (k:=s.size-(i+1)+1) (by omega)]
 rw[byteAt_in h]at hb ⊢
 rw[scan_skip h ?_ hb]
 ·rfl
 ·have hne:(s[i].toNat:Int)≠62:=by
   rcases hb with hb | hb
   ·intro e;rw[e]at hb;revert hb;decide
   ·omega
  simpa using hne
theorem sc_attr {s:ByteArray} {i:Nat} {al:List (ByteArray × ByteArray)} {f:Bool} (h:i<s.size) (hc:byteAt s i≠62) (hb:blankB (byteAt s i)=false) (h47:byteAt s i≠47):sc s i al f=sc s (attrOf s i).2.2 (keepA al (attrOf s i).1 (attrOf s i).2.1) false:=by
 have h1:=(attr_le h).1
 rw[←sc_of (k:=s.size-(i+1)+1) (by omega)]
 rw[byteAt_in h]at hb hc h47
 rw[scan_attr h (by simpa using hc) hb (by simpa using h47)]
 exact sc_of (by omega)
theorem sc_run {s:ByteArray} {al:List (ByteArray × ByteArray)}:∀(n i:Nat) (f:Bool),runAt skipC s i=n→i≤s.size→sc s i al f=sc s (i+n) al (if n=0 then f else byteAt s (i+n-1)==47):=by
 intro n
 induction n with
 | zero=>intro i f _ _;rfl
 | succ n ih=>
  intro i f hn hi
  have hlt:i<s.size:=by
   rcases Nat.lt_or_ge i s.size with h | h
   ·exact h
   ·rw[show i=s.size by omega,runAt_end]at hn;omega
  cases hp:skipC (s[i].toNat:Int) with
  | false=>rw[runAt_no hlt hp]at hn;omega
  | true=>
   rw[runAt_yes hlt hp]at hn
   rw[sc_skip hlt (by rw[byteAt_in hlt];simp[skipC]at hp;exact hp),ih (i+1) _ (by omega) hlt,show i+1+n=i+(n+1) by omega]
   congr 1
   by_cases h0:n=0
   ·subst h0;rfl
   ·rw[if_neg h0,if_neg (by omega)]
theorem sc_last {s:ByteArray} {al:List (ByteArray × ByteArray)} {i j:Nat} (hj:j=i+runAt skipC s i) (hi:i≤s.size):sc s i al false=sc s j al (lastB s i j):=by
 subst hj
 rw[sc_run _ i false rfl hi]
 congr 1
 unfold lastB
 by_cases h0:runAt skipC s i=0
 ·rw[if_pos h0,h0];simp
 ·rw[if_neg h0,decide_eq_true (by omega),Bool.true_and]
theorem sc_blank {s:ByteArray} {al:List (ByteArray × ByteArray)}:∀(n i:Nat),runAt blankB s i=n→i≤s.size→sc s i al false=sc s (i+n) al false:=by
 intro n
 induction n with
 | zero=>intro i _ _;rfl
 | succ n ih=>
  intro i hn hi
  have hlt:i<s.size:=by
   rcases Nat.lt_or_ge i s.size with h | h
   ·exact h
   ·rw[show i=s.size by omega,runAt_end]at hn;omega
  cases hp:blankB (s[i].toNat:Int) with
  | false=>rw[runAt_no hlt hp]at hn;omega
  | true=>
   rw[runAt_yes hlt hp]at hn
   have h47:(byteAt s i==47)=false:=by
    rw[byteAt_in hlt,beq_eq_false_iff_ne]
    intro e;rw[e]at hp;revert hp;decide
   rw[sc_skip hlt (Or.inl (by rw[byteAt_in hlt];exact hp)),h47,ih (i+1) (by omega) hlt,show i+1+n=i+(n+1) by omega]
theorem runAt_stop {p:Int→Bool} {s:ByteArray}:∀(n i:Nat),runAt p s i=n→i+n<s.size→p (byteAt s (i+n))=false:=by
 intro n
 induction n with
 | zero=>
  intro i hn hi
  rw[Nat.add_zero]at hi ⊢
  cases hp:p (s[i].toNat:Int) with
  | false=>rw[byteAt_in hi];exact hp
  | true=>rw[runAt_yes hi hp]at hn;omega
 | succ n ih=>
  intro i hn hi
  have hlt:i<s.size:=by omega
  cases hp:p (s[i].toNat:Int) with
  | false=>rw[runAt_no hlt hp]at hn;omega
  | true=>
   rw[runAt_yes hlt hp]at hn
   have:=ih (i+1) (by omega) (by omega)
   rw[show i+1+n=i+(n+1) by omega]at this
   exact this
noncomputable def openFin (s:ByteArray) (a:Nat) (nm:ByteArray) (R:Nat × List (ByteArray × ByteArray) × Bool):Tk:=
 if s.size≤R.1 then noTk 5 a (s.size-a) ⟨#[]⟩ ⟨#[]⟩ else if namedB small tagB nm=true then ⟨2,a,R.1+1-a,nm,⟨#[]⟩,R.2.1,R.2.2⟩ else noTk 5 a (R.1+1-a) ⟨#[]⟩ ⟨#[]⟩
theorem openOf_fin (s:ByteArray) (a:Nat):openOf s a=openFin s a (nameOf s (a+1)) (sc s (a+1+runAt inName s (a+1)) [] false):=by
 unfold openOf openFin
 rw[sc_of (by omega)]
theorem openFin_out {s nm:ByteArray} {a i:Nat} {al:List (ByteArray × ByteArray)} {f:Bool} (h:s.size≤i):openFin s a nm (sc s i al f)=noTk 5 a (s.size-a) ⟨#[]⟩ ⟨#[]⟩:=by rw[sc_out h];exact if_pos h
theorem openFin_in {s nm:ByteArray} {a j:Nat} {al:List (ByteArray × ByteArray)} {f:Bool} (h:j<s.size) (hc:byteAt s j=62):openFin s a nm (sc s j al f)=if namedB small tagB nm=true then ⟨2,a,j+1-a,nm,⟨#[]⟩,al,f⟩ else noTk 5 a (j+1-a) ⟨#[]⟩ ⟨#[]⟩:=by
 rw[sc_end h hc];exact if_neg (Nat.not_le.2 h)
theorem attrI_fin {s nm:ByteArray} {a i:Nat} {al:List (ByteArray × ByteArray)} (hi:i<s.size):
 openFin s a nm (sc s (attrOf s i).2.2 (keepA al (attrOf s i).1 (attrOf s i).2.1) false)=openFin s a nm (sc s (attrI s i).2.2 (keepA al (attrI s i).1 (attrI s i).2.1) false):=by
 have h1:=aEnd_le hi
 unfold attrOf attrI
 by_cases h61:byteAt s (aEq s i)=61
 ·rw[if_pos h61,if_pos h61]
  by_cases hq:byteAt s (aVal s i)=34∨byteAt s (aVal s i)=39
  ·rw[if_pos hq,if_pos hq]
   have hqs:(s.extract (aVal s i) (aVal s i+1)).size=1:=by
    have hlt:aVal s i<s.size:=by
     rcases Nat.lt_or_ge (aVal s i) s.size with h | h
     ·exact h
     ·rw[byteAt,dif_neg (by omega)]at hq;omega
    rw[ByteArray.size_extract];omega
   unfold gone
   rw[hqs]
   by_cases hf:(findTo s (s.extract (aVal s i) (aVal s i+1)) (aVal s i+1)).2=true
   ·rw[if_pos hf,if_pos hf]
   ·rw[if_neg hf,if_neg hf,Nat.add_zero]
    have he:(findTo s (s.extract (aVal s i) (aVal s i+1)) (aVal s i+1)).1=s.size:=by
     unfold findTo at hf ⊢
     split at hf
     ·exact absurd rfl hf
     ·rename_i hx;rw[if_neg hx]
    exact (openFin_out (i:=s.size) (Nat.le_refl _)).trans (openFin_out (i:=(findTo s (s.extract (aVal s i) (aVal s i+1)) (aVal s i+1)).1) (by omega)).symm
  ·rw[if_neg hq,if_neg hq]
 ·rw[if_neg h61,if_neg h61]
  show openFin s a nm (sc s (aEnd s i) _ false)=openFin s a nm (sc s (aEq s i) _ false)
  rw[sc_blank _ (aEnd s i) rfl h1.2]
  rfl
def withLen (T:Tk) (l:Nat):Tk:={ T with l:=l }
theorem tagEnd_fin {s nm:ByteArray} {a j:Nat} {T:Tk} {al:List (ByteArray × ByteArray)} {f:Bool} (hT:T=⟨2,a,0,nm,⟨#[]⟩,al,f⟩) (hj:j≤s.size) (h:j<s.size→byteAt s j=62):
 withLen (endTk s j T) ((if (byteAt s j==62)=true then j+1 else j)-a)=openFin s a nm (sc s j al f):=by
 subst hT
 by_cases hlt:j<s.size
 ·rw[openFin_in hlt (h hlt),h hlt]
  unfold endTk withLen
  rw[h hlt]
  by_cases hn:namedB small tagB nm=true
  ·rw[if_pos ⟨rfl,hn⟩,if_pos hn,if_pos (by decide)]
  ·rw[if_neg (fun h=>hn h.2),if_neg hn,if_pos (by decide)]
   rfl
 ·rw[openFin_out (by omega)]
  have hb:(byteAt s j==62)=false:=by rw[byteAt,dif_neg hlt];decide
  unfold endTk withLen
  rw[hb,if_neg (fun h=>by cases h.1),if_neg (by decide),show j=s.size by omega]
  rfl
theorem find_gt (s:ByteArray) (i:Nat) (hi:i≤s.size):findTo s gtS i=if i+runAt inGt s i<s.size then (i+runAt inGt s i,true) else (s.size,false):=by
 have hx:findIx s gtS i=if runAt inGt s i<s.size-i then ((runAt inGt s i:Nat):Int) else -1:=by
  have h1:=indexAny_run (p:=inGt) (cs:=[62]) (fun b=>one_cs 62 b) (rest s i)
  rw[runAt_rest,rest_len,Lib.indexAny_one]at h1
  unfold findIx
  rw[show gtS.data.toList=[62] from rfl,←h1,show s.data.toList.drop i=rest s i from rfl]
  have:∀l:List UInt8,Lib.index l [62]=Lib.indexByte l 62:=by
   intro l
   induction l with
   | nil=>rfl
   | cons b l ih=>
    rw[Lib.index,Lib.indexByte,ih]
    have:([62]:List UInt8).isPrefixOf (b::l)=(b==62):=by simp[List.isPrefixOf,Bool.beq_comm]
    rw[this]
  exact this _
 unfold findTo
 rw[hx]
 by_cases h:runAt inGt s i<s.size-i
 ·rw[if_pos h,if_pos (by omega),if_pos (by omega)];simp
 ·rw[if_neg h,if_neg (by decide),if_neg (by omega)]
theorem close_fin {s:ByteArray} {a j:Nat} (ha:a+2≤s.size) (hj:j=a+2+runAt inName s (a+2)+runAt inGt s (a+2+runAt inName s (a+2))):
 withLen (endTk s j ⟨3,a,0,nameOf s (a+2),⟨#[]⟩,[],false⟩) ((if (byteAt s j==62)=true then j+1 else j)-a)=closeTk s a:=by
 have h1:=runAt_le inName s (a+2) ha
 have h2:=runAt_le inGt s _ h1
 unfold closeTk
 rw[find_gt _ _ h1,←hj]
 rw[←hj]at h2
 by_cases hlt:j<s.size
 ·have h62:byteAt s j=62:=by
   have:=runAt_stop (p:=inGt) _ _ rfl (by rw[←hj];exact hlt)
   rw[←hj]at this
   simpa[inGt]using this
  rw[if_pos hlt,h62]
  unfold endTk withLen
  rw[h62]
  by_cases hn:namedB small tagB (nameOf s (a+2))=true
  ·rw[if_pos ⟨rfl,hn⟩,if_pos rfl];exact (if_pos hn).symm
  ·rw[if_neg (fun h=>hn h.2),if_pos rfl];exact (if_neg hn).symm
 ·rw[if_neg hlt]
  have hb:(byteAt s j==62)=false:=by rw[byteAt,dif_neg hlt];decide
  unfold endTk withLen
  rw[hb,if_neg (fun h=>by cases h.1),if_neg (by decide),show j=s.size by omega]
  rfl
end Go.Proofs.YthdkkpbhijlpaaaGreatDoor
namespace Go.Proofs.YthdkkpbhijlpaaaGreatDoor
open Go.ChangeShapes Go.WideShapes Go.ChangeAt Go.RowKit Go.Shelf Go.Deep
def zTk (a:Nat):Tk:=⟨0,a,0,⟨#[]⟩,⟨#[]⟩,[],false⟩
inductive Way (s raw:ByteArray) (a:Nat):Value→Tk→Nat→Prop
 | beg:Way s raw a (.func (.func 107) #[] #[]) (zTk a) a
 | raw (h:nextOf s a raw=noTk 1 a (rawEnd s raw a-a) ⟨#[]⟩ (s.extract a (rawEnd s raw a))):Way s raw a (.func (.func 167) #[] #[]) (zTk a) a
 | opn (h:nextOf s a raw=openOf s a):Way s raw a (.func (.func 169) #[] #[]) (zTk a) a
 | cls (h:nextOf s a raw=closeTk s a) (h2:a+2≤s.size):Way s raw a (.func (.func 170) #[] #[]) (zTk a) a
 | cmt (h:nextOf s a raw=commentTk s endS a (a+4)) (h2:a+4≤s.size):Way s raw a (.func (.func 171) #[] #[]) (zTk a) a
 | rmk (h:nextOf s a raw=commentTk s gtS a (a+2)) (h2:a+2≤s.size):Way s raw a (.func (.func 172) #[] #[]) (zTk a) a
 | wrd (h:nextOf s a raw=wordsTk s a):Way s raw a (.func (.func 173) #[] #[]) (zTk a) a
 | wit (nm:ByteArray) (al:List (ByteArray × ByteArray)) (i:Nat) (h1:a≤i) (h2:i≤s.size) (hn:nm.size≤65536) (h:openFin s a nm (sc s i al false)=nextOf s a raw):Way s raw a (.func (.func 223) #[] #[]) ⟨2,a,0,nm,⟨#[]⟩,al,false⟩ i
 | att (nm:ByteArray) (al:List (ByteArray × ByteArray)) (f:Bool) (i:Nat) (h1:a≤i) (h2:i<s.size) (h62:byteAt s i≠62) (hb:blankB (byteAt s i)=false) (h47:byteAt s i≠47) (hn:nm.size≤65536) (h:openFin s a nm (sc s i al f)=nextOf s a raw):Way s raw a (.func (.func 258) #[] #[]) ⟨2,a,0,nm,⟨#[]⟩,al,false⟩ i
 | fin (T:Tk) (i:Nat) (hT:T.a=a) (h1:a≤i) (h2:i≤s.size) (hn:T.n.size≤65536) (h:withLen (endTk s i T) ((if (byteAt s i==62)=true then i+1 else i)-a)=nextOf s a raw):Way s raw a (.func (.func 224) #[] #[]) T i
 | nil (T:Tk) (i:Nat) (h1:a≤i) (h2:i≤s.size) (h:withLen T (i-a)=nextOf s a raw):Way s raw a .nilFunc T i
def rankF (f:Nat):Nat:=if f=107 then 9 else if f=223 then 2 else if f=258 then 1 else if f=224 then 1 else 8
def rankV:Value→Nat
 | .func (.func f) _ _=>rankF f
 | _=>0
theorem rank_beg (p b1 b2 b3 b4 b5 b6:Bool):rankV (begV p b1 b2 b3 b4 b5 b6)≤8:=by
 unfold begV
 repeat' split
 all_goals decide
theorem pre_two (s:ByteArray) (i:Nat) (c d:UInt8):Lib.hasPrefix (rest s i) [c,d]=(byteAt s i==(c.toNat:Int)&&byteAt s (i+1)==(d.toNat:Int)):=by
 rw[pre_cons,pre_cons,pre_nil,Bool.and_true]
theorem byteAt_lt {s:ByteArray} {j:Nat} (h:byteAt s j≠-1):j<s.size:=by
 rcases Nat.lt_or_ge j s.size with h1 | h1
 ·exact h1
 ·exact absurd (dif_neg (by omega)) h
theorem letB_lt {s:ByteArray} {j:Nat} (h:letB (byteAt s j)=true):j<s.size:=byteAt_lt fun e=>by rw[e]at h;revert h;decide
theorem cm_pre (s:ByteArray) (a:Nat):(Lib.hasPrefix (rest s a) [60,33,45,45]=true)↔(a+4≤s.size∧s.extract a (a+4)=cmS):=by
 unfold Lib.hasPrefix
 rw[List.isPrefixOf_iff_prefix]
 constructor
 ·rintro ⟨l,hl⟩
  have hlen:=congrArg List.length hl
  rw[rest_len]at hlen
  simp at hlen
  refine ⟨by omega,bytes_ext ?_⟩
  rw[extract_list,List.drop_take,show s.data.toList.drop a=rest s a from rfl,←hl,show a+4-a=4 by omega]
  rfl
 ·rintro ⟨h1,h2⟩
  refine ⟨(rest s a).drop 4,?_⟩
  have h3:(s.extract a (a+4)).data.toList=cmS.data.toList:=by rw[h2]
  rw[extract_list,List.drop_take,show s.data.toList.drop a=rest s a from rfl,show a+4-a=4 by omega]at h3
  have:(rest s a).take 4=[60,33,45,45]:=h3
  rw[←this,List.take_append_drop]
theorem beg_way (s raw:ByteArray) (a:Nat) (ha:a<s.size):Way s raw a (begB s raw a) (zTk a) a:=by
 have hre:=rawEnd_le s raw a (Nat.le_of_lt ha)
 unfold begB begV
 cases hp:rawRd s raw a with
 | true=>
  rw[if_pos rfl]
  unfold rawRd at hp
  simp at hp
  have h1:a<rawEnd s raw a:=by
   rw[rawEnd_miss ha hp.2]
   exact (rawEnd_le s raw (a+1) ha).1
  exact .raw (if_pos ⟨hp.1,h1⟩)
 | false=>
  rw[if_neg (by decide)]
  have hn:nextOf s a raw=markTk s a:=by
   refine if_neg fun h=>?_
   unfold rawRd at hp
   rw[decide_eq_true h.1,Bool.true_and]at hp
   have hh:rawHit s raw a=true:=by simpa using hp
   rw[rawEnd_hit ha hh]at h
   exact absurd h.2 (Nat.lt_irrefl _)
  rw[pre_cons (l:=[]),pre_nil,Bool.and_true,pre_two,pre_two,pre_two]
  simp only[show ((60:UInt8).toNat:Int)=60 from rfl,show ((47:UInt8).toNat:Int)=47 from rfl,show ((33:UInt8).toNat:Int)=33 from rfl,show ((63:UInt8).toNat:Int)=63 from rfl]
  by_cases h60:byteAt s a=60
  ·rw[h60]
   simp only[beq_self_eq_true,Bool.true_and]
   by_cases hl1:letB (byteAt s (a+1))=true
   ·rw[if_pos hl1]
    have:=letB_lt hl1
    refine .opn (hn.trans ?_)
    unfold markTk
    rw[if_neg (by rw[h60];omega),if_pos hl1]
   ·rw[if_neg hl1]
    by_cases hend:a+1=s.size
    ·have hb:byteAt s (a+1) = -1:=dif_neg (by omega)
     rw[hb]
     have h3:¬Lib.hasPrefix (rest s a) [60,33,45,45]=true:=fun h=>by have:=((cm_pre s a).1 h).1;omega
     rw[if_neg (by simp),if_neg h3,if_neg (by decide)]
     refine .wrd (hn.trans ?_)
     unfold markTk
     rw[if_pos (Or.inr hend)]
    ·have hm:markTk s a=if byteAt s (a+1)=47∧letB (byteAt s (a+2))=true then closeTk s a else if a+4≤s.size∧s.extract a (a+4)=cmS then commentTk s endS a (a+4)
      else if byteAt s (a+1)=33∨byteAt s (a+1)=63∨byteAt s (a+1)=47 then commentTk s gtS a (a+2) else wordsTk s a:=by
      unfold markTk
      rw[if_neg (by rw[h60];omega),if_neg hl1]
     by_cases hc:byteAt s (a+1)=47∧letB (byteAt s (a+2))=true
     ·rw[if_pos (by rw[hc.1,hc.2];decide)]
      refine .cls (hn.trans (hm.trans (if_pos hc))) (by omega)
     ·rw[if_neg (by simpa using hc)]
      rw[if_neg hc]at hm
      by_cases hcm:Lib.hasPrefix (rest s a) [60,33,45,45]=true
      ·rw[if_pos hcm]
       have h4:=(cm_pre s a).1 hcm
       rw[if_pos h4]at hm
       exact .cmt (hn.trans hm) h4.1
      ·rw[if_neg hcm]
       rw[if_neg (fun h=>hcm ((cm_pre s a).2 h))]at hm
       by_cases hr:byteAt s (a+1)=33∨byteAt s (a+1)=63∨byteAt s (a+1)=47
       ·rw[if_pos (by simpa using hr)]
        rw[if_pos hr]at hm
        exact .rmk (hn.trans hm) (by omega)
       ·rw[if_neg (by simpa using hr)]
        rw[if_neg hr]at hm
        exact .wrd (hn.trans hm)
  ·have hf:(byteAt s a==60)=false:=by simpa using h60
   have h3:¬Lib.hasPrefix (rest s a) [60,33,45,45]=true:=by rw[pre_cons];show ¬((byteAt s a==60)&&_)=true;rw[hf];simp
   rw[hf,if_neg (by simp),if_neg (by simp),if_neg h3,if_neg (by simp)]
   refine .wrd (hn.trans ?_)
   unfold markTk
   rw[if_pos (Or.inl h60)]
end Go.Proofs.YthdkkpbhijlpaaaGreatDoor
namespace Go.Proofs.YthdkkpbhijlpaaaGreatDoor
open Go.ChangeShapes Go.WideShapes Go.ChangeAt Go.RowKit Go.Shelf Go.Deep
theorem attrI_le {s:ByteArray} {i:Nat} (hi:i<s.size):i<(attrI s i).2.2∧(attrI s i).2.2≤s.size:=by
 have h1:=aEnd_le hi
 have h2:=aEq_le hi
 unfold attrI
 by_cases h61:byteAt s (aEq s i)=61
 ·have h3:=aVal_le hi h61
  have h4:aEq s i+1≤aVal s i:=by unfold aVal;omega
  rw[if_pos h61]
  by_cases hq:byteAt s (aVal s i)=34∨byteAt s (aVal s i)=39
  ·rw[if_pos hq]
   have hlt:aVal s i<s.size:=byteAt_lt (by omega)
   have:=gone_le s (s.extract (aVal s i) (aVal s i+1)) (aVal s i+1) hlt
   exact ⟨by show i<gone _ _ _;omega,this.2⟩
  ·rw[if_neg hq]
   have:=runAt_le inVal s (aVal s i) h3.2
   exact ⟨by show i<aStop s i;unfold aStop;omega,this⟩
 ·rw[if_neg h61]
  exact ⟨by show i<aEq s i;omega,h2.2⟩
def StepOut (g:Nat) (s raw:ByteArray) (a:Nat) (w:World) (m:Nat) (e:Ending) (w':World):Prop:=
 ∃v T j,e=.returned v∧RdAt w' g T s j raw∧Below g w w'∧Way s raw a v T j∧3*(s.size-j)+rankV v<m
theorem step_any (s raw:ByteArray) (a:Nat) (hs:s.size≤65536) (hraw:raw.size≤65536) (ha:a<s.size) (f g i:Nat) (T:Tk) (hW:Way s raw a (.func (.func f) #[] #[]) T i) (w:World) (hE:Env2 w) (h6g:5 + 1≤g) (h:RdAt w g T s i raw):
 Calls Tryz.prog f #[.pointer (some ⟨g,0,none⟩)] w (StepOut g s raw a w (3*(s.size-i)+rankF f)):=by
 generalize hv:Value.func (.func f) #[] #[]=v at hW
 cases hW with
 | beg=>
  injection hv with hf;injection hf with hf;subst hf
  refine (readBeginning_any s raw _ g a hs hraw w h).mono fun e w' ⟨he,hR,hB⟩=>⟨_,_,_,he,hR,hB,beg_way s raw a ha,?_⟩
  have:rankV (begB s raw a)≤8:=rank_beg _ _ _ _ _ _ _
  have h9:rankF 107 = 9:=by decide
  omega
 | raw hn=>
  injection hv with hf;injection hf with hf;subst hf
  have hre:=rawEnd_le s raw a (Nat.le_of_lt ha)
  refine (readRaw_any s raw _ g a hs hraw (Nat.le_of_lt ha) w h).mono fun e w' ⟨he,hR,hB⟩=>⟨_,_,_,he,hR,hB,.nil _ _ hre.1 hre.2 (by rw[hn];rfl),?_⟩
  have h9:rankF 167 = 8:=by decide
  show 3*_+0<_
  omega
 | opn hn=>
  injection hv with hf;injection hf with hf;subst hf
  have hre:=runAt_le inName s (a+1) ha
  refine (readOpen_any s raw _ g a hs ha w h).mono fun e w' ⟨he,hR,hB⟩=>⟨_,_,_,he,hR,hB,.wit (nameOf s (a+1)) [] _ (by omega) hre (Nat.le_trans (nameOf_size _ _) hs) ((openOf_fin s a).symm.trans hn.symm),?_⟩
  have h9:rankF 169 = 8:=by decide
  have h8:rankF 223 = 2:=by decide
  show 3*_+rankF _<_
  omega
 | cls hn h2=>
  injection hv with hf;injection hf with hf;subst hf
  have hre:=runAt_le inName s (a+2) h2
  have hre2:=runAt_le inGt s _ hre
  refine (readClose_any s raw _ g a hs h2 w h).mono fun e w' ⟨he,hR,hB⟩=>⟨_,_,_,he,hR,hB,.fin _ _ rfl (by omega) hre2 (Nat.le_trans (nameOf_size _ _) hs) ((close_fin h2 rfl).trans hn.symm),?_⟩
  have h9:rankF 170 = 8:=by decide
  have h8:rankF 224 = 1:=by decide
  show 3*_+rankF _<_
  omega
 | cmt hn h2=>
  injection hv with hf;injection hf with hf;subst hf
  have hre:=gone_le s endS (a+4) h2
  have hfl:=find_le s endS (a+4) h2
  refine (readComment_any s raw _ g a hs h2 w hE h6g h).mono fun e w' ⟨he,hR,hB⟩=>⟨_,_,_,he,hR,hB,.nil _ _ (by omega) hre.2 ?_,?_⟩
  ·rw[hn]
   unfold withLen commentTk noTk commentLen gone zTk
   rw[show (findTo s endS (a+4)).1+(if (findTo s endS (a+4)).2=true then endS.size else 0)-a=(findTo s endS (a+4)).1-a+(if (findTo s endS (a+4)).2=true then endS.size else 0) from by omega]
  ·have h9:rankF 171 = 8:=by decide
   show 3*_+0<_
   omega
 | rmk hn h2=>
  injection hv with hf;injection hf with hf;subst hf
  have hre:=gone_le s gtS (a+2) h2
  have hfl:=find_le s gtS (a+2) h2
  refine (readRemark_any s raw _ g a hs h2 w hE h6g h).mono fun e w' ⟨he,hR,hB⟩=>⟨_,_,_,he,hR,hB,.nil _ _ (by omega) hre.2 ?_,?_⟩
  ·rw[hn]
   unfold withLen commentTk noTk commentLen gone zTk
   rw[show (findTo s gtS (a+2)).1+(if (findTo s gtS (a+2)).2=true then gtS.size else 0)-a=(findTo s gtS (a+2)).1-a+(if (findTo s gtS (a+2)).2=true then gtS.size else 0) from by omega]
  ·have h9:rankF 172 = 8:=by decide
   show 3*_+0<_
   omega
 | wrd hn=>
  injection hv with hf;injection hf with hf;subst hf
  have hre:=runAt_le inWord s (a+1) ha
  refine (readWords_any s raw _ g a hs ha w hE h6g h).mono fun e w' ⟨he,hR,hB⟩=>⟨_,_,_,he,hR,hB,.nil _ _ (by omega) hre ?_,?_⟩
  ·rw[hn]
   unfold withLen wordsTk noTk zTk
   rw[show a+1+runAt inWord s (a+1)-a=1+runAt inWord s (a+1) by omega]
  ·have h9:rankF 173 = 8:=by decide
   show 3*_+0<_
   omega
 | wit nm al i h1 h2 hn hf'=>
  injection hv with hf;injection hf with hf;subst hf
  have hj:=runAt_le skipC s i h2
  have h9:rankF 223 = 2:=by decide
  have hl:=sc_last (al:=al) (rfl:i+runAt skipC s i=i+runAt skipC s i) h2
  rw[hl]at hf'
  by_cases hlt:i+runAt skipC s i<s.size
  ·by_cases h62:byteAt s (i+runAt skipC s i)=62
   ·refine (readWithinTag_gt s raw _ g i _ rfl hs h2 hlt h62 w h).mono fun e w' ⟨he,hR,hB⟩=>⟨_,_,_,he,hR,hB,.fin _ _ rfl (by omega) hj hn ((tagEnd_fin rfl hj fun _=>h62).trans hf'),?_⟩
    have h8:rankF 224 = 1:=by decide
    show 3*_+rankF _<_
    omega
   ·have hst:=runAt_stop (p:=skipC) _ i rfl hlt
    unfold skipC at hst
    rw[Bool.or_eq_false_iff]at hst
    refine (readWithinTag_attr s raw _ g i _ rfl hs h2 hlt h62 w h).mono fun e w' ⟨he,hR,hB⟩=>⟨_,_,_,he,hR,hB,.att nm al _ _ (by omega) hlt h62 hst.1 (beq_eq_false_iff_ne.1 hst.2) hn hf',?_⟩
    have h8:rankF 258 = 1:=by decide
    show 3*_+rankF _<_
    omega
  ·refine (readWithinTag_out s raw _ g i _ rfl hs h2 hlt w h).mono fun e w' ⟨he,hR,hB⟩=>⟨_,_,_,he,hR,hB,.fin _ _ rfl (by omega) hj hn ((tagEnd_fin rfl hj fun h=>absurd h hlt).trans hf'),?_⟩
   have h8:rankF 224 = 1:=by decide
   show 3*_+rankF _<_
   omega
 | att nm al f0 i h1 h2 h62 hb h47 hn hf'=>
  injection hv with hf;injection hf with hf;subst hf
  have hj:=attrI_le h2
  rw[sc_attr h2 h62 hb h47,attrI_fin h2]at hf'
  refine (readAttr_any s raw _ g i hs h2 w hE h6g h).mono fun e w' ⟨he,hR,hB⟩=>⟨_,_,_,he,hR,hB,.wit nm _ _ (by omega) hj.2 hn hf',?_⟩
  have h9:rankF 258 = 1:=by decide
  have h8:rankF 223 = 2:=by decide
  show 3*_+rankF _<_
  omega
 | fin T i hT h1 h2 hn hf'=>
  injection hv with hf;injection hf with hf;subst hf
  have h9:rankF 224 = 1:=by decide
  have hj:i≤(if (byteAt s i==62)=true then i+1 else i)∧(if (byteAt s i==62)=true then i+1 else i)≤s.size:=by
   split
   ·rename_i hc;have:=byteAt_lt (s:=s) (j:=i) (by have:byteAt s i=62:=by simpa using hc
                                                  omega);omega
   ·omega
  refine (readTagEnd_any s raw _ g i hn w h).mono fun e w' ⟨he,hR,hB⟩=>⟨_,_,_,he,hR,hB,.nil _ _ (by omega) hj.2 hf',?_⟩
  show 3*_+0<_
  omega
 | nil T i h1 h2 hn=>cases hv
theorem way_enters {s raw:ByteArray} {a:Nat} {f:Nat} {T:Tk} {i:Nat} (hW:Way s raw a (.func (.func f) #[] #[]) T i):∀args w,(callFunc f args).run Tryz.prog w=.ok (.enter f args) w:=by
 generalize hv:Value.func (.func f) #[] #[]=v at hW
 cases hW with
 | beg=>injection hv with hf;injection hf with hf;subst hf;exact enters_of Tryz.func107 (by kernel_rfl) rfl
 | raw=>injection hv with hf;injection hf with hf;subst hf;exact enters_of Tryz.func167 (by kernel_rfl) rfl
 | opn=>injection hv with hf;injection hf with hf;subst hf;exact enters_of Tryz.func169 (by kernel_rfl) rfl
 | cls=>injection hv with hf;injection hf with hf;subst hf;exact enters_of Tryz.func170 (by kernel_rfl) rfl
 | cmt=>injection hv with hf;injection hf with hf;subst hf;exact enters_of Tryz.func171 (by kernel_rfl) rfl
 | rmk=>injection hv with hf;injection hf with hf;subst hf;exact enters_of Tryz.func172 (by kernel_rfl) rfl
 | wrd=>injection hv with hf;injection hf with hf;subst hf;exact enters_of Tryz.func173 (by kernel_rfl) rfl
 | wit=>injection hv with hf;injection hf with hf;subst hf;exact enters_of Tryz.func223 (by kernel_rfl) rfl
 | att=>injection hv with hf;injection hf with hf;subst hf;exact enters_of Tryz.func258 (by kernel_rfl) rfl
 | fin=>injection hv with hf;injection hf with hf;subst hf;exact enters_of Tryz.func224 (by kernel_rfl) rfl
 | nil=>cases hv
theorem way_func {s raw:ByteArray} {a:Nat} {v:Value} {T:Tk} {i:Nat} (hW:Way s raw a v T i):v=.nilFunc∨∃f,v=.func (.func f) #[] #[]:=by
 cases hW with
 | nil=>exact Or.inl rfl
 | _=>exact Or.inr ⟨_,rfl⟩
end Go.Proofs.YthdkkpbhijlpaaaGreatDoor
namespace Go.Proofs.YthdkkpbhijlpaaaGreatDoor
open Go.ChangeShapes Go.WideShapes Go.ChangeAt Go.RowKit Go.Shelf Go.Deep
def restLen (w:World) (g:Nat):Nat:=match w.cell? ⟨g,7,none⟩ with | some (.string r)=>r.size | _=>0
theorem RdAt.rest {w:World} {g:Nat} {T:Tk} {s raw:ByteArray} {i:Nat} (h:RdAt w g T s i raw):restLen w g=s.size-i:=by
 obtain ⟨A,c,L,_⟩:=h
 have h7:w.cell? ⟨g,7,none⟩=some (.string (tl s i)):=L.1 7
 unfold restLen
 rw[h7]
 exact tl_size s i
theorem neq_fn (f:Nat) (w:World):(binOp .neq 148 (.func (.func f) #[] #[]) .nilFunc).run Tryz.prog w=.ok (.bool true) w:=by kernel_rfl
theorem neq_nil (w:World):(binOp .neq 148 .nilFunc .nilFunc).run Tryz.prog w=.ok (.bool false) w:=by kernel_rfl
theorem way_nil {s raw:ByteArray} {a:Nat} {T:Tk} {i:Nat} (hW:Way s raw a .nilFunc T i):a≤i∧i≤s.size∧withLen T (i-a)=nextOf s a raw:=by
 generalize hv:Value.nilFunc=v at hW
 cases hW with
 | nil T i h1 h2 h=>exact ⟨h1,h2,h⟩
 | _=>cases hv
theorem tok_out {w wr:World} {s raw:ByteArray} {a i:Nat} {T:Tk} {A:Option Addr} {c:Nat} {z:Int} (hn:withLen T (i-a)=nextOf s a raw) (hz:z=((i-a:Nat):Int)) (hO:AOwn (w.heap.size+1+1) wr A c T.al) (hB:Below w.heap.size w wr) (v0 v1 v2 v3 v4 v5 v6:Value)
 (hv:v0=.int .i64 T.k∧v1=.int .i64 (T.a:Int)∧v2=.int .i64 z∧v3=.string T.n∧v4=.string T.t∧v5=.slice A T.al.length c∧v6=.bool T.s):
 TkOut w.heap.size (nextOf s a raw) (.returned (.agg #[v0,v1,v2,v3,v4,v5,v6])) (put7 (wr.setCell ⟨w.heap.size+1,2,none⟩ (.int .i64 z)) w.heap.size v0 v1 v2 v3 v4 v5 v6)∧Below w.heap.size w (put7 (wr.setCell ⟨w.heap.size+1,2,none⟩ (.int .i64 z)) w.heap.size v0 v1 v2 v3 v4 v5 v6):=by
 obtain ⟨rfl,rfl,rfl,rfl,rfl,rfl,rfl⟩:=hv
 subst hz
 rw[←hn]
 refine ⟨⟨A,c,rfl,?_⟩,below_put7 _ _ _ _ _ _ _ (hB.setCell (Nat.le_succ _) _) (Nat.le_refl _)⟩
 exact ((hO.set (Nat.lt_succ_self _) 2 _).put7 (by omega) _ _ _ _ _ _ _).low (by omega)
set_option maxHeartbeats 2000000 in
set_option maxRecDepth 100000 in
theorem readToken_any (s raw:ByteArray) (a:Nat) (hs:s.size≤65536) (hraw:raw.size≤65536) (ha:a<s.size) (w:World) (hE:Env2 w):
 Calls Tryz.prog 58 #[.string s,.int .i64 (a:Int),.string raw] w fun e w'=>TkOut w.heap.size (nextOf s a raw) e w'∧Below w.heap.size w w':=by
 have hcut:=cut_from s a (Nat.le_of_lt ha)
 have htl:s.extract a s.size=tl s a:=rfl
 rw[htl]at hcut
 have HE:=Lib.hid hE
 have h6:=hE.1.2.2
 have hq1:=neq_fn
 have hq0:=neq_nil
 have LZ:=Lib.hid (tok_zero w)
 have hW:Hid (∃W:World,W=((w.alloc (.cells #[.int .i64 0,.int .i64 0,.int .i64 0,.string ⟨#[]⟩,.string ⟨#[]⟩,.slice none 0 0,.bool false] 88)).alloc (.cells #[.int .i64 0,.int .i64 (a:Int),.int .i64 0,.string ⟨#[]⟩,.string ⟨#[]⟩,.slice none 0 0,.bool false,.string (tl s a),.string raw] 146))):=Lib.hid ⟨_,rfl⟩
 clear htl hE
 go_enter Tryz.func58,Tryz.ntmps58
 go_wp2
 go_loopw [8] (fun v wr=>∃T i,Hid (Way s raw a v T i)∧Hid (RdAt wr (w.heap.size+1) T s i raw)∧Hid (Below (w.heap.size+1) (w.alloc (.cells #[.int .i64 0,.int .i64 0,.int .i64 0,.string ⟨#[]⟩,.string ⟨#[]⟩,.slice none 0 0,.bool false] 88)) wr)) (fun v wr=>3*restLen wr (w.heap.size+1)+rankV v)
 case atStart=>
  refine ⟨zTk a,a,Lib.hid .beg,Lib.hid ⟨none,0,?_,World.ownsRow_nil _ _ _ _,by simp[zTk],by simp[zTk]⟩,Lib.hid ((Below.refl _ _).alloc (by simp) _)⟩
  have:=Lay.new (w.alloc (.cells #[.int .i64 0,.int .i64 0,.int .i64 0,.string ⟨#[]⟩,.string ⟨#[]⟩,.slice none 0 0,.bool false] 88)) #[.int .i64 0,.int .i64 (a:Int),.int .i64 0,.string ⟨#[]⟩,.string ⟨#[]⟩,.slice none 0 0,.bool false,.string (tl s a),.string raw] 146
  rw[show (w.alloc (.cells #[.int .i64 0,.int .i64 0,.int .i64 0,.string ⟨#[]⟩,.string ⟨#[]⟩,.slice none 0 0,.bool false] 88)).heap.size=w.heap.size+1 by simp]at this
  exact this
 case round=>
  obtain ⟨T,i,HW,HR,HB⟩:=hrel
  have HEr:Hid (Env2 wr):=Lib.hid (HE.out.below (((Below.refl w.heap.size w).alloc (Nat.le_refl _) _).trans (HB.out.mono (Nat.le_succ _))))
  rcases way_func HW.out with rfl | ⟨f,rfl⟩
  ·have hwn:=way_nil HW.out
   have HN:=Lib.hid hwn.2.2
   have hi1:=hwn.1
   have hi2:=hwn.2.1
   obtain ⟨A,c,L,hO,h6',hz⟩:=HR.out
   obtain ⟨A',c',e5,hA⟩:=AOwn.of hO hz (by unfold maxLen;omega)
   have hAc:A'=A∧c'=c:=by injection e5 with e1 e2 e3;exact ⟨e1.symm,e3.symm⟩
   have HA:Hid (AOwn (w.heap.size+1+1) wr A c T.al):=Lib.hid (by rw[←hAc.1,←hAc.2];exact hA)
   clear e5 hA hAc hO hz hwn
   have hts:=tl_size s i
   have HTS:Hid (((tl s i).size:Int)=(s.size:Int)-(i:Int)):=Lib.hid (by omega)
   have hb1:((tl s i).size:Int)≤65536:=by omega
   clear hts
   have m0:=L.1
   have m1:=L.2
   have LT:=LZ.out.below HB.out (Nat.lt_succ_self _)
   have n0:=LT.1
   have n1:=LT.2
   have LT2:=Lib.hid (LT.setOther (g':=w.heap.size+1) (by omega) 2 (.int .i64 ((s.size:Int)-((tl s i).size:Int)-(a:Int))))
   clear LT
   have HBw:=Lib.hid (((Below.refl w.heap.size w).alloc (Nat.le_refl _) (.cells #[.int .i64 0,.int .i64 0,.int .i64 0,.string ⟨#[]⟩,.string ⟨#[]⟩,.slice none 0 0,.bool false] 88)).trans (HB.out.mono (Nat.le_succ _)))
   go_wp2
   (try simp only[Exit.inBlock,Exit.then])
   refine ret_tok rfl LT2.out.put7 rfl rfl ?_
   exact tok_out HN.out (by have:=HTS.out;omega) HA.out HBw.out _ _ _ _ _ _ _ ⟨rfl,rfl,rfl,rfl,rfl,rfl,rfl⟩
  ·have eg:=way_enters HW.out
   have HS:=Lib.hid (step_any s raw a hs hraw ha f (w.heap.size+1) i T HW.out wr HEr.out (by omega) HR.out)
   have HRL:=Lib.hid HR.out.rest
   go_wp2_with (go_at_fn f;refine HS.out.mono ?_;rintro e w1 ⟨v',T',j,rfl,hR,hB,hW',hm⟩;have HR1:=Lib.hid hR;have HB1:=Lib.hid (HB.out.trans hB);have HW1:=Lib.hid hW';have HM:=Lib.hid hm;clear hR hB hW' hm)
   go_roundw
   case rel=>exact ⟨T',j,HW1,HR1,HB1⟩
   case measure=>
    rw[HR1.out.rest,HRL.out]
    exact HM.out
end Go.Proofs.YthdkkpbhijlpaaaGreatDoor
namespace Go.Proofs.YthdkkpbhijlpaaaGreatDoor
open Go.ChangeShapes Go.WideShapes Go.ChangeAt Go.RowKit Go.Shelf Go.Deep
end Go.Proofs.YthdkkpbhijlpaaaGreatDoor
