import Derived.Laws.IdiomStrings
import Derived.Test.YthdkkpbhijlpaaaGreatDoorQ28
import Derived.Test.YthdkkpbhijlpaaaGreatDoorQ16
import Derived.Test.YthdkkpbhijlpaaaGreatDoorQ02
set_option linter.unusedVariables false
namespace Go.Proofs.YthdkkpbhijlpaaaGreatDoor
open Go.ChangeShapes Go.WideShapes Go.ChangeAt Go.RowKit Go.Deep
theorem Fo.nodes_app':∀P S:Fo,(P.app S).nodes=P.nodes+S.nodes
 | .nil,S=>by simp[Fo.app,Fo.nodes]
 | .cons _ _ _ _ _ _ r,S=>by simp only[Fo.app,Fo.nodes,Fo.nodes_app' r S];omega
theorem Fo.deep_app':∀P S:Fo,(P.app S).deep=max P.deep S.deep
 | .nil,S=>by simp[Fo.app,Fo.deep]
 | .cons _ _ _ _ _ kids r,S=>by simp only[Fo.app,Fo.deep,Fo.deep_app' r S];omega
theorem fine_app' (ch:List Nd):∀P S:Fo,Fine ch P→Fine ch S→Fine ch (P.app S)
 | .nil,_,_,h=>h
 | .cons _ _ _ _ _ _ r,S,⟨h1,h2,h3,h4⟩,h=>⟨h1,h2,h3,fine_app' ch r S h4 h⟩
theorem Fo.addText_nodes (u:ByteArray):∀F:Fo,(F.addText u).nodes=F.nodes
 | .nil=>rfl
 | .cons _ _ _ _ _ _ r=>by
  simp only[Fo.addText]
  split
  ·rfl
  ·simp only[Fo.nodes,Fo.addText_nodes u r]
theorem Fo.addText_deep (u:ByteArray):∀F:Fo,(F.addText u).deep=F.deep
 | .nil=>rfl
 | .cons _ _ _ _ _ _ r=>by
  simp only[Fo.addText]
  split
  ·rfl
  ·simp only[Fo.deep,Fo.addText_deep u r]
theorem words_raw {x:Nd} (h1:x.n.size=0):¬RawN x:=by
 rintro ⟨_,h⟩
 have hn:x.n=⟨#[]⟩:=ByteArray.ext (Array.eq_empty_of_size_eq_zero h1)
 rw[hn]at h
 exact absurd h (by simp only[inL,ByteArray.toList_eq];decide)
theorem fine_addText (u:ByteArray):∀(F:Fo) (ch:List Nd) (k':Int) (t':ByteArray),Fine ch F→F.last=some (k',t')→k'=2→t'.size+u.size≤120→Fine ch (F.addText u)
 | .nil,_,_,_,_,h,_,_=>by cases h
 | .cons k sp n t al kids r,ch,k',t',⟨h1,h2,h3,h4⟩,hl,hk,hs=>by
  simp only[Fo.last]at hl
  simp only[Fo.addText]
  cases hr:r.last with
  | none=>
   rw[hr]at hl
   injection hl with hl
   obtain ⟨rfl,rfl⟩:=Prod.mk.inj hl
   subst hk
   have hw:0<t.size∧WordsIs ⟨2,sp,n,t,al⟩:=by
    rcases h1 with ⟨h,_⟩ | ⟨_,h⟩ | ⟨h,_⟩
    ·exact absurd (show (2:Int)=1 from h) (by decide)
    ·exact h
    ·exact absurd (show (2:Int)=3 from h) (by decide)
   obtain ⟨w0,w1,w2,w3,w4⟩:=hw
   have hsz:(t++u).size=t.size+u.size:=by simp
   refine ⟨Or.inr (Or.inl ⟨rfl,?_,?_,w2,w3,w4⟩),h2,?_,h4⟩
   ·show 0<(t++u).size;omega
   ·show (t++u).size≤120;omega
   ·cases kids with
    | nil=>trivial
    | cons _ _ _ _ _ _ _=>
     have:=h3.2.1.2 (words_raw w3)
     exact absurd (show (2:Int)=1 from this.1) (by decide)
  | some x=>
   rw[hr]at hl
   exact ⟨h1,h2,h3,fine_addText u r ch k' t' h4 (by rw[hr];exact hl) hk hs⟩
def Fr.nd (x:Fr):Nd:=⟨1,x.sp,x.n,⟨#[]⟩,x.al⟩
def chainOf (up:List Fr):List Nd:=up.map Fr.nd
def UpFine:List Fr→Prop
 | []=>True
 | x::up=>NodeIs x.nd∧MayHold (chainOf up) 1∧¬VoidN x.nd∧Fine (chainOf up) x.P∧UpFine up
def UpDeep:List Fr→Prop
 | []=>True
 | x::up=>x.P.deep+up.length≤10∧UpDeep up
def frN:List Fr→Nat
 | []=>0
 | x::up=>1+x.P.nodes+frN up
def TopFree:List Fr→Prop
 | []=>True
 | x::_=>¬RawN x.nd
structure Zi.good (z:Zi):Prop where
 fine:Fine (chainOf z.up) z.F
 up:UpFine z.up
 nn:z.F.nodes+frN z.up≤z.c
 c60:z.c≤60
 dp:z.F.deep+z.up.length≤10
 ud:UpDeep z.up
theorem Zi.good.pop {z:Zi} (h:z.good):z.pop.good∧(z.up≠[]→TopFree z.pop.up):=by
 obtain ⟨F,up,c⟩:=z
 cases up with
 | nil=>exact ⟨h,fun n=>absurd rfl n⟩
 | cons x up=>
  obtain ⟨h1,⟨u1,u2,u3,u4,u5⟩,h3,h4,h5,d1,d2⟩:=h
  refine ⟨⟨?_,u5,?_,h4,?_,d2⟩,fun _=>?_⟩
  ·exact fine_app' _ _ _ u4 ⟨u1,u2,h1,trivial⟩
  ·simp only[frN]at h3
   simp only[Zi.pop,Fo.nodes_app',Fo.one,Fo.nodes]
   omega
  ·simp only[List.length_cons]at h5
   simp only[Zi.pop,Fo.deep_app',Fo.one,Fo.deep]
   omega
  ·show TopFree up
   cases up with
   | nil=>trivial
   | cons y up=>exact fun hr=>absurd (u2.1 hr) (by decide)
theorem Zi.good.pops:∀(k:Nat) {z:Zi},z.good→(TopFree z.up→TopFree (z.pops k).up)∧(z.pops k).good
 | 0,_,h=>⟨id,h⟩
 | k+1,z,h=>by
  have hp:=h.pop
  obtain ⟨i1,i2⟩:=Zi.good.pops k hp.1
  refine ⟨fun ht=>i1 ?_,i2⟩
  by_cases hn:z.up=[]
  ·rw[Zi.pop_up,hn];trivial
  ·exact hp.2 hn
theorem Zi.good.to {z:Zi} (h:z.good) (k:Nat):(z.to k).good:=(h.pops _).2
theorem Zi.good.to_free {z:Zi} (h:z.good) (k:Nat) (ht:TopFree z.up):TopFree (z.to k).up:=(h.pops _).1 ht
theorem may_free {z:Zi} (h:z.good) (k:Int) (ht:k≠2→TopFree z.up):MayHold (chainOf z.up) k:=by
 obtain ⟨F,up,c⟩:=z
 cases up with
 | nil=>trivial
 | cons x up=>
  refine ⟨fun hr=>?_,fun _=>⟨rfl,h.up.2.2.1⟩⟩
  by_cases hk:k=2
  ·exact hk
  ·exact absurd hr (ht hk)
theorem Zi.good.add {z y:Zi} {k sp:Int} {n t:ByteArray} {al:List (ByteArray × ByteArray)} (hz:z.good) (hn:NodeIs ⟨k,sp,n,t,al⟩) (hk:k≠2→TopFree z.up) (h:z.add k sp n t al=.ok y):y.good:=by
 unfold Zi.add at h
 split at h
 ·cases h
 ·split at h
  ·cases h
  ·split at h
   ·cases h
   ·injection h with h
    subst h
    obtain ⟨h1,h2,h3,h4,h5,h6⟩:=hz
    refine ⟨fine_app' _ _ _ h1 ⟨hn,may_free (z:=z) ⟨h1,h2,h3,h4,h5,h6⟩ k hk,trivial,trivial⟩,h2,?_,by simp only;omega,?_,h6⟩
    ·simp only[Fo.nodes_app',Fo.one,Fo.nodes];omega
    ·simp only[Fo.deep_app',Fo.one,Fo.deep];omega
structure TkOK (T:Tk):Prop where
 w:T.k=1→0<T.t.size
 n:T.k=2→namedB small tagB T.n=true
 al:AlOK T.al
theorem spc_in {l:List (ByteArray × Int)} {n:ByteArray} (h:0≤(topOf l).2∧(topOf l).2≤2):0≤spcOf l n∧spcOf l n≤2:=by
 unfold spcOf
 split
 ·exact h
 ·exact spaceI_in n
where spaceI_in (n:ByteArray):0≤spaceI n∧spaceI n≤2:=by
        unfold spaceI
        repeat' split
        all_goals omega
theorem top_in {z:Zi} (h:z.good):0≤(topOf (opensOf z.up)).2∧(topOf (opensOf z.up)).2≤2:=by
 obtain ⟨F,up,c⟩:=z
 cases up with
 | nil=>simp[opensOf,topOf]
 | cons x up=>
  simp only[topOf_cons]
  rcases h.up.1 with ⟨_,h1,h2,h3,_⟩ | ⟨h1,_⟩ | ⟨h1,_⟩
  ·exact ⟨h2,h3⟩
  ·exact absurd h1 (by simp[Fr.nd])
  ·exact absurd h1 (by simp[Fr.nd])
theorem Zi.good.take {z y:Zi} {T:Tk} (hz:z.good) (hT:TkOK T) (hf:T.k≠1→T.k≠3→T.k≠5→TopFree z.up) (h:z.take T=.ok y):y.good:=by
 unfold Zi.take at h
 split at h
 ·rename_i hk1
  have hw:∀x,z.add 2 0 ⟨#[]⟩ T.t []=.ok x→x.good:=fun x hx=>by
   have hs:T.t.size≤120:=by
    unfold Zi.add at hx
    split at hx
    ·cases hx
    ·split at hx
     ·cases hx
     ·split at hx
      ·cases hx
      ·omega
   exact hz.add (Or.inr (Or.inl ⟨rfl,hT.w hk1,hs,rfl,rfl,rfl⟩)) (fun n=>absurd rfl n) hx
  unfold Zi.words at h
  split at h
  ·rename_i k' t' hl
   split at h
   ·rename_i hk
    split at h
    ·cases h
    ·injection h with h
     subst h
     obtain ⟨h1,h2,h3,h4,h5,h6⟩:=hz
     exact ⟨fine_addText _ _ _ k' t' h1 hl hk (by omega),h2,by simp only[Fo.addText_nodes];exact h3,h4,by simp only[Fo.addText_deep];exact h5,h6⟩
   ·exact hw _ h
  ·exact hw _ h
 ·rename_i hk1
  split at h
  ·rename_i hk4
   have hs:T.t.size≤120:=by
    have hx:=h
    unfold Zi.add at hx
    split at hx
    ·cases hx
    ·split at hx
     ·cases hx
     ·split at hx
      ·cases hx
      ·omega
   exact hz.add (Or.inr (Or.inr ⟨rfl,hs,rfl,rfl,rfl⟩)) (fun _=>hf (by omega) (by omega) (by omega)) h
  ·split at h
   ·rename_i hk4 hk2
    have hfree:=hf (by omega) (by omega) (by omega)
    unfold Zi.begin at h
    dsimp only at h
    have hx:=hz.to (leftOf (opensOf z.up) T.n)
    have hxf:=hz.to_free (leftOf (opensOf z.up) T.n) hfree
    generalize z.to (leftOf (opensOf z.up) T.n)=x at h hx hxf
    have hsp:=spc_in (n:=T.n) (top_in hx)
    have hnd:NodeIs ⟨1,spcOf (opensOf x.up) T.n,T.n,⟨#[]⟩,T.al⟩:=Or.inl ⟨rfl,hT.n hk2,hsp.1,hsp.2,rfl,hT.al⟩
    split at h
    ·cases h
    ·split at h
     ·cases h
     ·split at h
      ·rename_i hst
       injection h with h
       subst h
       refine ⟨trivial,⟨hnd,may_free hx 1 (fun _=>hxf),?_,hx.fine,hx.up⟩,?_,?_,?_,?_,hx.ud⟩
       ·rintro ⟨v1,v2⟩
        unfold staysB at hst
        simp only[Fr.nd]at v1 v2
        rw[if_pos v1,v2]at hst
        exact absurd hst (by simp)
       ·have:=hx.nn;simp only[frN,Fo.nodes];omega
       ·show x.c+1≤60;omega
       ·simp only[Fo.deep,List.length_cons];omega
       ·have:=hx.dp;omega
      ·injection h with h
       subst h
       refine ⟨fine_app' _ _ _ hx.fine ⟨hnd,may_free hx 1 (fun _=>hxf),trivial,trivial⟩,hx.up,?_,?_,?_,hx.ud⟩
       ·have:=hx.nn;simp only[Fo.nodes_app',Fo.one,Fo.nodes];omega
       ·show x.c+1≤60;omega
       ·have:=hx.dp;simp only[Fo.deep_app',Fo.one,Fo.deep];omega
   ·split at h
    ·injection h with h
     subst h
     unfold Zi.close
     split
     ·exact hz.to _
     ·exact hz
    ·injection h with h
     subst h
     exact hz
theorem un_pos:∀(l:List UInt8),0<l.length→0<(un l).length
 | [],h=>absurd h (Nat.lt_irrefl _)
 | c::r,_=>by
  show 0<(unF (r.length+1) (c::r)).length
  rw[unF]
  split
  ·split <;> simp
  ·simp
theorem keepA_ok {al:List (ByteArray × ByteArray)} {n v:ByteArray} (h:AlOK al):AlOK (keepA al n v):=by
 unfold keepA
 split
 ·rename_i hb
  simpa[alB]using hb
 ·exact h
theorem scan_ok {s:ByteArray}:∀(k i:Nat) (al:List (ByteArray × ByteArray)) (f:Bool),AlOK al→AlOK (scan s k i al f).2.1:=by
 intro k
 induction k with
 | zero=>intro i al f h;exact h
 | succ k ih=>
  intro i al f h
  rw[scan]
  split
  ·exact h
  ·split
   ·exact ih _ _ _ h
   ·exact ih _ _ _ (keepA_ok h)
theorem alOK_nil:AlOK []:=⟨Nat.zero_le _,fun _ hi=>absurd hi (Nat.not_lt_zero _)⟩
theorem noTk_ok {k:Int} {a l:Nat} {n t:ByteArray} (h1:k≠1) (h2:k≠2):TkOK (noTk k a l n t):=⟨fun h=>absurd h h1,fun h=>absurd h h2,alOK_nil⟩
theorem openOf_ok (s:ByteArray) (a:Nat):TkOK (openOf s a):=by
 unfold openOf
 dsimp only
 split
 ·exact noTk_ok (by decide) (by decide)
 ·split
  ·rename_i hn
   exact ⟨fun h=>absurd (show (2:Int)=1 from h) (by decide),fun _=>hn,scan_ok _ _ _ _ alOK_nil⟩
  ·exact noTk_ok (by decide) (by decide)
theorem closeTk_ok (s:ByteArray) (a:Nat):TkOK (closeTk s a):=by
 unfold closeTk
 dsimp only
 split
 ·split
  ·exact noTk_ok (by decide) (by decide)
  ·exact noTk_ok (by decide) (by decide)
 ·exact noTk_ok (by decide) (by decide)
theorem wordsTk_ok {s:ByteArray} {a:Nat} (ha:a<s.size):TkOK (wordsTk s a):=by
 refine ⟨fun _=>?_,fun h=>absurd (show (1:Int)=2 from h) (by decide),alOK_nil⟩
 show 0<(wordOf s a).size
 unfold wordOf
 have:0<(s.extract a (a+1+runAt inWord s (a+1))).data.toList.length:=by
  have:=ByteArray.size_extract (a:=s) (b:=a) (e:=a+1+runAt inWord s (a+1))
  rw[Array.length_toList]
  show 0<(s.extract a (a+1+runAt inWord s (a+1))).size
  omega
 exact un_pos _ this
theorem markTk_ok {s:ByteArray} {a:Nat} (ha:a<s.size):TkOK (markTk s a):=by
 unfold markTk
 split
 ·exact wordsTk_ok ha
 ·split
  ·exact openOf_ok _ _
  ·split
   ·exact closeTk_ok _ _
   ·split
    ·exact noTk_ok (by decide) (by decide)
    ·split
     ·exact noTk_ok (by decide) (by decide)
     ·exact wordsTk_ok ha
theorem nextOf_ok {s raw:ByteArray} {a:Nat} (ha:a<s.size):TkOK (nextOf s a raw):=by
 unfold nextOf
 split
 ·rename_i h
  refine ⟨fun _=>?_,fun h=>absurd (show (1:Int)=2 from h) (by decide),alOK_nil⟩
  have:=(rawEnd_le s raw a (Nat.le_of_lt ha)).2
  show 0<(s.extract a (rawEnd s raw a)).size
  rw[ByteArray.size_extract]
  omega
 ·exact markTk_ok ha
theorem raw_of_top {z:Zi} (h:¬TopFree z.up):0<z.raw.size∧inL rawL z.raw=true:=by
 obtain ⟨F,up,c⟩:=z
 cases up with
 | nil=>exact absurd trivial h
 | cons x up=>
  have hr:RawN x.nd:=Classical.byContradiction h
  have e:(⟨F,x::up,c⟩:Zi).raw=x.n:=by
   simp only[Zi.raw,rawIn,topOf_cons]
   rw[if_pos (by simp only[Bool.and_eq_true,beq_iff_eq];exact ⟨hr.1,hr.2⟩)]
  rw[e]
  refine ⟨?_,hr.2⟩
  obtain ⟨l,hl,e2⟩:=raw_cases hr.2
  have h2:=(raw_small l hl).2
  have e3:x.n=⟨l.toArray⟩:=e2
  rw[e3]
  exact h2
theorem runZ_good {s:ByteArray}:∀(f a:Nat) (z y:Zi),z.good→runZ s f a z=.ok y→y.good
 | 0,a,z,y,hz,h=>by injection h with h;subst h;exact hz
 | f+1,a,z,y,hz,h=>by
  by_cases ha:a<s.size
  ·cases ht:z.take (nextOf s a z.raw) with
   | bad c=>rw[runZ_bad ha ht]at h;cases h
   | ok x=>
    rw[runZ_ok ha ht]at h
    refine runZ_good f _ x y (hz.take (nextOf_ok ha) (fun h1 h3 h5=>?_) ht) h
    refine Classical.byContradiction fun hn=>?_
    rcases raw_rule (raw_of_top hn).2 ha with e | ⟨e,_⟩ | ⟨e,_⟩
    ·exact h1 e
    ·exact h3 e
    ·exact h5 e
  ·rw[runZ_end s _ a z (by omega)]at h
   injection h with h
   subst h
   exact hz
theorem builtOf_good (s:ByteArray):Good (builtOf s).1:=by
 have hnil:Good .nil:=⟨by simp[Fo.nodes],by simp[Fo.deep],trivial⟩
 unfold builtOf
 cases h:runZ s s.size 0 ⟨.nil,[],0⟩ with
 | bad c=>exact hnil
 | ok y=>
  have h0:(⟨.nil,[],0⟩:Zi).good:=⟨trivial,trivial,by simp[Fo.nodes,frN],by simp,by simp[Fo.deep],trivial⟩
  have hy:=(runZ_good _ _ _ _ h0 h).to 0
  have hu:(y.to 0).up=[]:=by rw[Zi.to,Zi.pops_up];simp
  show Good (y.to 0).F
  obtain ⟨h1,_,h3,h4,h5,_⟩:=hy
  rw[hu]at h1 h3 h5
  refine ⟨?_,?_,h1⟩
  ·simp only[frN]at h3;omega
  ·simpa using h5
end Go.Proofs.YthdkkpbhijlpaaaGreatDoor
namespace Go.Proofs.YthdkkpbhijlpaaaGreatDoor
open Go.ChangeShapes Go.WideShapes Go.ChangeAt Go.RowKit Go.Deep
def MadeAt (w:World) (g h:Nat) (F:Fo):Prop:=h≤w.heap.size∧g<h∧FoAt w g h g 0 F
theorem MadeAt.row {w:World} {g h:Nat} {F:Fo} (hm:MadeAt w g h F) (hl:F.len≤maxLen):RowAt g h (some ⟨g,0,none⟩) F.len g 0:=⟨hl,fun _=>⟨rfl,Nat.le_refl _,hm.2.1⟩⟩
theorem MadeAt.below {w w':World} {g h B:Nat} {F:Fo} (hm:MadeAt w g h F) (hB:Below B w w') (hh:h≤B):MadeAt w' g h F:=
 ⟨Nat.le_trans hm.1 hB.size,hm.2.1,hm.2.2.carry (Nat.le_refl _) (Nat.le_refl _) (fun b o _ h2=>hB.cell (p:=⟨b,o,none⟩) (by show b<B;omega)) (fun j _=>hB.cell (p:=⟨g,0+j,none⟩) (by have:=hm.2.1;show g<B;omega))⟩
theorem MadeAt.next {w w':World} {g h:Nat} {F:Fo} (hm:MadeAt w g h F) (hB:Below w.heap.size w w'):MadeAt w' g h F:=hm.below hB hm.1
def CameIn (w:World) (A:Option Addr) (b o hi:Nat) (F:Fo):Prop:=RowAt 0 hi A F.len b o∧hi≤w.heap.size∧FoAt w 0 hi b o F
theorem CameIn.next {w w':World} {A:Option Addr} {b o hi:Nat} {F:Fo} (h:CameIn w A b o hi F) (hB:Below w.heap.size w w'):CameIn w' A b o hi F:=
 ⟨h.1,Nat.le_trans h.2.1 hB.size,FoAt.below h.1 h.2.2 hB h.2.1⟩
theorem copy_any (F:Fo) (w:World) (A:Option Addr) (c b o hi:Nat) (hs:F.len+F.size≤1048576) (h:CameIn w A b o hi F):
 Calls Tryz.prog 9 #[.slice A F.len c] w fun e w'=>e=.returned (.slice (some ⟨w.heap.size,0,none⟩) F.len F.len)∧Below w.heap.size w w'∧MadeAt w' w.heap.size w'.heap.size F:=
 (toNodeS_any F w A c b o hi (Fo.small_of F (by omega)) (by omega) h.1 h.2.1 h.2.2).mono fun e w' ⟨h1,h2,h3,h4⟩=>⟨h1,h2,Nat.le_refl _,h3,h4.mono (by omega) (Nat.le_refl _)⟩
theorem alike_any (F:Fo) (w:World) (g h g' h' c c':Nat) (hl:F.len≤maxLen) (h1:MadeAt w g h F) (h2:MadeAt w g' h' F):
 Calls Tryz.prog 11 #[.slice (some ⟨g,0,none⟩) F.len c,.slice (some ⟨g',0,none⟩) F.len c'] w fun e w'=>e=.returned (.bool true)∧Below w.heap.size w w':=
 eqNodeS_same F w _ _ c c' g g' 0 0 g h g' h' (h1.row hl) (h2.row hl) h1.1 h2.1 h1.2.2 h2.2.2
end Go.Proofs.YthdkkpbhijlpaaaGreatDoor
namespace Go.Proofs.YthdkkpbhijlpaaaGreatDoor
open Go.ChangeShapes Go.WideShapes Go.ChangeAt Go.RowKit Go.Deep
theorem tx_ext {a b:ByteArray} (h:a.data.toList=b.data.toList):a=b:=by
 obtain ⟨⟨x⟩⟩:=a
 obtain ⟨⟨y⟩⟩:=b
 simp at h
 subst h
 rfl
def alText:List (ByteArray × ByteArray)→List UInt8
 | []=>[]
 | x::r=>32::(x.1.data.toList++(61::34::(escL escV x.2.data.toList++(34::alText r))))
def tagText (n:ByteArray) (al:List (ByteArray × ByteArray)):List UInt8:=60::(n.data.toList++(alText al++[62]))
theorem alText_snoc:∀(al:List (ByteArray × ByteArray)) (x:ByteArray × ByteArray),alText (al++[x])=alText al++(32::(x.1.data.toList++(61::34::(escL escV x.2.data.toList++[34]))))
 | [],x=>by simp[alText]
 | y::r,x=>by simp[alText,alText_snoc r x]
theorem baLen (s:ByteArray):s.data.toList.length=s.size:=Array.length_toList
theorem escV_le (s:ByteArray):(escL escV s.data.toList).length≤6*s.size:=by have:=escL_len escV_len s.data.toList;rw[baLen]at this;exact this
theorem escT_le (s:ByteArray):(escL escT s.data.toList).length≤6*s.size:=by have:=escL_len escT_len s.data.toList;rw[baLen]at this;exact this
theorem alText_len:∀al:List (ByteArray × ByteArray),(alText al).length≤8*(al.length+asSize al)
 | []=>by simp[alText]
 | x::r=>by
  have h1:=alText_len r
  have h2:=escV_le x.2
  have h3:=baLen x.1
  simp only[alText,List.length_cons,List.length_append,asSize]at *
  omega
theorem tagText_len (n:ByteArray) (al:List (ByteArray × ByteArray)):(tagText n al).length≤2+n.size+8*(al.length+asSize al):=by
 have h1:=alText_len al
 have h3:=baLen n
 simp only[tagText,List.length_cons,List.length_append,List.length_nil]
 omega
def hasEnd (sp:Int) (n:ByteArray):Bool:=!((sp==0)&&inL voidL n)
def asIs (sp:Int) (n:ByteArray):Bool:=(sp==0)&&inL rawL n
def endText (n:ByteArray):List UInt8:=60::47::(n.data.toList++[62])
def wordsText (raw:Bool) (t:ByteArray):List UInt8:=if raw then t.data.toList else escL escT t.data.toList
def noteText (t:ByteArray):List UInt8:=60::33::45::45::(t.data.toList++[45,45,62])
def Fo.ser:Bool→Fo→List UInt8
 | _,.nil=>[]
 | raw,.cons k sp n t al kids rest=>
  (if k=2 then wordsText raw t else if k=3 then noteText t else
   tagText n al++(if hasEnd sp n=true then kids.ser (asIs sp n)++endText n else []))++rest.ser raw
theorem wordsText_len (raw:Bool) (t:ByteArray):(wordsText raw t).length≤6*t.size:=by
 unfold wordsText
 split
 ·rw[baLen];omega
 ·exact escT_le t
theorem ser_len:∀(raw:Bool) (F:Fo),(F.ser raw).length≤8*(F.len+F.size)
 | _,.nil=>by simp[Fo.ser]
 | raw,.cons k sp n t al kids rest=>by
  have h1:=ser_len (asIs sp n) kids
  have h2:=ser_len raw rest
  have h3:=tagText_len n al
  have h4:=wordsText_len raw t
  have h5:=baLen t
  have h6:=baLen n
  simp only[Fo.ser,Fo.size,Fo.len,List.length_append]at *
  have:(if k=2 then wordsText raw t else if k=3 then noteText t else tagText n al++(if hasEnd sp n=true then kids.ser (asIs sp n)++endText n else [])).length≤8+8*(n.size+t.size+(al.length+asSize al)+(kids.len+kids.size)):=by
   split
   ·omega
   ·split
    ·simp only[noteText,List.length_cons,List.length_append,List.length_nil];omega
    ·split
     ·simp only[endText,List.length_cons,List.length_append,List.length_nil];omega
     ·simp only[List.length_append,List.length_nil];omega
  omega
theorem add_tx (m:List UInt8) (s:ByteArray) (h:m.length+s.size≤1048576*1024) (w:World):(Op.stringOp .add ⟨m.toArray⟩ s).run Tryz.prog w=.ok (.string ⟨(m++s.data.toList).toArray⟩) w:=by
 have e2:(⟨m.toArray⟩:ByteArray)++s=⟨(m++s.data.toList).toArray⟩:=tx_ext (by simp[ByteArray.data_append])
 have n1:(⟨m.toArray⟩:ByteArray).size=m.length:=by simp[ByteArray.size]
 rw[run_string_add_sum w _ _ (by omega),e2]
theorem add_ll (m l:List UInt8) (h:m.length+l.length≤1048576*1024) (w:World):(Op.stringOp .add ⟨m.toArray⟩ ⟨l.toArray⟩).run Tryz.prog w=.ok (.string ⟨(m++l).toArray⟩) w:=
 add_tx m ⟨l.toArray⟩ (by show m.length+l.toArray.size≤_;rw[List.size_toArray];exact h) w
theorem add_lx (m:List UInt8) (s:ByteArray) (h:m.length+s.size≤1048576*1024):∃L:List UInt8,(L=m++s.data.toList∧L.length=m.length+s.size)∧∀w,(Op.stringOp .add ⟨m.toArray⟩ s).run Tryz.prog w=.ok (.string ⟨L.toArray⟩) w:=
 ⟨m++s.data.toList,⟨rfl,by rw[List.length_append,baLen]⟩,fun w=>add_tx m s h w⟩
theorem sizeL (l:List UInt8):(⟨l.toArray⟩:ByteArray).size=l.length:=by simp[ByteArray.size]
end Go.Proofs.YthdkkpbhijlpaaaGreatDoor
namespace Go.Proofs.YthdkkpbhijlpaaaGreatDoor
open Go.ChangeShapes Go.WideShapes Go.ChangeAt Go.RowKit Go.Deep
theorem asAt_nth {w:World} {b:Nat}:∀{al:List (ByteArray × ByteArray)} {o:Nat},AsAt w b o al→∀k (h:k<al.length),w.cell? ⟨b,o+k*2,none⟩=some (.string al[k].1)∧w.cell? ⟨b,o+k*2+1,none⟩=some (.string al[k].2)
 | _::_,o,⟨h1,h2,h3,h4,h5⟩,0,_=>⟨by simpa using h1,by simpa using h2⟩
 | _::r,o,⟨h1,h2,h3,h4,h5⟩,k+1,h=>by
  have:=asAt_nth h5 k (by simpa using h)
  rw[show o+2+k*2=o+(k+1)*2 by omega]at this
  exact this
def AlSm (al:List (ByteArray × ByteArray)):Prop:=∀x ∈ al,x.1.size≤65536∧x.2.size≤65536
theorem alText_take {al:List (ByteArray × ByteArray)} {k:Nat} (h:k<al.length):alText (al.take (k+1))=alText (al.take k)++(32::(al[k].1.data.toList++(61::34::(escL escV al[k].2.data.toList++[34])))):=by
 rw[List.take_succ_eq_append_getElem h,alText_snoc]
theorem asSize_take:∀(al:List (ByteArray × ByteArray)) (k:Nat),asSize (al.take k)≤asSize al
 | [],k=>by simp
 | x::r,0=>by simp[asSize]
 | x::r,k+1=>by have:=asSize_take r k;simp only[List.take_succ_cons,asSize];omega
theorem asSize_nth:∀(al:List (ByteArray × ByteArray)) (k:Nat) (h:k<al.length),al[k].1.size+al[k].2.size≤asSize al
 | x::r,0,_=>by simp only[asSize,List.getElem_cons_zero];omega
 | x::r,k+1,h=>by have:=asSize_nth r k (by simpa using h);simp only[asSize,List.getElem_cons_succ];omega
set_option maxHeartbeats 2000000 in
theorem l06Start_any (k sp:Int) (n t:ByteArray) (al:List (ByteArray × ByteArray)) (w:World) (A K:Option Addr) (c kl kc b' o' lo hi:Nat)
 (hsm:AlSm al) (hnz:n.size+al.length+asSize al≤1048576*64) (hR:RowAt lo hi A al.length b' o') (hal:AsAt w b' o' al) (hh:hi≤w.heap.size):
 Calls Tryz.prog 78 #[.agg #[.int .i64 k,.int .i64 sp,.string n,.string t,.slice A al.length c,.slice K kl kc]] w fun e w'=>e=.returned (.string ⟨(tagText n al).toArray⟩)∧Below w.heap.size w w':=by
 have h1:∀W,(Op.stringOp .add ⟨#[60]⟩ n).run Tryz.prog W=.ok (.string ⟨(60::(n.data.toList++alText (al.take 0))).toArray⟩) W:=fun W=>(add_tx [60] n (by simp;omega) W).trans (by simp[alText])
 have hln:al.length≤1048576*64:=by omega
 have HR:=Lib.hid hR
 have HA:=Lib.hid hal
 have HS:=Lib.hid hsm
 clear hR hal hsm
 go_enter Tryz.func78,Tryz.ntmps78
 go_wp2
 go_loopw [3,4] (fun v i wr=>∃j:Nat,j≤al.length∧i=.int .i64 (j:Int)∧v=.string ⟨(60::(n.data.toList++alText (al.take j))).toArray⟩∧Hid (Below (w.heap.size+1) (w.alloc (.cells #[.int .i64 k,.int .i64 sp,.string n,.string t,.slice A al.length c,.slice K kl kc] 56)) wr)) (fun v i wr=>al.length-(intOf i).toNat)
 case atStart=>exact ⟨0,Nat.zero_le _,rfl,rfl,Lib.hid (by have:=Below.refl (w.alloc (.cells #[.int .i64 k,.int .i64 sp,.string n,.string t,.slice A al.length c,.slice K kl kc] 56)).heap.size (w.alloc (.cells #[.int .i64 k,.int .i64 sp,.string n,.string t,.slice A al.length c,.slice K kl kc] 56));simpa using this)⟩
 case round=>
  obtain ⟨j,hj,rfl,rfl,HB⟩:=hrel
  have p4:wr.cell? ⟨w.heap.size,4,none⟩=some (.slice A al.length c):=(HB.out.cell (p:=⟨w.heap.size,4,none⟩) (by show w.heap.size<_;omega)).trans (new_cell (j:=4) rfl)
  have KB:Hid (Below w.heap.size w wr):=Lib.hid (((Below.refl w.heap.size w).alloc (Nat.le_refl _) _).trans (HB.out.mono (Nat.le_succ _)))
  by_cases hlt:j<al.length
  ·obtain ⟨e1,e2⟩:=asAt_nth HA.out j hlt
   obtain ⟨rfl,hlo,hhi⟩:=HR.out.2 (by omega)
   have q1:=(KB.out.cell (p:=⟨b',o'+j*2,none⟩) (by show b'<_;omega)).trans e1
   have q2:=(KB.out.cell (p:=⟨b',o'+j*2+1,none⟩) (by show b'<_;omega)).trans e2
   have hx:=HS.out al[j] (List.getElem_mem hlt)
   have hT:=Lib.hid (alText_take hlt)
   have hz1:=asSize_nth al j hlt
   have hz2:=alText_len (al.take j)
   have hz3:=asSize_take al j
   have hz4:(al.take j).length≤j:=List.length_take_le _ _
   generalize al[j]=y at *
   obtain ⟨yn,yv⟩:=y
   simp only at q1 q2 hx hz1
   have hz5:=escV_le yv
   have hz6:=baLen yn
   have hz7:=baLen n
   obtain ⟨L1,⟨e1',g1⟩,a1⟩:=add_lx [32] yn (by simp;omega)
   obtain ⟨L2,⟨e2',g2⟩,a2⟩:=add_lx L1 ⟨#[61,34]⟩ (by simp at g1;show _+2≤_;omega)
   obtain ⟨L3,⟨e3',g3⟩,a3⟩:=add_lx L2 ⟨(escL escV yv.data.toList).toArray⟩ (by rw[sizeL];simp at g1;change _=_+2 at g2;omega)
   obtain ⟨L4,⟨e4',g4⟩,a4⟩:=add_lx L3 ⟨#[34]⟩ (by rw[sizeL]at g3;simp at g1;change _=_+2 at g2;show _+1≤_;omega)
   have a5:∀W,(Op.stringOp .add ⟨(60::(n.data.toList++alText (al.take j))).toArray⟩ ⟨L4.toArray⟩).run Tryz.prog W=.ok (.string ⟨(60::(n.data.toList++alText (al.take (j+1)))).toArray⟩) W:=fun W=>by
    refine (add_ll _ L4 (by rw[sizeL]at g3;simp at g1;change _=_+2 at g2;change _=_+1 at g4;simp;omega) W).trans ?_
    rw[hT.out,e4',e3',e2',e1'];simp
   clear e1' e2' e3' e4' g1 g2 g3 g4
   have HV:Hid (∀(W:World) (m:Nat),Calls Tryz.prog 131 #[.string yv] (W.drewN m) fun e w'=>e=.returned (.string ⟨(escL escV yv.data.toList).toArray⟩)∧w'=W.drewN m):=Lib.hid fun W m=>(l02Value_any yv (W.drewN m) hx.2).mono fun e w' h=>⟨by rw[h.1,escS_all],h.2.symm⟩
   clear e1 e2 hz1 hz2 hz3 hz4 hz5 hz6 hz7 hx hT
   go_wp2
   go_quiet ((go_at_call 131;exact Calls.quiet_of_same (HV.out _ _)))
   go_wp2
   go_roundw
   case rel=>exact ⟨j+1,by omega,by go_num,rfl,Lib.hid (below_drewN HB.out _)⟩
   case measure=>simp[intOf];omega
  ·obtain rfl:j=al.length:=by omega
   have e9:al.take al.length=al:=List.take_length
   have hz2:=alText_len al
   have hz7:=baLen n
   rw[e9]
   have a6:∀W,(Op.stringOp .add ⟨(60::(n.data.toList++alText al)).toArray⟩ ⟨#[62]⟩).run Tryz.prog W=.ok (.string ⟨(tagText n al).toArray⟩) W:=fun W=>(add_ll _ [62] (by simp;omega) W).trans (by simp[tagText])
   clear e9 hz2 hz7
   go_wp2
   go_ret
   exact ⟨rfl,KB.out⟩
end Go.Proofs.YthdkkpbhijlpaaaGreatDoor
