import Derived.Test.YthdkkpbhijlpaaaGreatDoorQ24
import Derived.Test.YthdkkpbhijlpaaaGreatDoorQ27
import Derived.Test.YthdkkpbhijlpaaaGreatDoorQ20
import Derived.Test.YthdkkpbhijlpaaaGreatDoorQ16
set_option linter.unusedVariables false
namespace Go.Proofs.YthdkkpbhijlpaaaGreatDoor
open Go.ChangeShapes Go.WideShapes Go.ChangeAt Go.RowKit Go.Deep
theorem rawIn_size (l:List (ByteArray × Int)):(rawIn l).size≤6:=by
 unfold rawIn
 split
 ·rename_i h
  simp only[Bool.and_eq_true]at h
  obtain ⟨r,hr,e⟩:=raw_cases h.2
  rw[e]
  simp only[rawL,List.mem_cons,List.not_mem_nil,or_false]at hr
  rcases hr with rfl | rfl | rfl | rfl <;> decide
 ·exact Nat.zero_le _
theorem words_bad_ne {z:Zi} {t:ByteArray} {c:Int} (h:z.words t=.bad c):c≠0:=by
 unfold Zi.words at h
 split at h
 ·split at h
  ·split at h
   ·injection h with h;omega
   ·cases h
  ·exact add_bad_ne h
 ·exact add_bad_ne h
theorem begin_bad_ne {z:Zi} {T:Tk} {c:Int} (h:z.begin T=.bad c):c≠0:=by
 unfold Zi.begin at h
 dsimp only at h
 split at h
 ·injection h with h;omega
 ·split at h
  ·injection h with h;omega
  ·split at h <;> cases h
theorem take_bad_ne {z:Zi} {T:Tk} {c:Int} (h:z.take T=.bad c):c≠0:=by
 unfold Zi.take at h
 split at h
 ·exact words_bad_ne h
 ·split at h
  ·exact add_bad_ne h
  ·split at h
   ·exact begin_bad_ne h
   ·split at h <;> cases h
theorem runZ_fuel (s:ByteArray):∀(f g a:Nat) (z:Zi),s.size-a≤f→s.size-a≤g→runZ s f a z=runZ s g a z
 | 0,g,a,z,h,_=>by rw[runZ_end s 0 a z (by omega),runZ_end s g a z (by omega)]
 | f+1,0,a,z,_,h=>by rw[runZ_end s (f+1) a z (by omega),runZ_end s 0 a z (by omega)]
 | f+1,g+1,a,z,h1,h2=>by
  by_cases ha:a<s.size
  ·have hl:=nextOf_len (raw:=z.raw) ha
   cases ht:z.take (nextOf s a z.raw) with
   | bad c=>rw[runZ_bad ha ht,runZ_bad ha ht]
   | ok y=>rw[runZ_ok ha ht,runZ_ok ha ht,runZ_fuel s f g _ y (by omega) (by omega)]
  ·rw[runZ_end s _ a z (by omega),runZ_end s _ a z (by omega)]
def BuiltOut (r:Fo × Int) (w:World) (e:Ending) (w':World):Prop:=∃v bl,e=.returned (.tuple #[v,.int .i64 r.2])∧GRow w' w.heap.size v r.1 bl∧Below w.heap.size w w'
theorem BI.all {w:World} {bb:Nat} {z:Zi} {v v0 pv:Value} {ps:List Value} {bF bl:List Nat} (h:BI w bb z v v0 pv ps bF bl):∃bl',GRow w (bb+1) v0 z.done bl':=by
 obtain ⟨v',bF',bl',r1,_⟩:=h.tr.pops z.up.length h.fit
 have hu:(z.pops z.up.length).up=[]:=by rw[Zi.pops_up];simp
 have hr:=r1.row
 have hup:=r1.up
 rw[hu]at hup
 obtain ⟨e,_,_⟩:=hup
 subst e
 exact ⟨bF',hr⟩
theorem BI.start (w:World):BI (w.alloc (.cells #[.slice none 0 0,.slice none 0 0,.int .i64 0] 86)) w.heap.size ⟨.nil,[],0⟩ (.slice none 0 0) (.slice none 0 0) (.slice none 0 0) [] [] [] where
 tr:=⟨GRow.nil _ _,⟨rfl,rfl,rfl⟩,by simp[ownL,Value.ownBlock]⟩
 op:=World.ownsRow_nil _ _ _ _
 dis:=by intro k hk;simp[ownL,Value.ownBlock]at hk
 lay:=Lay.new w _ _
 fit:=⟨by simp[cntZ,Fo.len],by simp,by simp,fun x hx=>by simp[Fo.last]at hx⟩
set_option maxHeartbeats 2000000 in
set_option maxRecDepth 100000 in
theorem build_any (s:ByteArray) (w:World) (hs:s.size≤4096) (hE:Env2 w):
 Calls Tryz.prog 36 #[.string s] w (BuiltOut (builtOf s) w):=by
 have HE:=Lib.hid hE
 have HS:=Lib.hid (BI.start w)
 have B0:=Lib.hid ((Below.refl w.heap.size w).alloc (Nat.le_refl _) (.cells #[.slice none 0 0,.slice none 0 0,.int .i64 0] 86))
 clear hE
 go_enter Tryz.func36,Tryz.ntmps36
 go_wp2
 go_loopw [5] (fun i wr=>∃(a:Nat) (z:Zi) (v v0 pv:Value) (ps:List Value) (bF bl:List Nat),i=.int .i64 (a:Int)∧a≤s.size∧Hid (BI wr w.heap.size z v v0 pv ps bF bl∧Below w.heap.size w wr∧(runZ s (s.size-a) a z).fin=builtOf s)) (fun i wr=>s.size-(intOf i).toNat)
 case atStart=>exact ⟨0,_,_,_,_,_,_,_,rfl,Nat.zero_le _,Lib.hid ⟨HS.out,B0.out,rfl⟩⟩
 case round=>
  obtain ⟨a,z,v,v0,pv,ps,bF,bl,rfl,ha,HH⟩:=hrel
  by_cases hlt:a<s.size
  ·have hnl:=nextOf_len (raw:=z.raw) hlt
   have hnn:=nextOf_name (s:=s) (raw:=z.raw) (a:=a)
   have hnt:=nextOf_text (s:=s) (raw:=z.raw) (a:=a)
   have HR:=Lib.hid (raw_any w.heap.size z v v0 pv ps bF bl wr HH.out.1)
   have HT:=Lib.hid (readToken_any s z.raw a (by omega) (by have:=rawIn_size (opensOf z.up);unfold Zi.raw;omega) hlt wr (HE.out.below HH.out.2.1))
   have HF:Hid (∀c,z.take (nextOf s a z.raw)=.bad c→builtOf s=(.nil,c)):=Lib.hid fun c hc=>by
    have:=HH.out.2.2
    rw[show s.size-a=(s.size-a-1)+1 by omega,runZ_bad hlt hc]at this
    exact this.symm
   have HG:Hid (∀y,z.take (nextOf s a z.raw)=.ok y→(runZ s (s.size-(a+(nextOf s a z.raw).l)) (a+(nextOf s a z.raw).l) y).fin=builtOf s):=Lib.hid fun y hy=>by
    have:=HH.out.2.2
    rw[show s.size-a=(s.size-a-1)+1 by omega,runZ_ok hlt hy]at this
    rw[←this,runZ_fuel s (s.size-(a+(nextOf s a z.raw).l)) (s.size-a-1) _ y (by omega) (by omega)]
   generalize nextOf s a z.raw=T at hnl hnn hnt HT HF HG
   obtain ⟨tk,ta,tl,tn,tt,tal,ts⟩:=T
   simp only at hnl hnn hnt HG
   have HI:=Lib.hid HH.out.1
   have HB:=Lib.hid HH.out.2.1
   clear HH
   go_wp2_with fail
   refine HR.out.mono ?_
   rintro e w' ⟨rfl,rfl⟩
   go_wp2_with fail
   refine HT.out.mono ?_
   rintro e w2 ⟨⟨TA,tc,rfl,ba,ha1,ha2,ha3,ha4,ha5⟩,hB2⟩
   have I2:=Lib.hid (HI.out.next hB2)
   have B2:=Lib.hid (HB.out.trans (hB2.mono HB.out.size))
   have A3:Hid (Below w2.heap.size w2 (w2.alloc (.cells #[.int .i64 tk,.int .i64 (ta:Int),.int .i64 (tl:Int),.string tn,.string tt,.slice TA tal.length tc,.bool ts] 88))):=Lib.hid ((Below.refl w2.heap.size w2).alloc (Nat.le_refl _) _)
   have L3:=Lib.hid (Lay.new w2 #[.int .i64 tk,.int .i64 (ta:Int),.int .i64 (tl:Int),.string tn,.string tt,.slice TA tal.length tc,.bool ts] 88)
   have hfl:∀q,FpI w.heap.size v pv bF bl q→q<wr.heap.size:=fun q hq=>(HI.out.lt q hq).2
   have hws:w.heap.size<wr.heap.size:=(HI.out.lt _ (Or.inl rfl)).2
   have HTK:=Lib.hid (takeB_any w.heap.size z v v0 pv ps bF bl ⟨tk,ta,tl,tn,tt,tal,ts⟩ TA tc ba (w2.alloc (.cells #[.int .i64 tk,.int .i64 (ta:Int),.int .i64 (tl:Int),.string tn,.string tt,.slice TA tal.length tc,.bool ts] 88)) (by unfold maxLen;simp only;omega) (by simp only;omega) ⟨ha1,ha2,ha3.same fun q hq=>A3.out.block q (ha5 q hq).2⟩ ha4 (fun q hq=>⟨by have:=(ha5 q hq).1;omega,Nat.lt_of_lt_of_le (ha5 q hq).2 A3.out.size,fun h=>by have:=hfl q h;have:=(ha5 q hq).1;omega⟩) (I2.out.next A3.out))
   have HFL:=Lib.hid hfl
   have hs2:wr.heap.size≤w2.heap.size:=hB2.size
   unfold Tk.val at HTK ⊢
   dsimp only at HTK ⊢
   clear hB2 ha1 ha2 ha3 ha4 ha5 hfl
   cases hR:z.take ⟨tk,ta,tl,tn,tt,tal,ts⟩ with
   | bad c=>
    rw[hR]at HTK
    have HC:=Lib.hid (HF.out c hR)
    have hc:(c != 0)=true:=by simpa using take_bad_ne hR
    clear hR
    go_wp2_with (go_at_call 60;refine HTK.out.mono ?_;rintro e w4 ⟨rfl,hB4⟩;have B4:=Lib.hid hB4;clear hB4)
    go_ret2
    rw[HC.out]
    have h1:Below w.heap.size w _:=(B2.out.trans (A3.out.mono (by omega))).trans B4.out
    exact ⟨_,[],rfl,GRow.nil _ _,h1⟩
   | ok y=>
    rw[hR]at HTK
    have HC:=Lib.hid (HG.out y hR)
    clear hR
    go_wp2_with (go_at_call 60;refine HTK.out.mono ?_;rintro e w4 ⟨rfl,hB4,v4,v04,pv4,ps4,bF4,bl4,hI4,hf4⟩;have hbk:w4.heap[w2.heap.size]?=_:=hB4.block w2.heap.size (by simp) (fun h=>by have:=HFL.out _ h;omega);have c2:w4.cell? ⟨w2.heap.size,2,none⟩=some (.int .i64 (tl:Int)):=(World.cell?_of_block (a:=⟨w2.heap.size,2,none⟩) hbk).trans (L3.out.1 2);have R4:=Lib.hid (And.intro hI4 hB4);clear hB4 hI4 hf4 hbk)
    go_roundw
    case rel=>exact ⟨a+tl,y,v4,v04,pv4,ps4,bF4,bl4,by go_num,hnl.2,Lib.hid ⟨R4.out.1,(B2.out.trans (A3.out.mono (by omega))).trans (R4.out.2.below (fun q hq=>(HI.out.lt q hq).1) (by simp;omega)),HC.out⟩⟩
    case measure=>(simp[intOf] <;> omega)
  ·obtain rfl:a=s.size:=by omega
   have p0:wr.cell? ⟨w.heap.size,0,none⟩=some v0:=HH.out.1.lay.1 0
   have HF:Hid (builtOf s=(z.done,0)):=Lib.hid (by have:=HH.out.2.2;rw[Nat.sub_self,runZ_end s 0 _ z (Nat.le_refl _)]at this;exact this.symm)
   go_wp2
   go_ret2
   obtain ⟨bl',hG⟩:=HH.out.1.all
   rw[HF.out]
   exact ⟨v0,bl',rfl,hG.low (Nat.le_succ _),HH.out.2.1⟩
end Go.Proofs.YthdkkpbhijlpaaaGreatDoor
namespace Go.Proofs.YthdkkpbhijlpaaaGreatDoor
open Go.ChangeShapes Go.WideShapes Go.ChangeAt Go.RowKit Go.Deep
theorem scan_al6 {s:ByteArray}:∀(k i:Nat) (al:List (ByteArray × ByteArray)) (f:Bool),al.length≤6→(scan s k i al f).2.1.length≤6:=by
 intro k
 induction k with
 | zero=>intro i al f h;exact h
 | succ k ih=>
  intro i al f h
  rw[scan]
  split
  ·exact h
  ·split
   ·exact ih _ _ _ h
   ·exact ih _ _ _ (keepA_six h)
theorem openOf_al6 (s:ByteArray) (a:Nat):(openOf s a).al.length≤6:=by
 unfold openOf
 dsimp only
 split
 ·exact Nat.zero_le _
 ·split
  ·exact scan_al6 _ _ _ _ (Nat.zero_le _)
  ·exact Nat.zero_le _
theorem nextOf_al6 (s:ByteArray) (a:Nat) (raw:ByteArray):(nextOf s a raw).al.length≤6:=by
 unfold nextOf markTk
 repeat' split
 all_goals first | exact openOf_al6 _ _ | exact Nat.zero_le _ | (rw[closeTk_al];exact Nat.zero_le _)
def frC:List Fr→Nat
 | []=>0
 | x::up=>4+2*x.al.length+x.P.cnt+frC up
def Zi.cn (z:Zi):Nat:=z.F.cnt+frC z.up
theorem Zi.pop_cn (z:Zi):z.pop.cn=z.cn:=by
 obtain ⟨F,up,c⟩:=z
 cases up with
 | nil=>rfl
 | cons x up=>simp only[Zi.pop,Zi.cn,frC,Fo.cnt_app,Fo.one,Fo.cnt];omega
theorem Zi.pops_cn:∀(k:Nat) (z:Zi),(z.pops k).cn=z.cn
 | 0,z=>rfl
 | k+1,z=>by rw[Zi.pops,Zi.pops_cn k,Zi.pop_cn]
theorem Zi.to_cn (z:Zi) (k:Nat):(z.to k).cn=z.cn:=Zi.pops_cn _ _
theorem Zi.to_c (z:Zi) (k:Nat):(z.to k).c=z.c:=Zi.pops_c _ _
def Zi.cnOK (z:Zi):Prop:=z.cn≤16*z.c∧z.c≤60
theorem Zi.add_cn {z y:Zi} {k sp:Int} {n t:ByteArray} {al:List (ByteArray × ByteArray)} (hz:z.cnOK) (hl:al.length≤6) (h:z.add k sp n t al=.ok y):y.cnOK:=by
 unfold Zi.add at h
 split at h
 ·cases h
 ·split at h
  ·cases h
  ·split at h
   ·cases h
   ·injection h with h
    subst h
    obtain ⟨h1,h2⟩:=hz
    refine ⟨?_,by simp only;omega⟩
    unfold Zi.cn at h1 ⊢
    simp only[Fo.cnt_app,Fo.one,Fo.cnt]
    omega
theorem Zi.take_cn {z y:Zi} {T:Tk} (hz:z.cnOK) (hl:T.al.length≤6) (h:z.take T=.ok y):y.cnOK:=by
 unfold Zi.take at h
 split at h
 ·unfold Zi.words at h
  split at h
  ·split at h
   ·split at h
    ·cases h
    ·injection h with h
     subst h
     obtain ⟨h1,h2⟩:=hz
     refine ⟨?_,h2⟩
     unfold Zi.cn at h1 ⊢
     simp only[Fo.addText_cnt]
     exact h1
   ·exact Zi.add_cn hz (Nat.zero_le _) h
  ·exact Zi.add_cn hz (Nat.zero_le _) h
 ·split at h
  ·exact Zi.add_cn hz (Nat.zero_le _) h
  ·split at h
   ·unfold Zi.begin at h
    dsimp only at h
    have e1:=Zi.to_cn z (leftOf (opensOf z.up) T.n)
    have e2:=Zi.to_c z (leftOf (opensOf z.up) T.n)
    generalize z.to (leftOf (opensOf z.up) T.n)=x at h e1 e2
    obtain ⟨h1,h2⟩:=hz
    rw[←e1,←e2]at h1
    rw[←e2]at h2
    split at h
    ·cases h
    ·split at h
     ·cases h
     ·split at h
      ·injection h with h
       subst h
       refine ⟨?_,by simp only;omega⟩
       unfold Zi.cn at h1 ⊢
       simp only[Fo.cnt,frC]
       omega
      ·injection h with h
       subst h
       refine ⟨?_,by simp only;omega⟩
       unfold Zi.cn at h1 ⊢
       simp only[Fo.cnt_app,Fo.one,Fo.cnt]
       omega
   ·split at h
    ·injection h with h
     subst h
     unfold Zi.close
     split
     ·exact ⟨by rw[Zi.to_cn,Zi.to_c];exact hz.1,by rw[Zi.to_c];exact hz.2⟩
     ·exact hz
    ·injection h with h
     subst h
     exact hz
theorem runZ_cn {s:ByteArray}:∀(f a:Nat) (z y:Zi),z.cnOK→runZ s f a z=.ok y→y.cnOK
 | 0,a,z,y,hz,h=>by injection h with h;subst h;exact hz
 | f+1,a,z,y,hz,h=>by
  by_cases ha:a<s.size
  ·cases ht:z.take (nextOf s a z.raw) with
   | bad c=>rw[runZ_bad ha ht]at h;cases h
   | ok x=>
    rw[runZ_ok ha ht]at h
    exact runZ_cn f _ x y (Zi.take_cn hz (nextOf_al6 _ _ _) ht) h
  ·rw[runZ_end s _ a z (by omega)]at h
   injection h with h
   subst h
   exact hz
theorem builtOf_cn (s:ByteArray):(builtOf s).1.cnt≤960:=by
 unfold builtOf
 cases h:runZ s s.size 0 ⟨.nil,[],0⟩ with
 | bad c=>exact Nat.zero_le _
 | ok y=>
  obtain ⟨h1,h2⟩:=runZ_cn _ _ _ _ (⟨by simp[Zi.cn,Fo.cnt,frC],by simp⟩:Zi.cnOK ⟨.nil,[],0⟩) h
  have e:(y.to 0).cn=y.cn:=Zi.to_cn y 0
  have e2:(y.to 0).F.cnt≤(y.to 0).cn:=Nat.le_add_right _ _
  show (y.to 0).F.cnt≤960
  omega
theorem Fo.len_cnt:∀F:Fo,F.len≤F.cnt
 | .nil=>Nat.le_refl _
 | .cons _ _ _ _ _ _ r=>by have:=Fo.len_cnt r;simp only[Fo.len,Fo.cnt];omega
theorem raw_open {z:Zi} (h:0<z.raw.size):0<z.up.length∧inL rawL z.raw=true∧(topOf (opensOf z.up)).1=z.raw:=by
 unfold Zi.raw rawIn at h ⊢
 by_cases hc:((topOf (opensOf z.up)).2==0&&inL rawL (topOf (opensOf z.up)).1)=true
 ·rw[if_pos hc]at h ⊢
  refine ⟨?_,?_,rfl⟩
  ·cases hu:z.up with
   | nil=>rw[hu]at h;exact absurd h (Nat.lt_irrefl 0)
   | cons x up=>simp
  ·simp only[Bool.and_eq_true]at hc
   exact hc.2
 ·rw[if_neg hc]at h
  exact absurd h (Nat.lt_irrefl 0)
theorem raw_pop {s:ByteArray} {a:Nat} {z:Zi} (hr:0<z.raw.size) (ha:a<s.size) (hk:(nextOf s a z.raw).k≠1):
 (runZ s (s.size-(a+(nextOf s a z.raw).l)) (a+(nextOf s a z.raw).l) (z.to (z.up.length-1))).fin=(runZ s (s.size-a) a z).fin:=by
 obtain ⟨h1,h2,h3⟩:=raw_open hr
 have hl:=nextOf_len (raw:=z.raw) ha
 rcases raw_rule h2 ha with h | ⟨h,hn⟩ | ⟨h,hend⟩
 ·exact absurd h hk
 ·have ht:z.take (nextOf s a z.raw)=.ok (z.to (z.up.length-1)):=by
   unfold Zi.take
   rw[if_neg (by rw[h];decide),if_neg (by rw[h];decide),if_neg (by rw[h];decide),if_pos h,hn]
   unfold Zi.close
   rw[cutOf_top (by rw[opensOf_len];exact h1) z.raw h3,opensOf_len,if_pos h1]
  rw[show s.size-a=(s.size-a-1)+1 by omega,runZ_ok ha ht,runZ_fuel s (s.size-(a+(nextOf s a z.raw).l)) (s.size-a-1) _ _ (by omega) (by omega)]
 ·have ht:z.take (nextOf s a z.raw)=.ok z:=by
   unfold Zi.take
   rw[if_neg (by rw[h];decide),if_neg (by rw[h];decide),if_neg (by rw[h];decide),if_neg (by rw[h];decide)]
  rw[show s.size-a=(s.size-a-1)+1 by omega,runZ_ok ha ht,runZ_end s _ _ _ hend,runZ_end s _ _ _ hend]
  show ((z.to (z.up.length-1)).done,(0:Int))=(z.done,0)
  rw[Zi.done_to z _ (Nat.sub_le _ _)]
end Go.Proofs.YthdkkpbhijlpaaaGreatDoor
namespace Go.Proofs.YthdkkpbhijlpaaaGreatDoor
open Go.ChangeShapes Go.WideShapes Go.ChangeAt Go.RowKit Go.Deep
def NodS (w:World) (B:Nat):List Fr→Fo→List Value→List Nat→Prop
 | [],F,nvs,bl=>∃v bF,nvs=[.int .i64 0,.int .i64 0,.string ⟨#[]⟩,.string ⟨#[]⟩,.slice none 0 0,v]∧GRow w B v F bF∧bl=ownL v++bF
 | x::up,F,nvs,bl=>∃(v:Value) (bF:List Nat) (A:Option Addr) (ca:Nat) (ba:List Nat) (nvs':List Value) (bl':List Nat),nvs=nvs'++elV x.sp x.n x.al A ca v∧GRow w B v F bF ∧
  (x.n.size≤maxLen∧x.al.length≤ca∧x.al.length≤maxLen∧AlRow w A x.al ba)∧(∀k ∈ ba,B≤k∧k<w.heap.size)∧NodS w B up x.P nvs' bl'∧bl=ownL v++bF++(ba++bl')
theorem NodS.same {w w':World} {B:Nat} (hs:w.heap.size≤w'.heap.size):∀{up:List Fr} {F:Fo} {nvs:List Value} {bl:List Nat},NodS w B up F nvs bl→(∀k ∈ bl,w'.heap[k]?=w.heap[k]?)→NodS w' B up F nvs bl
 | [],F,nvs,bl,⟨v,bF,h1,h2,h3⟩,hb=>⟨v,bF,h1,h2.sameB hs fun k hk=>hb k (by rw[h3];exact hk),h3⟩
 | x::up,F,nvs,bl,⟨v,bF,A,ca,ba,nvs',bl',h1,h2,h3,h4,h5,h6⟩,hb=>by
  subst h6
  exact ⟨v,bF,A,ca,ba,nvs',bl',h1,h2.sameB hs fun k hk=>hb k (List.mem_append.2 (Or.inl hk)),⟨h3.1,h3.2.1,h3.2.2.1,h3.2.2.2.same fun k hk=>hb k (by simp[hk])⟩,fun k hk=>⟨(h4 k hk).1,Nat.lt_of_lt_of_le (h4 k hk).2 hs⟩,NodS.same hs h5 fun k hk=>hb k (by simp[hk]),rfl⟩
theorem NodS.lt {w:World} {B:Nat}:∀{up:List Fr} {F:Fo} {nvs:List Value} {bl:List Nat},NodS w B up F nvs bl→∀k ∈ bl,B≤k∧k<w.heap.size
 | [],F,nvs,bl,⟨v,bF,_,h2,h3⟩,k,hk=>h2.lt k (by rw[h3]at hk;exact hk)
 | x::up,F,nvs,bl,⟨v,bF,A,ca,ba,nvs',bl',_,h2,_,h4,h5,h6⟩,k,hk=>by
  rw[h6]at hk
  rcases List.mem_append.1 hk with hk | hk
  ·exact h2.lt k hk
  ·rcases List.mem_append.1 hk with hk | hk
   ·exact h4 k hk
   ·exact NodS.lt h5 k hk
theorem NodS.inner {w:World} {B:Nat}:∀{up:List Fr} {F:Fo} {nvs:List Value} {bl:List Nat},NodS w B up F nvs bl →
 ∃(pre:List Value) (a0 a1 a2 a3 a4 v:Value) (bF rest:List Nat),nvs=pre++[a0,a1,a2,a3,a4,v]∧pre.length=up.length*6∧GRow w B v F bF∧bl=ownL v++bF++rest ∧
  ∀(w':World) (v':Value) (F':Fo) (bF':List Nat),w.heap.size≤w'.heap.size→(∀k ∈ rest,w'.heap[k]?=w.heap[k]?)→GRow w' B v' F' bF'→NodS w' B up F' (pre++[a0,a1,a2,a3,a4,v']) (ownL v'++bF'++rest)
 | [],F,nvs,bl,⟨v,bF,h1,h2,h3⟩=>⟨[],_,_,_,_,_,v,bF,[],h1,rfl,h2,by rw[h3];simp,fun w' v' F' bF' _ _ hG=>⟨v',bF',rfl,hG,by simp⟩⟩
 | x::up,F,nvs,bl,⟨v,bF,A,ca,ba,nvs',bl',h1,h2,h3,h4,h5,h6⟩=>by
  have hl:nvs'.length=(up.length+1)*6:=by
   obtain ⟨pre,_,_,_,_,_,_,_,_,e,e2,_⟩:=NodS.inner h5
   rw[e,List.length_append,e2]
   simp only[List.length_cons,List.length_nil]
   omega
  refine ⟨nvs',_,_,_,_,_,v,bF,ba++bl',h1,by rw[hl];rfl,h2,h6,fun w' v' F' bF' hs hb hG=>⟨v',bF',A,ca,ba,nvs',bl',rfl,hG,⟨h3.1,h3.2.1,h3.2.2.1,h3.2.2.2.same fun k hk=>hb k (by simp[hk])⟩,fun k hk=>⟨(h4 k hk).1,Nat.lt_of_lt_of_le (h4 k hk).2 hs⟩,h5.same hs fun k hk=>hb k (by simp[hk]),rfl⟩⟩
theorem NodS.len {w:World} {B:Nat} {up:List Fr} {F:Fo} {nvs:List Value} {bl:List Nat} (h:NodS w B up F nvs bl):nvs.length=(up.length+1)*6:=by
 obtain ⟨pre,_,_,_,_,_,_,_,_,e,e2,_⟩:=h.inner
 rw[e,List.length_append,e2]
 simp only[List.length_cons,List.length_nil]
 omega
structure BS (w:World) (B bb:Nat) (z:Zi) (sv nv:Value) (nvs:List Value) (bl:List Nat):Prop where
 nod:NodS w B z.up z.F nvs bl
 nd:bl.Nodup
 nrow:w.ownsRow B 56 6 nv (z.up.length+1) nvs
 srow:w.ownsRow B 168 2 sv z.up.length (osVals (opensOf z.up))
 dn:∀k ∈ ownL nv,k ∉ bl∧k≠bb∧k ∉ ownL sv
 ds:∀k ∈ ownL sv,k ∉ bl∧k≠bb
 db:bb ∉ bl
 lay:Lay w bb #[sv,nv,.int .i64 (z.c:Int),.int .i64 0]
 le:B≤bb
 fit:z.fit
def FpS (bb:Nat) (sv nv:Value) (bl:List Nat) (k:Nat):Prop:=k=bb∨k ∈ ownL sv∨k ∈ ownL nv∨k ∈ bl
theorem BS.lt {w:World} {B bb:Nat} {z:Zi} {sv nv:Value} {nvs:List Value} {bl:List Nat} (h:BS w B bb z sv nv nvs bl):∀k,FpS bb sv nv bl k→B≤k∧k<w.heap.size:=by
 intro k hk
 rcases hk with rfl | hk | hk | hk
 ·exact ⟨h.le,World.block_lt_of_cell? w ⟨k,0,none⟩ (h.lay.1 0)⟩
 ·exact World.ownsRow.lt h.srow k (mem_ownL.1 hk)
 ·exact World.ownsRow.lt h.nrow k (mem_ownL.1 hk)
 ·exact h.nod.lt k hk
theorem BS.same {w w':World} {B bb:Nat} {z:Zi} {sv nv:Value} {nvs:List Value} {bl:List Nat} (h:BS w B bb z sv nv nvs bl) (hs:w.heap.size≤w'.heap.size) (hb:∀k,FpS bb sv nv bl k→w'.heap[k]?=w.heap[k]?):BS w' B bb z sv nv nvs bl:=
 ⟨h.nod.same hs fun k hk=>hb k (Or.inr (Or.inr (Or.inr hk))),h.nd,ownsRow_same h.nrow fun k hk=>hb k (Or.inr (Or.inr (Or.inl (mem_ownL.2 hk)))),ownsRow_same h.srow fun k hk=>hb k (Or.inr (Or.inl (mem_ownL.2 hk))),h.dn,h.ds,h.db,lay_same h.lay (hb bb (Or.inl rfl)),h.le,h.fit⟩
theorem BS.next {w w':World} {B bb:Nat} {z:Zi} {sv nv:Value} {nvs:List Value} {bl:List Nat} (h:BS w B bb z sv nv nvs bl) (hB:Below w.heap.size w w'):BS w' B bb z sv nv nvs bl:=
 h.same hB.size fun k hk=>hB.block k (h.lt k hk).2
theorem BS.kids {w:World} {B bb:Nat} {z:Zi} {sv nv:Value} {nvs:List Value} {bl:List Nat} (h:BS w B bb z sv nv nvs bl):
 ∃gn cap v bF rest,nv=.slice (some ⟨gn,0,none⟩) (z.up.length+1) cap∧CellW w gn (z.up.length*6+5) v∧GRow w B v z.F bF∧bl=ownL v++bF++rest∧gn ∉ bl∧gn≠bb∧gn<w.heap.size ∧
  ∀(W:World) (v':Value) (F':Fo) (bF':List Nat) (y:Zi),y=⟨F',z.up,z.c⟩→y.fit→w.heap.size≤W.heap.size→(∀k,k ∈ rest∨k=bb∨k ∈ ownL sv→W.heap[k]?=w.heap[k]?)→W.heap[gn]?=(w.setCell ⟨gn,z.up.length*6+5,none⟩ v').heap[gn]?→GRow W B v' F' bF'→(ownL v'++bF'++rest).Nodup→(∀k ∈ ownL v'++bF',k≠gn∧k≠bb∧k ∉ ownL sv) →
   ∃nvs',BS W B bb y sv nv nvs' (ownL v'++bF'++rest):=by
 obtain ⟨pre,a0,a1,a2,a3,a4,v,bF,rest,e1,e2,e3,e4,e5⟩:=h.nod.inner
 obtain ⟨gn,cap,hnv⟩:∃gn cap,nv=.slice (some ⟨gn,0,none⟩) (z.up.length+1) cap:=by
  rcases h.nrow.2 with ⟨_,h0⟩ | ⟨g,cap,cur,e,_⟩
  ·omega
  ·exact ⟨g,cap,e⟩
 have hgm:gn ∈ ownL nv:=mem_ownL.2 (by rw[hnv];rfl)
 have hgl:=World.ownsRow.lt h.nrow gn (mem_ownL.1 hgm)
 have hr:=h.nrow
 rw[hnv]at hr
 refine ⟨gn,cap,v,bF,rest,hnv,⟨?_,hr.frozenAt _⟩,e3,e4,(h.dn gn hgm).1,(h.dn gn hgm).2.1,hgl.2,fun W v' F' bF' y hy hf hs hk hg hG hnd hd=>?_⟩
 ·rw[hr.cellAt _ (by omega),e1,List.getElem?_append_right (by omega),e2,Nat.add_sub_cancel_left];rfl
 ·subst hy
  refine ⟨pre++[a0,a1,a2,a3,a4,v'],⟨e5 W v' F' bF' hs (fun k hk'=>hk k (Or.inl hk')) hG,hnd,?_,ownsRow_same h.srow fun k hk'=>hk k (Or.inr (Or.inr (mem_ownL.2 hk'))),fun k hk'=>?_,fun k hk'=>?_,fun hm=>?_,lay_same h.lay (hk bb (Or.inr (Or.inl rfl))),h.le,hf⟩⟩
  ·rw[hnv]
   have hst:=(hr.stored (z.up.length*6+5) v').1
   have hset:nvs.set (z.up.length*6+5) v'=pre++[a0,a1,a2,a3,a4,v']:=by
    rw[e1,List.set_append_right _ _ (by omega),e2,Nat.add_sub_cancel_left];rfl
   rw[hset]at hst
   refine ownsRow_same hst fun k hk'=>?_
   injection hk' with hk'
   subst hk'
   exact hg
  ·have hkg:k=gn:=by
    have:=mem_ownL.1 hk'
    rw[hnv]at this
    injection this with this
    exact this.symm
   subst hkg
   refine ⟨fun hm=>?_,(h.dn k hgm).2.1,(h.dn k hgm).2.2⟩
   rcases List.mem_append.1 hm with hm | hm
   ·exact (hd k hm).1 rfl
   ·exact (h.dn k hgm).1 (by rw[e4];exact List.mem_append.2 (Or.inr hm))
  ·refine ⟨fun hm=>?_,(h.ds k hk').2⟩
   rcases List.mem_append.1 hm with hm | hm
   ·exact (hd k hm).2.2 hk'
   ·exact (h.ds k hk').1 (by rw[e4];exact List.mem_append.2 (Or.inr hm))
  ·rcases List.mem_append.1 hm with hm | hm
   ·exact (hd bb hm).2.1 rfl
   ·exact h.db (by rw[e4];exact List.mem_append.2 (Or.inr hm))
end Go.Proofs.YthdkkpbhijlpaaaGreatDoor
namespace Go.Proofs.YthdkkpbhijlpaaaGreatDoor
open Go.ChangeShapes Go.WideShapes Go.ChangeAt Go.RowKit Go.Deep
theorem BS.grow {w:World} {B bb:Nat} {z:Zi} {sv nv:Value} {nvs:List Value} {bl:List Nat} (h:BS w B bb z sv nv nvs bl):
 ∃gn cap v D e xs bF,nv=.slice (some ⟨gn,0,none⟩) (z.up.length+1) cap∧CellW w gn (z.up.length*6+5) v∧v=.slice D z.F.len e∧w.ownsRow B 56 6 v z.F.len xs∧FoVals w xs z.F bF ∧
  (∀q,v.ownBlock=some q→q≠bb∧q≠gn∧q ∉ ownL sv∧q<w.heap.size∧B≤q∧q ∈ bl)∧(gn≠bb∧gn<w.heap.size∧B≤gn∧gn ∈ ownL nv)∧(GRow w B v z.F bF∧∀q ∈ ownL v++bF,q ∈ bl) ∧
  ∀(w1:World) (gg cap1:Nat) (k sp:Int) (n t:ByteArray) (al:List (ByteArray × ByteArray)) (kids:Fo) (A K:Option Addr) (ca ck:Nat) (ba bk:List Nat) (y:Zi),w.heap.size≤w1.heap.size→(∀q,q<w.heap.size→v.ownBlock≠some q→w1.heap[q]?=w.heap[q]?) →
   w1.ownsRow B 56 6 (.slice (some ⟨gg,0,none⟩) (z.F.len+1) cap1) (z.F.len+1) (xs++[.int .i64 k,.int .i64 sp,.string n,.string t,.slice A al.length ca,.slice K kids.len ck])→(v.ownBlock=some gg∨w.heap.size≤gg) →
   (n.size≤maxLen∧t.size≤maxLen)→(al.length≤ca∧al.length≤maxLen∧AlRow w A al ba)→(kids.len≤ck∧kids.len≤maxLen∧KRow w K kids bk)→(ba++bk).Nodup→(∀q ∈ ba++bk,B≤q∧q<w.heap.size∧¬FpS bb sv nv bl q) →
   y=⟨z.F.app (.one k sp n t al kids),z.up,z.c⟩→y.fit →
   ∃nvs' bl',BS (w1.setCell ⟨gn,z.up.length*6+5,none⟩ (.slice (some ⟨gg,0,none⟩) (z.F.len+1) cap1)) B bb y sv nv nvs' bl'∧∀q ∈ bl',q ∈ bl∨q ∈ ba++bk∨w.heap.size≤q:=by
 obtain ⟨gn,cap,v,bF,rest,e1,e2,e3,e4,e5,e6,e7,e8⟩:=h.kids
 have hgm:gn ∈ ownL nv:=mem_ownL.2 (by rw[e1];rfl)
 have hgB:=(World.ownsRow.lt h.nrow gn (mem_ownL.1 hgm)).1
 obtain ⟨D,e,bs,hv,_⟩:=e3.kids
 have hnd:=h.nd
 rw[e4]at hnd
 obtain ⟨n1,n2,n3⟩:=List.nodup_append.1 hnd
 obtain ⟨n4,n5,n6⟩:=List.nodup_append.1 n1
 have hvl:∀q,v.ownBlock=some q→q≠bb∧q≠gn∧q ∉ ownL sv∧q<w.heap.size∧B≤q∧q ∈ bl:=fun q hq=>by
  have hm:q ∈ bl:=by rw[e4];exact List.mem_append.2 (Or.inl (List.mem_append.2 (Or.inl (mem_ownL.2 hq))))
  have hl:=h.nod.lt q hm
  exact ⟨fun e=>h.db (by rw[←e];exact hm),fun e=>e5 (by rw[←e];exact hm),fun hs=>(h.ds q hs).1 hm,hl.2,hl.1,hm⟩
 obtain ⟨xs,ho,hfv,hbn,hbb,hbg⟩:=id e3
 refine ⟨gn,cap,v,D,e,xs,bF,e1,e2,hv,ho,hfv,hvl,⟨e6,e7,hgB,hgm⟩,⟨e3,fun q hq=>by rw[e4];exact List.mem_append.2 (Or.inl hq)⟩,?_⟩
 intro w1 gg cap1 k sp n t al kids A K ca ck ba bk y hs hk hown hat hz h4 h5 hnb hbl hy hf
 have hbF:∀q ∈ bF,q ∈ bl:=fun q hq=>by rw[e4];exact List.mem_append.2 (Or.inl (List.mem_append.2 (Or.inr hq)))
 have hrest:∀q ∈ rest,q ∈ bl:=fun q hq=>by rw[e4];exact List.mem_append.2 (Or.inr hq)
 have hG1:GRow w1 B (.slice (some ⟨gg,0,none⟩) (z.F.len+1) cap1) (z.F.app (.one k sp n t al kids)) (bF++(ba++bk)):=by
  refine grow_push (v:=v) hfv (fun q hq=>?_) ?_ (fun q hq hm=>?_) hz h4 h5 hown hk hs ?_
  ·rcases List.mem_append.1 hq with hq | hq
   ·exact hbb q hq
   ·exact ⟨(hbl q hq).1,(hbl q hq).2.1⟩
  ·exact List.nodup_append.2 ⟨hbn,hnb,fun a ha b hb e=>by subst e;exact (hbl a hb).2.2 (Or.inr (Or.inr (Or.inr (hbF a ha))))⟩
  ·rcases List.mem_append.1 hm with hm | hm
   ·exact hbg q hq hm
   ·exact (hbl q hm).2.2 (Or.inr (Or.inr (Or.inr (hvl q hq).2.2.2.2.2)))
  ·rcases hat with e | e
   ·exact Or.inl e.symm
   ·exact Or.inr ⟨gg,rfl,e⟩
 have hggs:gg≠gn∧gg≠bb∧gg ∉ ownL sv∧gg ∉ rest∧gg ∉ bF++(ba++bk):=by
  have hbbl:=(h.lt bb (Or.inl rfl)).2
  rcases hat with e | e
  ·have:=hvl gg e
   refine ⟨this.2.1,this.1,this.2.2.1,fun hq=>n3 gg (List.mem_append.2 (Or.inl (mem_ownL.2 e))) gg hq rfl,fun hq=>?_⟩
   rcases List.mem_append.1 hq with hq | hq
   ·exact n6 gg (mem_ownL.2 e) gg hq rfl
   ·exact (hbl gg hq).2.2 (Or.inr (Or.inr (Or.inr this.2.2.2.2.2)))
  ·refine ⟨by omega,by omega,fun hq=>?_,fun hq=>?_,fun hq=>?_⟩
   ·have:=(h.lt gg (Or.inr (Or.inl hq))).2;omega
   ·have:=(h.nod.lt gg (hrest gg hq)).2;omega
   ·rcases List.mem_append.1 hq with hq | hq
    ·have:=(h.nod.lt gg (hbF gg hq)).2;omega
    ·have:=(hbl gg hq).2.1;omega
 have far:∀q,q≠gn→(w1.setCell ⟨gn,z.up.length*6+5,none⟩ (.slice (some ⟨gg,0,none⟩) (z.F.len+1) cap1)).heap[q]?=w1.heap[q]?:=fun q hq=>Below.heap_setCell w1 ⟨gn,z.up.length*6+5,none⟩ _ q (by rintro rfl;exact hq rfl)
 have hmem:∀q ∈ ownL (.slice (some ⟨gg,0,none⟩) (z.F.len+1) cap1)++(bF++(ba++bk)),q≠gn∧q≠bb∧q ∉ ownL sv:=fun q hq=>by
  rcases List.mem_append.1 hq with hq | hq
  ·have:=mem_ownL.1 hq
   injection this with this
   subst this
   exact ⟨hggs.1,hggs.2.1,hggs.2.2.1⟩
  ·rcases List.mem_append.1 hq with hq | hq
   ·exact ⟨fun e=>e5 (by rw[←e];exact hbF q hq),fun e=>h.db (by rw[←e];exact hbF q hq),fun hs=>(h.ds q hs).1 (hbF q hq)⟩
   ·have:=(hbl q hq).2.2
    exact ⟨fun e=>this (Or.inr (Or.inr (Or.inl (by rw[e];exact hgm)))),fun e=>this (Or.inl e),fun hs=>this (Or.inr (Or.inl hs))⟩
 have c1:∀q,q ∈ rest∨q=bb∨q ∈ ownL sv→(w1.setCell ⟨gn,z.up.length*6+5,none⟩ (.slice (some ⟨gg,0,none⟩) (z.F.len+1) cap1)).heap[q]?=w.heap[q]?:=by
  intro q hq
  have hqn:q≠gn∧v.ownBlock≠some q∧q<w.heap.size:=by
   rcases hq with hq | hq | hq
   ·refine ⟨fun e=>e5 (by rw[←e];exact hrest q hq),fun e=>n3 q (List.mem_append.2 (Or.inl (mem_ownL.2 e))) q hq rfl,(h.nod.lt q (hrest q hq)).2⟩
   ·subst hq
    exact ⟨fun e=>e6 e.symm,fun e=>(hvl q e).1 rfl,(h.lt q (Or.inl rfl)).2⟩
   ·exact ⟨fun e=>(h.dn gn hgm).2.2 (by rw[←e];exact hq),fun e=>(hvl q e).2.2.1 hq,(h.lt q (Or.inr (Or.inl hq))).2⟩
  rw[far q hqn.1,hk q hqn.2.2 hqn.2.1]
 have c2:(ownL (.slice (some ⟨gg,0,none⟩) (z.F.len+1) cap1)++(bF++(ba++bk))++rest).Nodup:=by
  refine List.nodup_append.2 ⟨List.nodup_append.2 ⟨by simp[ownL,Value.ownBlock],?_,fun a ha b hb e=>?_⟩,n2,fun a ha b hb e=>?_⟩
  ·exact List.nodup_append.2 ⟨hbn,hnb,fun a ha b hb e=>by subst e;exact (hbl a hb).2.2 (Or.inr (Or.inr (Or.inr (hbF a ha))))⟩
  ·subst e
   have:=mem_ownL.1 ha
   injection this with this
   subst this
   exact hggs.2.2.2.2 hb
  ·subst e
   rcases List.mem_append.1 ha with ha | ha
   ·have:=mem_ownL.1 ha
    injection this with this
    subst this
    exact hggs.2.2.2.1 hb
   ·rcases List.mem_append.1 ha with ha | ha
    ·exact n3 a (List.mem_append.2 (Or.inr ha)) a hb rfl
    ·exact (hbl a ha).2.2 (Or.inr (Or.inr (Or.inr (hrest a hb))))
 obtain ⟨nvs',r⟩:=e8 _ (.slice (some ⟨gg,0,none⟩) (z.F.len+1) cap1) _ (bF++(ba++bk)) y hy hf (by simpa using hs) c1 (setCell_block (hk gn e7 fun e=>(hvl gn e).2.1 rfl)) (hG1.sameB (by simp) fun q hq=>far q (hmem q hq).1) c2 hmem
 refine ⟨nvs',_,r,fun q hq=>?_⟩
 rcases List.mem_append.1 hq with hq | hq
 ·rcases List.mem_append.1 hq with hq | hq
  ·have:=mem_ownL.1 hq
   injection this with this
   subst this
   rcases hat with e | e
   ·exact Or.inl (hvl gg e).2.2.2.2.2
   ·exact Or.inr (Or.inr e)
  ·rcases List.mem_append.1 hq with hq | hq
   ·exact Or.inl (hbF q hq)
   ·exact Or.inr (Or.inl hq)
 ·exact Or.inl (hrest q hq)
end Go.Proofs.YthdkkpbhijlpaaaGreatDoor
