import Derived.Test.YthdkkpbhijlpaaaGreatDoorQ23
import Derived.Test.YthdkkpbhijlpaaaGreatDoorQ18
set_option linter.unusedVariables false
namespace Go.Proofs.YthdkkpbhijlpaaaGreatDoor
open Go.ChangeShapes Go.WideShapes Go.ChangeAt Go.RowKit Go.Deep
theorem begin_eq (z:Zi) (T:Tk):z.begin T=match (z.to (leftOf (opensOf z.up) T.n)).add 1 (spcOf (opensOf (z.to (leftOf (opensOf z.up) T.n)).up) T.n) T.n ⟨#[]⟩ T.al with
 | .bad c=>.bad c
 | .ok u=>if staysB (spcOf (opensOf (z.to (leftOf (opensOf z.up) T.n)).up) T.n) T.n T.s=true then .ok ⟨.nil,⟨spcOf (opensOf (z.to (leftOf (opensOf z.up) T.n)).up) T.n,T.n,T.al,(z.to (leftOf (opensOf z.up) T.n)).F⟩::(z.to (leftOf (opensOf z.up) T.n)).up,(z.to (leftOf (opensOf z.up) T.n)).c+1⟩ else .ok u:=by
 unfold Zi.begin Zi.add
 dsimp only
 split
 ·rfl
 ·split
  ·rfl
  ·have e:¬120<(⟨#[]⟩:ByteArray).size:=by decide
   rw[if_neg e]
theorem add_is {z u:Zi} {k sp:Int} {n t:ByteArray} {al:List (ByteArray × ByteArray)} (h:z.add k sp n t al=.ok u):u=⟨z.F.app (.one k sp n t al .nil),z.up,z.c+1⟩:=by
 unfold Zi.add at h
 split at h
 ·cases h
 ·split at h
  ·cases h
  ·split at h
   ·cases h
   ·injection h with h;exact h.symm
theorem add_bad_ne {z:Zi} {k sp:Int} {n t:ByteArray} {al:List (ByteArray × ByteArray)} {c:Int} (h:z.add k sp n t al=.bad c):c≠0:=by
 unfold Zi.add at h
 split at h
 ·injection h with h;omega
 ·split at h
  ·injection h with h;omega
  ·split at h
   ·injection h with h;omega
   ·cases h
theorem OsIn.set {w:World} {A:Option Addr} {b:Nat} {l:List (ByteArray × Int)} (h:OsIn w A b 0 l) (g j:Nat) (u:Value) (hg:0<l.length→b≠g):OsIn (w.setCell ⟨g,j,none⟩ u) A b 0 l:=by
 refine ⟨h.1.mono (Nat.le_refl _) (by simp),?_⟩
 cases l with
 | nil=>trivial
 | cons x r=>exact h.2.carry fun j' _=>oth0 (fun e=>hg (by simp) e.symm)
theorem take_pos {α:Type} {l:List α} {k:Nat} (h:0<(l.take k).length):0<l.length:=by rw[List.length_take]at h;omega
structure BegAt (w:World) (bb:Nat) (z:Zi) (T:Tk) (TA:Option Addr) (tc:Nat) (fp:Nat→Prop) (g k:Nat) (w':World):Prop where
 bel:But fp w w'
 bi:∃v v0 pv ps bF bl,BI w' bb (z.to k) v v0 pv ps bF bl∧∀q,FpI bb v pv bF bl q→fp q
 box:Lay w' g #[.int .i64 T.k,.int .i64 (T.a:Int),.int .i64 (T.l:Int),.string T.n,.string T.t,.slice TA T.al.length tc,.bool T.s]
set_option maxHeartbeats 2000000 in
set_option maxRecDepth 100000 in
theorem begin_any (bb:Nat) (z:Zi) (v v0 pv:Value) (ps:List Value) (bF bl:List Nat) (T:Tk) (TA:Option Addr) (tc:Nat) (ba:List Nat) (w:World) (hTn:T.n.size≤maxLen)
 (ha:T.al.length≤tc∧T.al.length≤maxLen∧AlRow w TA T.al ba) (hba:ba.Nodup) (hbl:∀q ∈ ba,bb<q∧q<w.heap.size∧¬FpI bb v pv bF bl q) (h:BI w bb z v v0 pv ps bF bl):
 Calls Tryz.prog 112 #[.pointer (some ⟨bb,0,none⟩),T.val TA tc] w (OutI bb (FpI bb v pv bF bl) ba (z.begin T) w):=by
 obtain ⟨tk,ta,tl,tn,tt,tal,ts⟩:=T
 simp only at hTn ha
 have hk:=leftOf_le (opensOf z.up) tn
 have hup:=Zi.to_up z (leftOf (opensOf z.up) tn) (by rw[opensOf_len]at hk;exact hk)
 have hbeg:=begin_eq z ⟨tk,ta,tl,tn,tt,tal,ts⟩
 simp only at hbeg
 obtain ⟨hP,C,d,rfl,hd,hC,hC0⟩:=h.ptrs
 have hA:∃g,C=some ⟨g,0,none⟩∨(C=none∧d=0):=by
  rcases h.op.2 with ⟨e1,_⟩ | ⟨g,cap,cur,e1,_⟩
  ·injection e1 with e1 _ e3;exact ⟨0,Or.inr ⟨e1,e3⟩⟩
  ·injection e1 with e1 _ _;exact ⟨g,Or.inl e1⟩
 obtain ⟨gA,hA⟩:=hA
 have hlen:=h.len
 have h10:=h.fit.2.2.1
 have hbb:=(h.lt bb (Or.inl rfl)).2
 have hol:=opensOf_len z.up
 generalize hkk:leftOf (opensOf z.up) tn=k at *
 have HKK:=Lib.hid hkk
 have HUP:=Lib.hid hup
 have HBEG:=Lib.hid hbeg
 have hs:=slice_ptrs C gA ps.length d k (by omega) hA
 have hkz:k≤z.up.length:=by omega
 have hkl:k≤(opensOf z.up).length:=hk
 have hol10:(opensOf z.up).length≤10:=by omega
 have HH:=Lib.hid h
 have HX:=Lib.hid (And.intro ha (And.intro hba hbl))
 have HTN:=Lib.hid hTn
 have LB:=Lib.hid (Lay.new w #[.int .i64 tk,.int .i64 (ta:Int),.int .i64 (tl:Int),.string tn,.string tt,.slice TA tal.length tc,.bool ts] 88)
 have B0:=Lib.hid ((Below.refl w.heap.size w).alloc (Nat.le_refl _) (.cells #[.int .i64 tk,.int .i64 (ta:Int),.int .i64 (tl:Int),.string tn,.string tt,.slice TA tal.length tc,.bool ts] 88))
 have hsz0:w.heap.size<(w.alloc (.cells #[.int .i64 tk,.int .i64 (ta:Int),.int .i64 (tl:Int),.string tn,.string tt,.slice TA tal.length tc,.bool ts] 88)).heap.size:=by simp
 clear h hP hC hC0 hol hlen hkk hup hbeg hk ha hba hbl hTn hA
 unfold Tk.val
 dsimp only
 go_enter Tryz.func112,Tryz.ntmps112
 obtain ⟨spx,hspx⟩:∃spx,spcOf ((opensOf z.up).take k) tn=spx:=⟨_,rfl⟩
 have HSX:=Lib.hid hspx
 clear hspx
 go_wp2_with fail
 generalize (w.alloc (.cells #[.int .i64 tk,.int .i64 (ta:Int),.int .i64 (tl:Int),.string tn,.string tt,.slice TA tal.length tc,.bool ts] 88))=wa at LB B0 hsz0 ⊢
 have c3:wa.cell? ⟨w.heap.size,3,none⟩=some (.string tn):=LB.out.1 3
 have H0:=Lib.hid (HH.out.next B0.out)
 have HO:Hid (∀W,wa.drew=W→Calls Tryz.prog 177 #[.pointer (some ⟨bb,0,none⟩)] W (OpensOut (opensOf z.up) wa.drew)):=Lib.hid fun W e=>by subst e;exact opens_any bb z v v0 _ ps bF bl wa.drew (H0.out.same (Nat.le_refl _) fun _ _=>rfl)
 go_region_held3 (fun w'=>w'.cell? ⟨w.heap.size,3,none⟩=some (.string tn)) (first | exact x3 | exact y3 | go_keep) (first | (go_at_call 177;refine (HO.out _ rfl).mono ?_;rintro e w1 ⟨A1,c1,b1,rfl,hc1,hA1,hO1,hB1,hb1⟩;have y3:=(hB1.cell (p:=⟨w.heap.size,3,none⟩) hsz0).trans c3;have O1:=Lib.hid (And.intro hc1 (And.intro hA1 (And.intro hO1 (And.intro hB1 hb1))));have hs1:w.heap.size<w1.heap.size:=Nat.lt_of_lt_of_le hsz0 hB1.size;clear hc1 hA1 hO1 hB1 hb1) | (go_at_call 176;refine (leftOpen_any (opensOf z.up) tn _ A1 c1 b1 0 HTN.out O1.out.1 O1.out.2.1 O1.out.2.2.1).mono ?_;rintro e w2 ⟨v2,rfl,hS2,hB2⟩;rw[HKK.out]at hS2;obtain ⟨A2,c2,rfl,hc2,hO2⟩:=hS2;have x3:=(hB2.cell (p:=⟨w.heap.size,3,none⟩) hs1).trans y3;have O2:=Lib.hid (And.intro hc2 (And.intro hO2 hB2));have hs2:w.heap.size<w2.heap.size:=Nat.lt_of_lt_of_le hs1 hB2.size;clear hc2 hO2 hB2))
 have hB1:Below wa.heap.size wa w1:=((Below.refl wa.heap.size wa).drew).trans O1.out.2.2.2.1
 have H2:=Lib.hid ((H0.out.next hB1).next O2.out.2.2)
 have L2:=Lib.hid ((LB.out.below hB1 hsz0).below O2.out.2.2 hs1)
 have B2:Hid (Below w.heap.size w w2):=Lib.hid ((B0.out.trans (hB1.mono B0.out.size)).trans (O2.out.2.2.mono (Nat.le_of_lt hs1)))
 have q1:w2.cell? ⟨bb,1,none⟩=some (.slice C ps.length d):=H2.out.lay.1 1
 have q2:w2.frozen? ⟨bb,1,none⟩=false:=H2.out.lay.2 1
 have hlk:((opensOf z.up).take k).length=k:=by rw[List.length_take];omega
 have HSP:Hid (∀W,w2.setCell ⟨bb,1,none⟩ (.slice C k d)=W→Calls Tryz.prog 178 #[.slice A2 k c2,.string tn] W fun e w'=>e=.returned (.int .i64 (spcOf ((opensOf z.up).take k) tn))∧Below W.heap.size W w'):=Lib.hid fun W e=>by
  subst e
  have:=spaceWithin_any ((opensOf z.up).take k) tn (w2.setCell ⟨bb,1,none⟩ (.slice C k d)) A2 c2 b1 0 (O2.out.2.1.set bb 1 _ fun hp=>by have:=O1.out.2.2.2.2 (take_pos hp);have h2:wa.drew.heap.size=wa.heap.size:=rfl;omega)
  rw[hlk]at this
  exact this
 rw[HSX.out]at HSP
 have hbs:bb≠w.heap.size:=by omega
 clear hB1 hlk x3 y3 c3
 go_upto_region 4 with (go_at_call 178;refine (HSP.out _ rfl).mono ?_;rintro e w3 ⟨rfl,hB3⟩;have B3:=Lib.hid hB3;clear hB3)
 have HBG:Hid (BegAt w bb z ⟨tk,ta,tl,tn,tt,tal,ts⟩ TA tc (FpI bb v (.slice C ps.length d) bF bl) w.heap.size k w3):=Lib.hid (by
  obtain ⟨v',bF',bl',r1,r2⟩:=H2.out.cut k hkz
  exact ⟨((But.of_below B2.out).setCell (p:=⟨bb,1,none⟩) (Or.inl (Or.inl rfl)) _).trans (But.of_below (C:=No) B3.out) (fun _ h=>h.elim),⟨v',v0,_,_,bF',bl',r1.next B3.out,r2⟩,(L2.out.setOther hbs 1 _).below B3.out (by simpa using hs2)⟩)
 clear HSP H2 L2 B2 q1 q2 O1 O2 H0 HO LB B0 hsz0 hs1 hs2 hs B3
 obtain ⟨hbel,⟨v1,v01,pv1,ps1,bF1,bl1,hbi,hfp⟩,hbox⟩:=HBG.out
 have hfl:∀q,FpI bb v (.slice C ps.length d) bF bl q→q<w.heap.size:=fun q hq=>(HH.out.lt q hq).2
 have hfb:∀q,FpI bb v (.slice C ps.length d) bF bl q→bb≤q:=fun q hq=>(HH.out.lt q hq).1
 have HADD:=Lib.hid (add_full bb (z.to k) v1 v01 pv1 ps1 bF1 bl1 1 spx tn ⟨#[]⟩ tal TA tc ba w3 HTN.out (Nat.zero_le _) ⟨HX.out.1.1,HX.out.1.2.1,HX.out.1.2.2.same fun q hq=>hbel.block q (HX.out.2.2 q hq).2.1 (HX.out.2.2 q hq).2.2⟩ HX.out.2.1 (fun q hq=>⟨(HX.out.2.2 q hq).1,Nat.lt_of_lt_of_le (HX.out.2.2 q hq).2.1 hbel.size,fun h=>(HX.out.2.2 q hq).2.2 (hfp q h)⟩) hbi)
 have b3:w3.cell? ⟨w.heap.size,3,none⟩=some (.string tn):=hbox.1 3
 have b5:w3.cell? ⟨w.heap.size,5,none⟩=some (.slice TA tal.length tc):=hbox.1 5
 have HBI:=Lib.hid (And.intro hbel (And.intro hbi (And.intro hfp hbox)))
 have HFL:=Lib.hid (And.intro hfl hfb)
 have HBE:Hid (z.begin ⟨tk,ta,tl,tn,tt,tal,ts⟩=match (z.to k).add 1 spx tn ⟨#[]⟩ tal with
  | .bad c=>.bad c
  | .ok u=>if staysB spx tn ts=true then .ok ⟨.nil,⟨spx,tn,tal,(z.to k).F⟩::(z.to k).up,(z.to k).c+1⟩ else .ok u):=Lib.hid (by have:=HBEG.out;rw[HUP.out,HSX.out]at this;exact this)
 clear hbel hbi hfp hbox hfl hfb HBG
 cases hR:(z.to k).add 1 spx tn ⟨#[]⟩ tal with
 | bad c=>
  have HE:Hid (z.begin ⟨tk,ta,tl,tn,tt,tal,ts⟩=.bad c):=Lib.hid (by rw[HBE.out,hR])
  rw[hR]at HADD
  have hc:=add_bad_ne hR
  have hc':(c != 0)=true:=by simpa using hc
  clear hR hc
  go_wp2_with (go_at_call 111;refine HADD.out.mono ?_;rintro e w4 ⟨rfl,hB4⟩;have B4:=Lib.hid hB4;clear hB4)
  go_ret
  rw[HE.out]
  exact ⟨rfl,(HBI.out.1.below HFL.out.2 (Nat.le_of_lt hbb)).trans B4.out⟩
 | ok u=>
  rw[hR]at HADD
  have hu:=add_is hR
  have HR:=Lib.hid hR
  clear hR
  cases hst:staysB spx tn ts with
  | false=>
   have HE:Hid (z.begin ⟨tk,ta,tl,tn,tt,tal,ts⟩=.ok u):=Lib.hid (by rw[HBE.out,HR.out];simp[hst])
   go_wp2_with fail
   refine HADD.out.mono ?_
   rintro e w4 ⟨rfl,hB4,v4,v04,bF4,bl4,hI4,hf4,hN4⟩
   have hF4:u.F=(z.to k).F.app (.one 1 spx tn ⟨#[]⟩ tal .nil):=by rw[hu]
   have hrow:=hI4.tr.row
   rw[hF4]at hrow
   obtain ⟨g4,cap4,e4,hnd4⟩:=hrow.lastNd
   subst e4
   have hPl:(z.to k).F.len+1≤60:=by have h1:=hI4.fit.1;have h2:=hI4.fit.2.1;unfold cntZ at h1;rw[hF4,Fo.len_app]at h1;simp only[Fo.one,Fo.len]at h1;omega
   have HL:Hid (Calls Tryz.prog 174 #[.pointer (some ⟨bb,0,none⟩)] w4 fun e w'=>e=.returned (.pointer (some ⟨g4,(z.to k).F.len*6,none⟩))∧w4=w'):=Lib.hid (by
    have:=last_some bb u v04 pv1 ps1 bF4 bl4 g4 ((z.to k).F.len+1) cap4 w4 hI4 (by omega) (by omega)
    rw[Nat.add_sub_cancel]at this
    exact this)
   have HSO:=Lib.hid (staysOpen_any ⟨1,spx,tn,⟨#[]⟩,tal⟩ g4 ((z.to k).F.len*6) 0 w4.heap.size w4 ts hnd4)
   simp only at HSO
   rw[hst]at HSO
   have hgb:w4.heap[w.heap.size]?=w3.heap[w.heap.size]?:=hB4.block _ (World.block_lt_of_cell? w3 ⟨w.heap.size,3,none⟩ b3) (fun h=>by have:=HFL.out.1 _ (HBI.out.2.2.1 _ h);omega)
   have b6:w4.cell? ⟨w.heap.size,6,none⟩=some (.bool ts):=(World.cell?_of_block (w:=w3) (a:=⟨w.heap.size,6,none⟩) hgb).trans (HBI.out.2.2.2.1 6)
   have HW4:Hid (But (FpI bb v (.slice C ps.length d) bF bl) w w4):=Lib.hid (HBI.out.1.trans hB4 fun q hq=>Or.inl (HBI.out.2.2.1 q hq))
   have HF4:Hid (∀q,FpI bb (.slice (some ⟨g4,0,none⟩) ((z.to k).F.len+1) cap4) pv1 bF4 bl4 q→FpI bb v (.slice C ps.length d) bF bl q∨q ∈ ba∨w.heap.size≤q):=Lib.hid fun q hq=>by
    rcases hf4 q hq with h | h | h
    ·exact Or.inl (HBI.out.2.2.1 q h)
    ·exact Or.inr (Or.inl h)
    ·exact Or.inr (Or.inr (Nat.le_trans HBI.out.1.size h))
   have HI4:=Lib.hid (And.intro hI4 hN4)
   have hst2:=hst
   clear hst2
   clear hrow hnd4 hgb hB4 hI4 hf4 hN4 hF4 hst
   go_wp2_with fail
   refine HL.out.mono ?_
   rintro e w' ⟨rfl,rfl⟩
   go_wp2_with fail
   refine HSO.out.mono ?_
   rintro e w' ⟨rfl,rfl⟩
   go_wp2
   go_ret
   rw[HE.out]
   exact ⟨rfl,HW4.out,_,v04,pv1,ps1,bF4,bl4,HI4.out.1,HF4.out⟩
  | true=>
   have HE:Hid (z.begin ⟨tk,ta,tl,tn,tt,tal,ts⟩=.ok ⟨.nil,⟨spx,tn,tal,(z.to k).F⟩::(z.to k).up,(z.to k).c+1⟩):=Lib.hid (by rw[HBE.out,HR.out];simp[hst])
   go_wp2_with fail
   refine HADD.out.mono ?_
   rintro e w4 ⟨rfl,hB4,v4,v04,bF4,bl4,hI4,hf4,hN4⟩
   have hF4:u.F=(z.to k).F.app (.one 1 spx tn ⟨#[]⟩ tal .nil):=by rw[hu]
   have hrow:=hI4.tr.row
   rw[hF4]at hrow
   obtain ⟨g4,cap4,e4,hnd4⟩:=hrow.lastNd
   subst e4
   have hPl:(z.to k).F.len+1≤60:=by have h1:=hI4.fit.1;have h2:=hI4.fit.2.1;unfold cntZ at h1;rw[hF4,Fo.len_app]at h1;simp only[Fo.one,Fo.len]at h1;omega
   have HL:Hid (Calls Tryz.prog 174 #[.pointer (some ⟨bb,0,none⟩)] w4 fun e w'=>e=.returned (.pointer (some ⟨g4,(z.to k).F.len*6,none⟩))∧w4=w'):=Lib.hid (by
    have:=last_some bb u v04 pv1 ps1 bF4 bl4 g4 ((z.to k).F.len+1) cap4 w4 hI4 (by omega) (by omega)
    rw[Nat.add_sub_cancel]at this
    exact this)
   have HSO:=Lib.hid (staysOpen_any ⟨1,spx,tn,⟨#[]⟩,tal⟩ g4 ((z.to k).F.len*6) 0 w4.heap.size w4 ts hnd4)
   simp only at HSO
   rw[hst]at HSO
   have hgb:w4.heap[w.heap.size]?=w3.heap[w.heap.size]?:=hB4.block _ (World.block_lt_of_cell? w3 ⟨w.heap.size,3,none⟩ b3) (fun h=>by have:=HFL.out.1 _ (HBI.out.2.2.1 _ h);omega)
   have b6:w4.cell? ⟨w.heap.size,6,none⟩=some (.bool ts):=(World.cell?_of_block (w:=w3) (a:=⟨w.heap.size,6,none⟩) hgb).trans (HBI.out.2.2.2.1 6)
   have HW4:Hid (But (FpI bb v (.slice C ps.length d) bF bl) w w4):=Lib.hid (HBI.out.1.trans hB4 fun q hq=>Or.inl (HBI.out.2.2.1 q hq))
   have HF4:Hid (∀q,FpI bb (.slice (some ⟨g4,0,none⟩) ((z.to k).F.len+1) cap4) pv1 bF4 bl4 q→FpI bb v (.slice C ps.length d) bF bl q∨q ∈ ba∨w.heap.size≤q):=Lib.hid fun q hq=>by
    rcases hf4 q hq with h | h | h
    ·exact Or.inl (HBI.out.2.2.1 q h)
    ·exact Or.inr (Or.inl h)
    ·exact Or.inr (Or.inr (Nat.le_trans HBI.out.1.size h))
   have HI4:=Lib.hid (And.intro hI4 hN4)
   have hst2:=hst
   have HFF:=Lib.hid hF4
   have hop4:=hI4.op
   have hd4:∃C4 d4,pv1=.slice C4 ps1.length d4:=by
    rcases hop4.2 with ⟨e1,e2⟩ | ⟨g,cap,cur,e1,_⟩
    ·exact ⟨none,0,by rw[e1,e2]⟩
    ·exact ⟨_,_,e1⟩
   have hl4:ps1.length≤10:=by have:=hI4.len;have:=hI4.fit.2.2.1;omega
   have p1:w4.cell? ⟨bb,1,none⟩=some pv1:=hI4.lay.1 1
   have p2:w4.frozen? ⟨bb,1,none⟩=false:=hI4.lay.2 1
   have HOP:=Lib.hid (And.intro hop4 hd4)
   have hbb4:bb<w4.heap.size:=World.block_lt_of_cell? w4 ⟨bb,1,none⟩ p1
   obtain ⟨i0,hi0,hz0,hz1,hz2⟩:=info_of infoPtr
   have HZ:=Lib.hid (And.intro hz0 (And.intro hz1 hz2))
   clear hst2 hop4 hd4 hz0 hz1 hz2
   clear hrow hnd4 hgb hB4 hI4 hf4 hN4 hF4 hst
   go_wp2_with fail
   refine HL.out.mono ?_
   rintro e w' ⟨rfl,rfl⟩
   go_wp2_with fail
   refine HSO.out.mono ?_
   rintro e w' ⟨rfl,rfl⟩
   go_wp2_with (refine wpList_append_own_at _ rfl (.tmp 49) (.tmp 51) 84 rfl (bb+1) 126 i0 _ 1 8 Tryz.underlying84 hi0 HZ.out.1 HZ.out.2.1 HZ.out.2.2 rfl (by omega) pv1 ps1.length ps1 rfl (World.ownsRow.alloc HOP.out.1 _) ⟨w4.heap.size,0,none⟩ 1 1 [.pointer (some ⟨g4,(z.to k).F.len*6,none⟩)] rfl rfl (World.news_of_block (cs:=#[.pointer (some ⟨g4,(z.to k).F.len*6,none⟩)]) (t:=126) (fr:=(0,0)) (heap_alloc_new w4 _)) (by simp[Value.oneCell']) (by unfold maxLen;omega) (by omega) (by simp;omega) ?_)
   intro v5 w5 hown hgrow _ hat
   have hob:∀q,pv1.ownBlock=some q→bb+1≤q:=fun q hq=>(World.ownsRow.lt HOP.out.1 q hq).1
   have hbk:w5.heap[bb]?=w4.heap[bb]?:=(hgrow.block bb (by simp;omega) (fun e=>by have:=hob bb e.symm;omega)).trans (Below.heap_alloc w4 _ bb hbb4)
   have s1:=(World.cell?_of_block (w:=w4) (a:=⟨bb,1,none⟩) hbk).trans p1
   have s2:=(World.frozen?_of_block (w:=w4) (a:=⟨bb,1,none⟩) hbk).trans p2
   obtain ⟨ao5,n5,c5,rfl⟩:∃ao n c,v5=.slice ao n c:=by
    rcases hown.2 with ⟨h,_⟩ | ⟨_,_,_,h,_⟩
    ·exact ⟨_,_,_,h⟩
    ·exact ⟨_,_,_,h⟩
   have HG5:=Lib.hid (And.intro hown (And.intro hgrow hat))
   clear hown hgrow hat hob hbk p1 p2
   go_wp2
   go_ret
   rw[HE.out]
   have hfit5:(⟨.nil,⟨spx,tn,tal,(z.to k).F⟩::(z.to k).up,(z.to k).c+1⟩:Zi).fit:=Zi.fit_begin HH.out.fit HE.out
   have hk5:∀q,q<w4.heap.size→pv1.ownBlock≠some q→w5.heap[q]?=w4.heap[q]?:=fun q h1 h2=>(HG5.out.2.1.block q (by simp;omega) (fun e=>h2 e.symm)).trans (Below.heap_alloc w4 _ q h1)
   have hs5:w4.heap.size≤w5.heap.size:=Nat.le_trans (by simp) HG5.out.2.1.size
   have hat5:(Value.slice ao5 n5 c5).ownBlock=pv1.ownBlock∨∃q,(Value.slice ao5 n5 c5).ownBlock=some q∧w4.heap.size≤q:=HG5.out.2.2.imp id fun h=>⟨_,h,by simp⟩
   obtain ⟨bl5,r1,r2⟩:=HI4.out.1.opened HFF.out HI4.out.2 rfl hs5 hk5 HG5.out.1 hat5 ⟨.nil,⟨spx,tn,tal,(z.to k).F⟩::(z.to k).up,(z.to k).c+1⟩ (by rw[hu]) hfit5
   have hB5:But (FpI bb (.slice (some ⟨g4,0,none⟩) ((z.to k).F.len+1) cap4) pv1 bF4 bl4) w4 w5:=by
    have a1:Below w4.heap.size w4 (w4.alloc (.cells #[.pointer (some ⟨g4,(z.to k).F.len*6,none⟩)] 126)):=(Below.refl w4.heap.size w4).alloc (Nat.le_refl _) _
    exact ⟨HG5.out.2.1.os.trans a1.os,HG5.out.2.1.tape.trans a1.tape,HG5.out.2.1.output.trans a1.output,hs5,fun q h1 h2=>hk5 q h1 fun e=>h2 (Or.inr (Or.inl (mem_ownL.2 e)))⟩
   refine ⟨rfl,?_,_,_,_,_,_,bl5,r1,fun q hq=>?_⟩
   ·refine ⟨hB5.os.trans HW4.out.os,hB5.tape.trans HW4.out.tape,hB5.output.trans HW4.out.output,by rw[World.size_setCell];exact Nat.le_trans HW4.out.size hB5.size,fun q h1 h2=>?_⟩
    have hne:q≠bb:=by rintro rfl;exact h2 (Or.inl rfl)
    rw[Below.heap_setCell w5 ⟨bb,1,none⟩ _ q (by rintro rfl;exact hne rfl)]
    have h4:w4.heap[q]?=w.heap[q]?:=HW4.out.block q h1 h2
    by_cases hpq:FpI bb (.slice (some ⟨g4,0,none⟩) ((z.to k).F.len+1) cap4) pv1 bF4 bl4 q
    ·by_cases hpb:pv1.ownBlock=some q
     ·exact absurd (HBI.out.2.2.1 q (Or.inr (Or.inl (mem_ownL.2 hpb)))) h2
     ·rw[hk5 q (Nat.lt_of_lt_of_le h1 HW4.out.size) hpb,h4]
    ·rw[hB5.block q (Nat.lt_of_lt_of_le h1 HW4.out.size) hpq,h4]
   ·rcases r2 q hq with h | h
    ·exact HF4.out q h
    ·exact Or.inr (Or.inr (Nat.le_trans HW4.out.size h))
end Go.Proofs.YthdkkpbhijlpaaaGreatDoor
namespace Go.Proofs.YthdkkpbhijlpaaaGreatDoor
open Go.ChangeShapes Go.WideShapes Go.ChangeAt Go.RowKit Go.Deep
theorem scan_le {s:ByteArray}:∀(k i:Nat) (al:List (ByteArray × ByteArray)) (f:Bool),i≤s.size→i≤(scan s k i al f).1∧(scan s k i al f).1≤s.size:=by
 intro k
 induction k with
 | zero=>intro i al f h;exact ⟨Nat.le_refl _,h⟩
 | succ k ih=>
  intro i al f h
  rw[scan]
  split
  ·exact ⟨Nat.le_refl _,h⟩
  ·rename_i hn
   have hlt:i<s.size:=by
    rcases Nat.lt_or_ge i s.size with h1 | h1
    ·exact h1
    ·exact absurd (Or.inl (show byteAt s i = -1 from dif_neg (by omega))) hn
   split
   ·have:=ih (i+1) al (byteAt s i==47) hlt;exact ⟨by omega,this.2⟩
   ·have h1:=attr_le hlt
    have:=ih (attrOf s i).2.2 (keepA al (attrOf s i).1 (attrOf s i).2.1) false h1.2.1
    exact ⟨by omega,this.2⟩
theorem openOf_len {s:ByteArray} {a:Nat} (ha:a<s.size):1≤(openOf s a).l∧a+(openOf s a).l≤s.size:=by
 have hn:=runAt_le inName s (a+1) ha
 have h:=scan_le s.size (a+1+runAt inName s (a+1)) [] false hn
 unfold openOf
 dsimp only
 split
 ·exact ⟨by show 1≤s.size-a;omega,by show a+(s.size-a)≤s.size;omega⟩
 ·rename_i hlt
  split
  ·exact ⟨by show 1≤(scan s s.size (a+1+runAt inName s (a+1)) [] false).1+1-a;omega,by show a+((scan s s.size (a+1+runAt inName s (a+1)) [] false).1+1-a)≤s.size;omega⟩
  ·exact ⟨by show 1≤(scan s s.size (a+1+runAt inName s (a+1)) [] false).1+1-a;omega,by show a+((scan s s.size (a+1+runAt inName s (a+1)) [] false).1+1-a)≤s.size;omega⟩
theorem wordsTk_len {s:ByteArray} {a:Nat} (ha:a<s.size):1≤(wordsTk s a).l∧a+(wordsTk s a).l≤s.size:=by
 have:=runAt_le inWord s (a+1) ha
 exact ⟨by show 1≤1+_;omega,by show a+(1+_)≤_;omega⟩
theorem commentTk_len {s what:ByteArray} {a i:Nat} (hi:a<i) (hs:i≤s.size):1≤(commentTk s what a i).l∧a+(commentTk s what a i).l≤s.size:=by
 have h:=find_le s what i hs
 show 1≤commentLen s what a i∧a+commentLen s what a i≤s.size
 unfold commentLen
 split
 ·rename_i hk;have:=h.2.2 hk;omega
 ·omega
theorem closeTk_len {s:ByteArray} {a:Nat} (ha:a+2≤s.size):1≤(closeTk s a).l∧a+(closeTk s a).l≤s.size:=by
 have hn:=runAt_le inName s (a+2) ha
 have h:=find_le s gtS (a+2+runAt inName s (a+2)) hn
 have hz:gtS.size=1:=rfl
 unfold closeTk
 dsimp only
 split
 ·rename_i hk
  have:=h.2.2 hk
  split
  ·exact ⟨by show 1≤(findTo s gtS (a+2+runAt inName s (a+2))).1+1-a;omega,by show a+((findTo s gtS (a+2+runAt inName s (a+2))).1+1-a)≤s.size;omega⟩
  ·exact ⟨by show 1≤(findTo s gtS (a+2+runAt inName s (a+2))).1+1-a;omega,by show a+((findTo s gtS (a+2+runAt inName s (a+2))).1+1-a)≤s.size;omega⟩
 ·exact ⟨by show 1≤s.size-a;omega,by show a+(s.size-a)≤s.size;omega⟩
theorem nextOf_len {s raw:ByteArray} {a:Nat} (ha:a<s.size):1≤(nextOf s a raw).l∧a+(nextOf s a raw).l≤s.size:=by
 have hre:=rawEnd_le s raw a (Nat.le_of_lt ha)
 unfold nextOf
 split
 ·exact ⟨by show 1≤rawEnd s raw a-a;omega,by show a+(rawEnd s raw a-a)≤s.size;omega⟩
 ·unfold markTk
  split
  ·exact wordsTk_len ha
  ·rename_i h1
   have h2:a+1<s.size:=by omega
   split
   ·exact openOf_len ha
   ·split
    ·exact closeTk_len h2
    ·split
     ·rename_i h;exact commentTk_len (by omega) h.1
     ·split
      ·exact commentTk_len (by omega) h2
      ·exact wordsTk_len ha
theorem nextOf_name {s raw:ByteArray} {a:Nat}:(nextOf s a raw).n.size≤s.size:=by
 have h0:(⟨#[]⟩:ByteArray).size≤s.size:=Nat.zero_le _
 unfold nextOf markTk
 repeat' split
 all_goals first
  | exact h0
  | (unfold openOf;dsimp only;repeat' split
     all_goals first | exact h0 | exact nameOf_size _ _)
  | (unfold closeTk;dsimp only;repeat' split
     all_goals first | exact h0 | exact nameOf_size _ _)
theorem unF_fuel:∀(f:Nat) (l:List UInt8),(unF f l).length≤f
 | 0,_=>Nat.le_refl _
 | f+1,[]=>Nat.zero_le _
 | f+1,c::r=>by
  rw[unF]
  split
  ·split
   ·have:=unF_fuel f ((c::r).drop ‹_›);simp only[List.length_cons];omega
   ·have:=unF_fuel f r;simp only[List.length_cons];omega
  ·have:=unF_fuel f r;simp only[List.length_cons];omega
theorem wordOf_size (s:ByteArray) (a:Nat):(wordOf s a).size≤s.size:=by
 unfold wordOf un
 have h:=unF_fuel (s.extract a (a+1+runAt inWord s (a+1))).data.toList.length (s.extract a (a+1+runAt inWord s (a+1))).data.toList
 have h2:(s.extract a (a+1+runAt inWord s (a+1))).data.toList.length=(s.extract a (a+1+runAt inWord s (a+1))).size:=Array.length_toList
 have h3:(s.extract a (a+1+runAt inWord s (a+1))).size≤s.size:=by rw[ByteArray.size_extract];omega
 show (List.toArray _).size≤_
 rw[List.size_toArray]
 omega
theorem nextOf_text {s raw:ByteArray} {a:Nat}:(nextOf s a raw).t.size≤s.size:=by
 have h0:(⟨#[]⟩:ByteArray).size≤s.size:=Nat.zero_le _
 have hx:∀i j,(s.extract i j).size≤s.size:=fun i j=>by rw[ByteArray.size_extract];omega
 have ho:(openOf s a).t.size≤s.size:=by
  have:(openOf s a).t=⟨#[]⟩:=by
   unfold openOf
   dsimp only
   repeat' split
   all_goals rfl
  rw[this];exact h0
 have hc:(closeTk s a).t.size≤s.size:=by
  have:(closeTk s a).t=⟨#[]⟩:=by
   unfold closeTk
   dsimp only
   split
   ·split <;> rfl
   ·rfl
  rw[this];exact h0
 unfold nextOf
 split
 ·exact hx _ _
 ·unfold markTk
  split
  ·exact wordOf_size s a
  ·split
   ·exact ho
   ·split
    ·exact hc
    ·split
     ·exact hx _ _
     ·split
      ·exact hx _ _
      ·exact wordOf_size s a
end Go.Proofs.YthdkkpbhijlpaaaGreatDoor
namespace Go.Proofs.YthdkkpbhijlpaaaGreatDoor
open Go.ChangeShapes Go.WideShapes Go.ChangeAt Go.RowKit Go.Deep
theorem OutI.from {bb:Nat} {fp:Nat→Prop} {ex:List Nat} {r:Rs} {w w0:World} {e:Ending} {w':World} (hB:Below w.heap.size w w0) (hbb:bb≤w.heap.size) (h:OutI bb fp ex r w0 e w'):OutI bb fp ex r w e w':=by
 cases r with
 | bad c=>exact ⟨h.1,(hB.mono hbb).trans h.2⟩
 | ok y=>
  obtain ⟨h1,h2,v,v0,pv,ps,bF,bl,h3,h4⟩:=h
  refine ⟨h1,(But.of_below hB).trans h2 (fun q hq=>Or.inl hq),v,v0,pv,ps,bF,bl,h3,fun k hk=>?_⟩
  rcases h4 k hk with h | h | h
  ·exact Or.inl h
  ·exact Or.inr (Or.inl h)
  ·exact Or.inr (Or.inr (Nat.le_trans hB.size h))
theorem OutI.ex {bb:Nat} {fp:Nat→Prop} {ex:List Nat} {r:Rs} {w:World} {e:Ending} {w':World} (h:OutI bb fp [] r w e w'):OutI bb fp ex r w e w':=by
 cases r with
 | bad c=>exact h
 | ok y=>
  obtain ⟨h1,h2,v,v0,pv,ps,bF,bl,h3,h4⟩:=h
  refine ⟨h1,h2,v,v0,pv,ps,bF,bl,h3,fun k hk=>?_⟩
  rcases h4 k hk with h | h | h
  ·exact Or.inl h
  ·simp at h
  ·exact Or.inr (Or.inr h)
set_option maxHeartbeats 2000000 in
set_option maxRecDepth 100000 in
theorem takeB_any (bb:Nat) (z:Zi) (v v0 pv:Value) (ps:List Value) (bF bl:List Nat) (T:Tk) (TA:Option Addr) (tc:Nat) (ba:List Nat) (w:World) (hTn:T.n.size≤maxLen) (hTt:T.t.size≤65536)
 (ha:T.al.length≤tc∧T.al.length≤maxLen∧AlRow w TA T.al ba) (hba:ba.Nodup) (hbl:∀q ∈ ba,bb<q∧q<w.heap.size∧¬FpI bb v pv bF bl q) (h:BI w bb z v v0 pv ps bF bl):
 Calls Tryz.prog 60 #[.pointer (some ⟨bb,0,none⟩),T.val TA tc] w (OutI bb (FpI bb v pv bF bl) ba (z.take T) w):=by
 obtain ⟨tk,ta,tl,tn,tt,tal,ts⟩:=T
 simp only at hTn hTt ha
 have hbb:=(h.lt bb (Or.inl rfl)).2
 have B0:=Lib.hid ((Below.refl w.heap.size w).alloc (Nat.le_refl _) (.cells #[.int .i64 tk,.int .i64 (ta:Int),.int .i64 (tl:Int),.string tn,.string tt,.slice TA tal.length tc,.bool ts] 88))
 have H0:=Lib.hid (h.next B0.out)
 have HX:=Lib.hid (And.intro ha (And.intro hba hbl))
 have HT:=Lib.hid (And.intro hTn hTt)
 have HFR:Hid (∀{ex:List Nat} {r:Rs} {e:Ending} {w':World},OutI bb (FpI bb v pv bF bl) ex r (w.alloc (.cells #[.int .i64 tk,.int .i64 (ta:Int),.int .i64 (tl:Int),.string tn,.string tt,.slice TA tal.length tc,.bool ts] 88)) e w'→OutI bb (FpI bb v pv bF bl) ex r w e w'):=Lib.hid fun hh=>hh.from B0.out (Nat.le_of_lt hbb)
 clear h ha hba hbl hTn hTt
 unfold Tk.val
 dsimp only
 by_cases k1:tk=1
 ·subst k1
  have HE:Hid (z.take ⟨1,ta,tl,tn,tt,tal,ts⟩=z.words tt):=Lib.hid rfl
  have HC:=Lib.hid (addWords_any bb z v v0 pv ps bF bl tt _ HT.out.2 H0.out)
  go_enter Tryz.func60,Tryz.ntmps60
  go_wp2_with (go_at_call 110;refine HC.out.mono ?_;intro e w1 hO;obtain ⟨c,rfl,hO2⟩:=hO.ret;clear hO)
  go_ret
  rw[HE.out]
  exact HFR.out (OutI.ex hO2.out)
 ·have k1':(tk==1)=false:=by simpa using k1
  by_cases k4:tk=4
  ·subst k4
   have HE:Hid (z.take ⟨4,ta,tl,tn,tt,tal,ts⟩=z.add 3 0 ⟨#[]⟩ tt []):=Lib.hid rfl
   have HC:=Lib.hid (add_plain bb z v v0 pv ps bF bl 3 tt _ (by have:=HT.out.2;unfold maxLen;omega) H0.out)
   clear k1
   go_enter Tryz.func60,Tryz.ntmps60
   go_wp2_with (go_at_call 111;refine HC.out.mono ?_;intro e w1 hO;obtain ⟨c,rfl,hO2⟩:=hO.ret;clear hO)
   go_ret
   rw[HE.out]
   exact HFR.out (OutI.ex hO2.out)
  ·have k4':(tk==4)=false:=by simpa using k4
   by_cases k2:tk=2
   ·subst k2
    have HE:Hid (z.take ⟨2,ta,tl,tn,tt,tal,ts⟩=z.begin ⟨2,ta,tl,tn,tt,tal,ts⟩):=Lib.hid rfl
    have HC:=Lib.hid (begin_any bb z v v0 pv ps bF bl ⟨2,ta,tl,tn,tt,tal,ts⟩ TA tc ba _ HT.out.1 ⟨HX.out.1.1,HX.out.1.2.1,HX.out.1.2.2.same fun q hq=>B0.out.block q (HX.out.2.2 q hq).2.1⟩ HX.out.2.1 (fun q hq=>⟨(HX.out.2.2 q hq).1,Nat.lt_of_lt_of_le (HX.out.2.2 q hq).2.1 B0.out.size,(HX.out.2.2 q hq).2.2⟩) H0.out)
    unfold Tk.val at HC
    dsimp only at HC
    clear k1 k4
    go_enter Tryz.func60,Tryz.ntmps60
    go_wp2_with (go_at_call 112;refine HC.out.mono ?_;intro e w1 hO;obtain ⟨c,rfl,hO2⟩:=hO.ret;clear hO)
    go_ret
    rw[HE.out]
    exact HFR.out hO2.out
   ·have k2':(tk==2)=false:=by simpa using k2
    by_cases k3:tk=3
    ·subst k3
     have HE:Hid (z.take ⟨3,ta,tl,tn,tt,tal,ts⟩=.ok (z.close tn)):=Lib.hid rfl
     have HC:=Lib.hid (end_any bb z v v0 pv ps bF bl tn _ H0.out)
     clear k1 k4 k2
     go_enter Tryz.func60,Tryz.ntmps60
     go_wp2_with (go_at_call 113;refine HC.out.mono ?_;rintro e w1 ⟨rfl,hO⟩;have HO:=Lib.hid hO;clear hO)
     go_ret
     rw[HE.out]
     obtain ⟨h1,v',v0',pv',ps',bF',bl',h3,h4⟩:=HO.out
     exact HFR.out ⟨rfl,h1,v',v0',pv',ps',bF',bl',h3,fun q hq=>(h4 q hq).imp id Or.inr⟩
    ·have k3':(tk==3)=false:=by simpa using k3
     have HE:Hid (z.take ⟨tk,ta,tl,tn,tt,tal,ts⟩=.ok z):=Lib.hid (by simp[Zi.take,k1,k4,k2,k3])
     clear k1 k4 k2 k3
     go_enter Tryz.func60,Tryz.ntmps60
     go_wp2
     go_ret
     rw[HE.out]
     exact HFR.out ⟨rfl,But.refl _ _,v,v0,pv,ps,bF,bl,H0.out,fun q hq=>Or.inl hq⟩
end Go.Proofs.YthdkkpbhijlpaaaGreatDoor
