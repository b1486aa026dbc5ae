import Derived.Test.YthdkkpbhijlpaaaGreatDoorQ31
import Derived.Test.YthdkkpbhijlpaaaGreatDoorQ23
set_option linter.unusedVariables false
namespace Go.Proofs.YthdkkpbhijlpaaaGreatDoor
open Go.ChangeShapes Go.WideShapes Go.ChangeAt Go.RowKit Go.Deep
theorem NodS.names {w:World} {B:Nat}:∀{up:List Fr} {F:Fo} {nvs:List Value} {bl:List Nat},NodS w B up F nvs bl→∀x ∈ up,x.n.size≤maxLen
 | [],_,_,_,_,x,hx=>by cases hx
 | y::up,F,nvs,bl,⟨v,bF,A,ca,ba,nvs',bl',h1,h2,h3,h4,h5,h6⟩,x,hx=>by
  rcases List.mem_cons.1 hx with rfl | hx
  ·exact h3.1
  ·exact NodS.names h5 x hx
theorem BS.os {w:World} {B bb:Nat} {z:Zi} {sv nv:Value} {nvs:List Value} {bl:List Nat} (h:BS w B bb z sv nv nvs bl):∃A c b,sv=.slice A (opensOf z.up).length c∧OsIn w A b 0 (opensOf z.up):=by
 have hr:ORow w B sv (opensOf z.up):=by
  have:=h.srow
  unfold ORow
  rw[opensOf_len]
  exact this
 have hn:∀x ∈ opensOf z.up,x.1.size≤maxLen:=fun x hx=>by
  unfold opensOf at hx
  rw[List.mem_reverse,List.mem_map]at hx
  obtain ⟨y,hy,rfl⟩:=hx
  exact h.nod.names y hy
 obtain ⟨A,c,b,h1,h2⟩:=hr.stk hn (by rw[opensOf_len];have:=h.fit.2.2.1;omega)
 exact ⟨A,c,b,h1,h2.2.2.1⟩
def PopC (B bb:Nat):Prop:=∀(k:Nat) (z:Zi) (sv nv:Value) (nvs:List Value) (bl:List Nat) (w:World),BS w B bb z sv nv nvs bl→k≤z.up.length →
 Calls Tryz.prog 73 #[.pointer (some ⟨bb,0,none⟩),.int .i64 (k:Int)] w fun e w'=>e=.returned (.tuple #[])∧BSOut B bb (FpS bb sv nv bl) w (z.to k) w'
end Go.Proofs.YthdkkpbhijlpaaaGreatDoor
namespace Go.Proofs.YthdkkpbhijlpaaaGreatDoor
open Go.ChangeShapes Go.WideShapes Go.ChangeAt Go.RowKit Go.Deep
set_option maxHeartbeats 4000000 in
set_option maxRecDepth 100000 in
theorem open_deep (B bb:Nat) (hP:PopC B bb) (z:Zi) (sv nv:Value) (nvs:List Value) (bl:List Nat) (tk:Int) (ta tl:Nat) (tn tt:ByteArray) (tal:List (ByteArray × ByteArray)) (ts:Bool) (TA:Option Addr) (tc:Nat) (w:World) (h:BS w B bb z sv nv nvs bl)
 (hd:10≤leftOf (opensOf z.up) tn):
 Calls Tryz.prog 75 #[.pointer (some ⟨bb,0,none⟩),.agg #[.int .i64 tk,.int .i64 (ta:Int),.int .i64 (tl:Int),.string tn,.string tt,.slice TA tal.length tc,.bool ts]] w
  fun e w'=>e=.returned (.tuple #[])∧w'.cell? ⟨bb,3,none⟩=some (.int .i64 11)∧Below B w w':=by
 have hbb:=(h.lt bb (Or.inl rfl)).2
 have hB:=h.le
 have hm10:=h.fit.2.2.1
 have hle:leftOf (opensOf z.up) tn≤z.up.length:=by have:=leftOf_le (opensOf z.up) tn;rw[opensOf_len]at this;exact this
 have p0:w.cell? ⟨bb,0,none⟩=some sv:=h.lay.1 0
 obtain ⟨A,c,b,hsv,hos⟩:=h.os
 rw[hsv,opensOf_len]at p0
 generalize hK:leftOf (opensOf z.up) tn=K at hd hle
 have A1:=Lib.hid ((Below.refl w.heap.size w).alloc (Nat.le_refl _) (.cells #[.int .i64 tk,.int .i64 (ta:Int),.int .i64 (tl:Int),.string tn,.string tt,.slice TA tal.length tc,.bool ts] 88))
 have L1:=Lib.hid (Lay.new w #[.int .i64 tk,.int .i64 (ta:Int),.int .i64 (tl:Int),.string tn,.string tt,.slice TA tal.length tc,.bool ts] 88)
 have HS:=Lib.hid h
 have HOS:=Lib.hid hos
 have HK:=Lib.hid hK
 have HPC:=Lib.hid hP
 have HI:Hid (∀W,Below w.heap.size w W→Calls Tryz.prog 129 #[.slice A z.up.length c,.string tn] W fun e w'=>e=.returned (.int .i64 ((z.up.length:Int)-(K:Nat)))∧Below w.heap.size w w'∧Below W.heap.size W w'):=Lib.hid fun W hW=>by
  have:=l05Implied_any (opensOf z.up) tn W A c b 0 (HOS.out.next hW)
  rw[opensOf_len,HK.out]at this
  exact this.mono fun e w' ⟨h1,h2⟩=>⟨h1,hW.trans (h2.mono hW.size),h2⟩
 have hw1:IntKind.i64.wrap (((z.up.length:Nat):Int)-(((z.up.length:Nat):Int)-((K:Nat):Int)))=(K:Int):=by rw[show ((z.up.length:Nat):Int)-(((z.up.length:Nat):Int)-((K:Nat):Int))=(K:Int) by omega];exact IntWalk.i64_in _ (by omega)
 clear h hos hsv hK hP
 go_enter Tryz.func75,Tryz.ntmps75
 go_wp2_with fail
 have q0:=(A1.out.drew.cell (p:=⟨bb,0,none⟩) hbb).trans p0
 have q3:(w.alloc (.cells #[.int .i64 tk,.int .i64 (ta:Int),.int .i64 (tl:Int),.string tn,.string tt,.slice TA tal.length tc,.bool ts] 88)).drew.cell? ⟨w.heap.size,3,none⟩=some (.string tn):=L1.out.1 3
 go_region_held3 (fun w'=>w'.cell? ⟨bb,0,none⟩=some (.slice A z.up.length c)∧w'.cell? ⟨w.heap.size,3,none⟩=some (.string tn)) (first | exact And.intro q0 q3 | exact And.intro y0 y3 | go_keep) (first | (go_at_call 129;refine (HI.out _ A1.out.drew).mono ?_;rintro e w1 ⟨rfl,hB1,hB2⟩;have y3:=(hB2.cell (p:=⟨w.heap.size,3,none⟩) (by simp)).trans q3;have HL1:=Lib.hid (lay_same L1.out (hB2.block w.heap.size (by simp)));clear hB2;have y0:=(hB1.cell (p:=⟨bb,0,none⟩) hbb).trans p0;have HB1:=Lib.hid hB1;clear hB1))
 have hno:¬FpS bb sv nv bl w.heap.size:=fun hf=>absurd (HS.out.lt _ hf).2 (Nat.lt_irrefl _)
 have hxw:w.heap.size<w1.heap.size:=World.block_lt_of_cell? w1 ⟨w.heap.size,3,none⟩ y3
 have HNO:=Lib.hid (And.intro hno hxw)
 clear hno hxw q0 q3
 go_wp2_with (go_at_call 73;refine (HPC.out K z sv nv nvs bl _ (HS.out.next HB1.out) hle).mono ?_;rintro e w2 ⟨rfl,hO⟩;have HO:=Lib.hid hO;clear hO;have y3:=(HO.out.1.cell (p:=⟨w.heap.size,3,none⟩) HNO.out.2 HNO.out.1).trans y3)
 obtain ⟨hB2,sv2,nv2,nvs2,bl2,hS2,hq2⟩:=HO.out
 have hyl:=Zi.to_len z K hle
 generalize z.to K=y at HO hS2 hyl
 obtain ⟨A2,c2,b2,hsv2,hos2⟩:=hS2.os
 obtain ⟨gn,cap,_,_,_,hnv2,_⟩:=hS2.kids
 have r0:w2.cell? ⟨bb,0,none⟩=some sv2:=hS2.lay.1 0
 have r1:w2.cell? ⟨bb,1,none⟩=some nv2:=hS2.lay.1 1
 have f3:w2.frozen? ⟨bb,3,none⟩=false:=hS2.lay.2 3
 have r3:w2.cell? ⟨bb,3,none⟩=some (.int .i64 0):=hS2.lay.1 3
 rw[hsv2,opensOf_len,hyl]at r0
 rw[hnv2,hyl]at r1
 have HSP:Hid (∀W,(w2.drew=W∨w2=W)→Calls Tryz.prog 130 #[.slice A2 K c2,.string tn] W fun e w'=>e=.returned (.int .i64 (spcOf (opensOf y.up) tn))∧W=w'):=Lib.hid fun W hW=>by
  have h2:Below w2.heap.size w2 W:=by
   rcases hW with rfl | rfl
   ·exact (Below.refl _ _).drew
   ·exact Below.refl _ _
  have:=l05Space_any (opensOf y.up) tn W A2 c2 b2 0 (hos2.next h2)
  rw[opensOf_len,hyl]at this
  exact this
 have HB2:=Lib.hid (And.intro hB2 hS2)
 clear hB2 hS2 hq2 hsv2 hos2 hnv2 y0 HO
 have hd':((K:Nat):Int)+1>10:=by omega
 go_region_held3 (fun w'=>w'.cell? ⟨bb,0,none⟩=some (.slice A2 K c2)∧w'.cell? ⟨w.heap.size,3,none⟩=some (.string tn)) (first | exact And.intro r0 y3 | go_keep) (first | (go_at_call 130;refine (HSP.out _ (Or.inl rfl)).mono ?_;rintro e w3 ⟨rfl,rfl⟩))
 go_wp2
 refine bodyPost_ret (results_none rfl _ _ _) rfl ?_
 have hB0:Below B w w2:=(HB1.out.mono (by have:=(HS.out.lt bb (Or.inl rfl)).2;omega)).trans (HB2.out.1.below (fun q hq=>(HS.out.lt q hq).1) (by have:=HNO.out.2;omega))
 exact ⟨rfl,World.cell?_setCell_same _ _ _ r3,(hB0.setCell (p:=⟨bb,3,none⟩) hB _).drew⟩
end Go.Proofs.YthdkkpbhijlpaaaGreatDoor
namespace Go.Proofs.YthdkkpbhijlpaaaGreatDoor
open Go.ChangeShapes Go.WideShapes Go.ChangeAt Go.RowKit Go.Deep
set_option maxHeartbeats 4000000 in
set_option maxRecDepth 100000 in
theorem open_many (B bb:Nat) (hP:PopC B bb) (z:Zi) (sv nv:Value) (nvs:List Value) (bl:List Nat) (tk:Int) (ta tl:Nat) (tn tt:ByteArray) (tal:List (ByteArray × ByteArray)) (ts:Bool) (TA:Option Addr) (tc:Nat) (w:World) (h:BS w B bb z sv nv nvs bl)
 (hd:¬10≤leftOf (opensOf z.up) tn) (hc:60≤z.c):
 Calls Tryz.prog 75 #[.pointer (some ⟨bb,0,none⟩),.agg #[.int .i64 tk,.int .i64 (ta:Int),.int .i64 (tl:Int),.string tn,.string tt,.slice TA tal.length tc,.bool ts]] w
  fun e w'=>e=.returned (.tuple #[])∧w'.cell? ⟨bb,3,none⟩=some (.int .i64 6)∧Below B w w':=by
 have hbb:=(h.lt bb (Or.inl rfl)).2
 have hB:=h.le
 have hm10:=h.fit.2.2.1
 have hle:leftOf (opensOf z.up) tn≤z.up.length:=by have:=leftOf_le (opensOf z.up) tn;rw[opensOf_len]at this;exact this
 have p0:w.cell? ⟨bb,0,none⟩=some sv:=h.lay.1 0
 obtain ⟨A,c,b,hsv,hos⟩:=h.os
 rw[hsv,opensOf_len]at p0
 generalize hK:leftOf (opensOf z.up) tn=K at hd hle
 have A1:=Lib.hid ((Below.refl w.heap.size w).alloc (Nat.le_refl _) (.cells #[.int .i64 tk,.int .i64 (ta:Int),.int .i64 (tl:Int),.string tn,.string tt,.slice TA tal.length tc,.bool ts] 88))
 have L1:=Lib.hid (Lay.new w #[.int .i64 tk,.int .i64 (ta:Int),.int .i64 (tl:Int),.string tn,.string tt,.slice TA tal.length tc,.bool ts] 88)
 have HS:=Lib.hid h
 have HOS:=Lib.hid hos
 have HK:=Lib.hid hK
 have HPC:=Lib.hid hP
 have HI:Hid (∀W,Below w.heap.size w W→Calls Tryz.prog 129 #[.slice A z.up.length c,.string tn] W fun e w'=>e=.returned (.int .i64 ((z.up.length:Int)-(K:Nat)))∧Below w.heap.size w w'∧Below W.heap.size W w'):=Lib.hid fun W hW=>by
  have:=l05Implied_any (opensOf z.up) tn W A c b 0 (HOS.out.next hW)
  rw[opensOf_len,HK.out]at this
  exact this.mono fun e w' ⟨h1,h2⟩=>⟨h1,hW.trans (h2.mono hW.size),h2⟩
 have hw1:IntKind.i64.wrap (((z.up.length:Nat):Int)-(((z.up.length:Nat):Int)-((K:Nat):Int)))=(K:Int):=by rw[show ((z.up.length:Nat):Int)-(((z.up.length:Nat):Int)-((K:Nat):Int))=(K:Int) by omega];exact IntWalk.i64_in _ (by omega)
 clear h hos hsv hK hP
 go_enter Tryz.func75,Tryz.ntmps75
 go_wp2_with fail
 have q0:=(A1.out.drew.cell (p:=⟨bb,0,none⟩) hbb).trans p0
 have q3:(w.alloc (.cells #[.int .i64 tk,.int .i64 (ta:Int),.int .i64 (tl:Int),.string tn,.string tt,.slice TA tal.length tc,.bool ts] 88)).drew.cell? ⟨w.heap.size,3,none⟩=some (.string tn):=L1.out.1 3
 go_region_held3 (fun w'=>w'.cell? ⟨bb,0,none⟩=some (.slice A z.up.length c)∧w'.cell? ⟨w.heap.size,3,none⟩=some (.string tn)) (first | exact And.intro q0 q3 | exact And.intro y0 y3 | go_keep) (first | (go_at_call 129;refine (HI.out _ A1.out.drew).mono ?_;rintro e w1 ⟨rfl,hB1,hB2⟩;have y3:=(hB2.cell (p:=⟨w.heap.size,3,none⟩) (by simp)).trans q3;have HL1:=Lib.hid (lay_same L1.out (hB2.block w.heap.size (by simp)));clear hB2;have y0:=(hB1.cell (p:=⟨bb,0,none⟩) hbb).trans p0;have HB1:=Lib.hid hB1;clear hB1))
 have hno:¬FpS bb sv nv bl w.heap.size:=fun hf=>absurd (HS.out.lt _ hf).2 (Nat.lt_irrefl _)
 have hxw:w.heap.size<w1.heap.size:=World.block_lt_of_cell? w1 ⟨w.heap.size,3,none⟩ y3
 have HNO:=Lib.hid (And.intro hno hxw)
 clear hno hxw q0 q3
 go_wp2_with (go_at_call 73;refine (HPC.out K z sv nv nvs bl _ (HS.out.next HB1.out) hle).mono ?_;rintro e w2 ⟨rfl,hO⟩;have HO:=Lib.hid hO;clear hO;have y3:=(HO.out.1.cell (p:=⟨w.heap.size,3,none⟩) HNO.out.2 HNO.out.1).trans y3)
 obtain ⟨hB2,sv2,nv2,nvs2,bl2,hS2,hq2⟩:=HO.out
 have hyl:=Zi.to_len z K hle
 have hyc:(z.to K).c=z.c:=Zi.pops_c _ _
 generalize z.to K=y at HO hS2 hyl hyc
 obtain ⟨A2,c2,b2,hsv2,hos2⟩:=hS2.os
 obtain ⟨gn,cap,_,_,_,hnv2,_⟩:=hS2.kids
 have r0:w2.cell? ⟨bb,0,none⟩=some sv2:=hS2.lay.1 0
 have r1:w2.cell? ⟨bb,1,none⟩=some nv2:=hS2.lay.1 1
 have f3:w2.frozen? ⟨bb,3,none⟩=false:=hS2.lay.2 3
 have r3:w2.cell? ⟨bb,3,none⟩=some (.int .i64 0):=hS2.lay.1 3
 rw[hsv2,opensOf_len,hyl]at r0
 rw[hnv2,hyl]at r1
 have HMO:=Lib.hid (more_bad B bb y.c w2.drew (hS2.lay.1 2) (hS2.lay.2 2) r3 f3 (by omega) hS2.fit.2.1 hB)
 have HSP:Hid (∀W,(w2.drew=W∨w2=W)→Calls Tryz.prog 130 #[.slice A2 K c2,.string tn] W fun e w'=>e=.returned (.int .i64 (spcOf (opensOf y.up) tn))∧W=w'):=Lib.hid fun W hW=>by
  have h2:Below w2.heap.size w2 W:=by
   rcases hW with rfl | rfl
   ·exact (Below.refl _ _).drew
   ·exact Below.refl _ _
  have:=l05Space_any (opensOf y.up) tn W A2 c2 b2 0 (hos2.next h2)
  rw[opensOf_len,hyl]at this
  exact this
 have HB2:=Lib.hid (And.intro hB2 hS2)
 clear hB2 hS2 hq2 hsv2 hos2 hnv2 y0 HO
 have hd':¬((K:Nat):Int)+1>10:=by omega
 go_region_held3 (fun w'=>w'.cell? ⟨bb,0,none⟩=some (.slice A2 K c2)∧w'.cell? ⟨w.heap.size,3,none⟩=some (.string tn)) (first | exact And.intro r0 y3 | go_keep) (first | (go_at_call 130;refine (HSP.out _ (Or.inl rfl)).mono ?_;rintro e w3 ⟨rfl,rfl⟩))
 go_wp2_with (go_at_call 127;refine HMO.out.mono ?_;rintro e w4 ⟨rfl,hw1,hw2⟩;have HW4:=Lib.hid hw2;clear hw2)
 refine bodyPost_ret (results_none rfl _ _ _) rfl ?_
 have hB0:Below B w w2:=(HB1.out.mono (by have:=(HS.out.lt bb (Or.inl rfl)).2;omega)).trans (HB2.out.1.below (fun q hq=>(HS.out.lt q hq).1) (by have:=HNO.out.2;omega))
 exact ⟨rfl,hw1,hB0.drew.trans HW4.out⟩
end Go.Proofs.YthdkkpbhijlpaaaGreatDoor
namespace Go.Proofs.YthdkkpbhijlpaaaGreatDoor
open Go.ChangeShapes Go.WideShapes Go.ChangeAt Go.RowKit Go.Deep
set_option maxHeartbeats 4000000 in
set_option maxRecDepth 100000 in
theorem open_ends (B bb:Nat) (hP:PopC B bb) (z:Zi) (sv nv:Value) (nvs:List Value) (bl:List Nat) (tk:Int) (ta tl:Nat) (tn tt:ByteArray) (tal:List (ByteArray × ByteArray)) (ts:Bool) (TA:Option Addr) (tc:Nat) (w:World) (h:BS w B bb z sv nv nvs bl)
 (hd:¬10≤leftOf (opensOf z.up) tn) (hc:¬60≤z.c) (ba:List Nat) (hn:tn.size≤maxLen) (ha:tal.length≤tc∧tal.length≤maxLen∧AlRow w TA tal ba) (hba:ba.Nodup) (hbl:∀q ∈ ba,B≤q∧q<w.heap.size∧¬FpS bb sv nv bl q) (y:Zi) (hy:z.to (leftOf (opensOf z.up) tn)=y) (sp:Int) (hsp:spcOf (opensOf y.up) tn=sp) (hst:staysB sp tn ts=false):
 Calls Tryz.prog 75 #[.pointer (some ⟨bb,0,none⟩),.agg #[.int .i64 tk,.int .i64 (ta:Int),.int .i64 (tl:Int),.string tn,.string tt,.slice TA tal.length tc,.bool ts]] w
  (OutS B bb (FpS bb sv nv bl) ba (.ok ⟨y.F.app (.one 1 sp tn ⟨#[]⟩ tal .nil),y.up,y.c+1⟩) w):=by
 have hbb:=(h.lt bb (Or.inl rfl)).2
 have hB:=h.le
 have hm10:=h.fit.2.2.1
 have hle:leftOf (opensOf z.up) tn≤z.up.length:=by have:=leftOf_le (opensOf z.up) tn;rw[opensOf_len]at this;exact this
 have p0:w.cell? ⟨bb,0,none⟩=some sv:=h.lay.1 0
 obtain ⟨A,c,b,hsv,hos⟩:=h.os
 rw[hsv,opensOf_len]at p0
 generalize hK:leftOf (opensOf z.up) tn=K at hd hle hy
 have A1:=Lib.hid ((Below.refl w.heap.size w).alloc (Nat.le_refl _) (.cells #[.int .i64 tk,.int .i64 (ta:Int),.int .i64 (tl:Int),.string tn,.string tt,.slice TA tal.length tc,.bool ts] 88))
 have L1:=Lib.hid (Lay.new w #[.int .i64 tk,.int .i64 (ta:Int),.int .i64 (tl:Int),.string tn,.string tt,.slice TA tal.length tc,.bool ts] 88)
 have HS:=Lib.hid h
 have HOS:=Lib.hid hos
 have HK:=Lib.hid hK
 have HPC:=Lib.hid hP
 have HI:Hid (∀W,Below w.heap.size w W→Calls Tryz.prog 129 #[.slice A z.up.length c,.string tn] W fun e w'=>e=.returned (.int .i64 ((z.up.length:Int)-(K:Nat)))∧Below w.heap.size w w'∧Below W.heap.size W w'):=Lib.hid fun W hW=>by
  have:=l05Implied_any (opensOf z.up) tn W A c b 0 (HOS.out.next hW)
  rw[opensOf_len,HK.out]at this
  exact this.mono fun e w' ⟨h1,h2⟩=>⟨h1,hW.trans (h2.mono hW.size),h2⟩
 have hw1:IntKind.i64.wrap (((z.up.length:Nat):Int)-(((z.up.length:Nat):Int)-((K:Nat):Int)))=(K:Int):=by rw[show ((z.up.length:Nat):Int)-(((z.up.length:Nat):Int)-((K:Nat):Int))=(K:Int) by omega];exact IntWalk.i64_in _ (by omega)
 have HTA:=Lib.hid (And.intro hn (And.intro ha (And.intro hba hbl)))
 clear h hos hsv hK hP hn ha hba hbl
 go_enter Tryz.func75,Tryz.ntmps75
 go_wp2_with fail
 have q0:=(A1.out.drew.cell (p:=⟨bb,0,none⟩) hbb).trans p0
 have q3:(w.alloc (.cells #[.int .i64 tk,.int .i64 (ta:Int),.int .i64 (tl:Int),.string tn,.string tt,.slice TA tal.length tc,.bool ts] 88)).drew.cell? ⟨w.heap.size,3,none⟩=some (.string tn):=L1.out.1 3
 go_region_held3 (fun w'=>w'.cell? ⟨bb,0,none⟩=some (.slice A z.up.length c)∧w'.cell? ⟨w.heap.size,3,none⟩=some (.string tn)) (first | exact And.intro q0 q3 | exact And.intro y0 y3 | go_keep) (first | (go_at_call 129;refine (HI.out _ A1.out.drew).mono ?_;rintro e w1 ⟨rfl,hB1,hB2⟩;have y3:=(hB2.cell (p:=⟨w.heap.size,3,none⟩) (by simp)).trans q3;have HL1:=Lib.hid (lay_same L1.out (hB2.block w.heap.size (by simp)));clear hB2;have y0:=(hB1.cell (p:=⟨bb,0,none⟩) hbb).trans p0;have HB1:=Lib.hid hB1;clear hB1))
 have hno:¬FpS bb sv nv bl w.heap.size:=fun hf=>absurd (HS.out.lt _ hf).2 (Nat.lt_irrefl _)
 have hxw:w.heap.size<w1.heap.size:=World.block_lt_of_cell? w1 ⟨w.heap.size,3,none⟩ y3
 have HNO:=Lib.hid (And.intro hno hxw)
 clear hno hxw q0 q3
 go_wp2_with (go_at_call 73;refine (HPC.out K z sv nv nvs bl _ (HS.out.next HB1.out) hle).mono ?_;rintro e w2 ⟨rfl,hO⟩;have HO:=Lib.hid hO;clear hO;have y3:=(HO.out.1.cell (p:=⟨w.heap.size,3,none⟩) HNO.out.2 HNO.out.1).trans y3)
 obtain ⟨hB2,sv2,nv2,nvs2,bl2,hS2,hq2⟩:=HO.out
 have hyl:=Zi.to_len z K hle
 have hyc:(z.to K).c=z.c:=Zi.pops_c _ _
 rw[hy]at HO hS2 hyl hyc
 obtain ⟨A2,c2,b2,hsv2,hos2⟩:=hS2.os
 obtain ⟨gn,cap,_,_,_,hnv2,_⟩:=hS2.kids
 have r0:w2.cell? ⟨bb,0,none⟩=some sv2:=hS2.lay.1 0
 have r1:w2.cell? ⟨bb,1,none⟩=some nv2:=hS2.lay.1 1
 have f3:w2.frozen? ⟨bb,3,none⟩=false:=hS2.lay.2 3
 have r3:w2.cell? ⟨bb,3,none⟩=some (.int .i64 0):=hS2.lay.1 3
 rw[hsv2,opensOf_len,hyl]at r0
 rw[hnv2,hyl]at r1
 have HMO:=Lib.hid (more_good bb y.c w2.drew (hS2.lay.1 2) (hS2.lay.2 2) (by omega))
 have HSP:Hid (∀W,(w2.drew=W∨w2=W)→Calls Tryz.prog 130 #[.slice A2 K c2,.string tn] W fun e w'=>e=.returned (.int .i64 sp)∧W=w'):=Lib.hid fun W hW=>by
  have h2:Below w2.heap.size w2 W:=by
   rcases hW with rfl | rfl
   ·exact (Below.refl _ _).drew
   ·exact Below.refl _ _
  have:=l05Space_any (opensOf y.up) tn W A2 c2 b2 0 (hos2.next h2)
  rw[opensOf_len,hyl,hsp]at this
  exact this
 have hbl2:∀q ∈ ba,¬FpS bb sv2 nv2 bl2 q:=fun q hq hf=>by
  have h1:=HTA.out.2.2.2 q hq
  rcases hq2 q hf with h | h
  ·exact h1.2.2 h
  ·exact absurd (Nat.lt_of_lt_of_le h1.2.1 (Nat.le_trans HB1.out.size h)) (Nat.lt_irrefl _)
 have hbw1:∀q ∈ ba,q≠bb:=fun q hq e=>(HTA.out.2.2.2 q hq).2.2 (Or.inl e)
 have hA2:AlRow w2 TA tal ba:=(HTA.out.2.1.2.2.same fun q hq=>HB1.out.block q (HTA.out.2.2.2 q hq).2.1).same fun q hq=>hB2.block q (Nat.lt_of_lt_of_le (HTA.out.2.2.2 q hq).2.1 HB1.out.size) (HTA.out.2.2.2 q hq).2.2
 have hcnt2:=hS2.fit.1
 have HM:=Lib.hid (hS2.same (w':=w2.drew) (Nat.le_refl _) fun _ _=>rfl).more
 have hL2:Lay w2 w.heap.size _:=lay_same HL1.out (hB2.block w.heap.size HNO.out.2 HNO.out.1)
 have hb2:bb<w2.heap.size:=(hS2.lt bb (Or.inl rfl)).2
 have hxb:w.heap.size≠bb:=fun e=>absurd hbb (by omega)
 have hx2:w.heap.size<w2.heap.size:=Nat.lt_of_lt_of_le HNO.out.2 hB2.size
 have hba4:But (FpS bb sv nv bl) w (w2.drew.setCell ⟨bb,2,none⟩ (.int .i64 ((y.c:Int)+1))):=((((But.of_below HB1.out).trans hB2 fun i hi=>Or.inl hi).drew).setCell (p:=⟨bb,2,none⟩) (Or.inl (Or.inl rfl)) _)
 have HQ2:=Lib.hid hq2
 have HB2:=Lib.hid (And.intro hB2 hS2)
 have HPU:Hid (∀W,Below w2.heap.size (w2.drew.setCell ⟨bb,2,none⟩ (.int .i64 ((y.c:Int)+1))) W→Calls Tryz.prog 128 #[.pointer (some ⟨bb,0,none⟩),.agg #[.int .i64 1,.int .i64 sp,.string tn,.string ⟨#[]⟩,.slice TA tal.length tc,.slice none 0 0]] W fun e w'=>e=.returned (.tuple #[])∧Hid (OutS B bb (FpS bb sv nv bl) ba (.ok ⟨y.F.app (.one 1 sp tn ⟨#[]⟩ tal .nil),y.up,y.c+1⟩) w (.returned (.tuple #[])) w')):=Lib.hid fun W hW=>by
  have hbs:=(HM.out (by omega)).next (hW.mono (by simp))
  have hsz:w2.heap.size≤W.heap.size:=by have:=hW.size;simpa using this
  have hpn:=put_new B bb ⟨y.F,y.up,y.c+1⟩ sv2 nv2 nvs2 bl2 1 sp tn ⟨#[]⟩ tal TA tc ba W ⟨HTA.out.1,by decide⟩ ⟨HTA.out.2.1.1,HTA.out.2.1.2.1,hA2.same fun q hq=>by
   have hq2:q<w2.heap.size:=Nat.lt_of_lt_of_le (HTA.out.2.2.2 q hq).2.1 (Nat.le_trans HB1.out.size hB2.size)
   rw[hW.block q hq2]
   exact Below.heap_setCell w2.drew ⟨bb,2,none⟩ _ q (by rintro rfl;exact hbw1 _ hq rfl)⟩ HTA.out.2.2.1 (fun q hq=>⟨(HTA.out.2.2.2 q hq).1,Nat.lt_of_lt_of_le (Nat.lt_of_lt_of_le (HTA.out.2.2.2 q hq).2.1 (Nat.le_trans HB1.out.size hB2.size)) hsz,hbl2 q hq⟩) hbs (Or.inl (by decide)) (by show cntZ ⟨y.F,y.up,y.c+1⟩+1≤y.c+1;exact Nat.succ_le_succ hcnt2)
  refine hpn.mono fun e w' hO=>?_
  unfold pushR at hO
  rw[if_neg (by decide)]at hO
  obtain ⟨o1,o2,sv3,nv3,nvs3,bl3,o3,o4⟩:=hO
  have hBW:But (FpS bb sv nv bl) w W:=hba4.trans (But.of_below (C:=No) (hW.mono (by simp))) fun i hi=>hi.elim
  refine ⟨o1,Lib.hid ⟨rfl,hBW.trans o2 fun i hi=>(HQ2.out i hi).imp id fun h=>Nat.le_trans HB1.out.size h,sv3,nv3,nvs3,bl3,o3,fun q hq=>?_⟩⟩
  rcases o4 q hq with h | h | h
  ·exact (HQ2.out q h).imp id fun h=>Or.inr (Nat.le_trans HB1.out.size h)
  ·exact Or.inr (Or.inl h)
  ·exact Or.inr (Or.inr (Nat.le_trans hBW.size h))
 have HX4:Hid (∀W,W=(w2.drew.setCell ⟨bb,2,none⟩ (.int .i64 ((y.c:Int)+1)))→W.cell? ⟨w.heap.size,3,none⟩=some (.string tn)∧W.cell? ⟨w.heap.size,5,none⟩=some (.slice TA tal.length tc)∧W.cell? ⟨w.heap.size,6,none⟩=some (.bool ts)∧W.cell? ⟨bb,3,none⟩=some (.int .i64 0)∧w2.heap.size≤W.heap.size∧bb<W.heap.size∧w.heap.size<W.heap.size):=Lib.hid fun W hW=>by
  subst hW
  refine ⟨?_,?_,?_,?_,by simp,by simpa using hb2,by simpa using hx2⟩
  ·rw[oth0 (Ne.symm hxb)];exact hL2.1 3
  ·rw[oth0 (Ne.symm hxb)];exact hL2.1 5
  ·rw[oth0 (Ne.symm hxb)];exact hL2.1 6
  ·rw[World.cell?_setCell_other _ _ _ _ (by simp)];exact r3
 clear hB2 hS2 hq2 hsv2 hos2 hnv2 y0 HO hL2 hba4 hA2 hbl2 hcnt2 hbw1 HQ2 HM hxb r3 f3
 have hd':¬((K:Nat):Int)+1>10:=by omega
 go_region_held3 (fun w'=>w'.cell? ⟨bb,0,none⟩=some (.slice A2 K c2)∧w'.cell? ⟨w.heap.size,3,none⟩=some (.string tn)) (first | exact And.intro r0 y3 | go_keep) (first | (go_at_call 130;refine (HSP.out _ (Or.inl rfl)).mono ?_;rintro e w3 ⟨rfl,rfl⟩))
 by_cases hs0:sp=0
 ·have hv:inL voidL tn=true:=by unfold staysB at hst;rw[if_pos hs0]at hst;simpa using hst
  have hs0':(sp==0)=true:=by simpa using hs0
  have HV:=Lib.hid hv
  clear hst hv hs0
  go_wp2_with (first
   | (go_at_call 127;refine HMO.out.mono ?_;rintro e w4 ⟨rfl,hw4⟩;obtain ⟨x3,x5,x6,r3',hsz4,hbb4,hxx4⟩:=HX4.out w4 hw4;have HW4:=Lib.hid hw4;clear hw4)
   | (go_at_call 79;refine (l01Void_any tn _).mono ?_;rintro e w5 ⟨rfl,hB5⟩;rw[HV.out];obtain ⟨n0,n1,n2,n3,n4,n5⟩:=lay6 (lay_same (Lay.new w4 #[.int .i64 1,.int .i64 sp,.string tn,.string ⟨#[]⟩,.slice TA tal.length tc,.slice none 0 0] 56) (hB5.block w4.heap.size (by simp)));have HB5:=Lib.hid (((Below.refl w2.heap.size w4).alloc hsz4 _).trans (hB5.mono (by simp;omega)));clear hB5)
   | (go_at_call 128;refine (HPU.out _ (by rw[←HW4.out];exact HB5.out)).mono ?_;rintro e w6 ⟨rfl,HO6⟩))
  first
   | (refine bodyPost_ret (results_none rfl _ _ _) rfl ?_;exact HO6.out)
   | (go_end0;exact HO6.out)
 ·have hs0':(sp==0)=false:=by simpa using hs0
  have hs1':(sp != 0)=true:=by simpa using hs0
  have hts:ts=true:=by unfold staysB at hst;rw[if_neg hs0]at hst;simpa using hst
  subst hts
  clear hst hs0
  go_wp2_with (first
   | (go_at_call 127;refine HMO.out.mono ?_;rintro e w4 ⟨rfl,hw4⟩;obtain ⟨x3,x5,x6,r3',hsz4,hbb4,hxx4⟩:=HX4.out w4 hw4;have HW4:=Lib.hid hw4;clear hw4)
   | (go_at_call 128;refine (HPU.out _ (by rw[←HW4.out];exact (Below.refl w2.heap.size w4).alloc hsz4 _)).mono ?_;rintro e w6 ⟨rfl,HO6⟩))
  first
   | (refine bodyPost_ret (results_none rfl _ _ _) rfl ?_;exact HO6.out)
   | (go_end0;exact HO6.out)
end Go.Proofs.YthdkkpbhijlpaaaGreatDoor
namespace Go.Proofs.YthdkkpbhijlpaaaGreatDoor
open Go.ChangeShapes Go.WideShapes Go.ChangeAt Go.RowKit Go.Deep
theorem BS.pushed {w W:World} {B bb:Nat} {z:Zi} {sv nv sv' nv':Value} {nvs:List Value} {bl ba:List Nat} {sp:Int} {tn:ByteArray} {tal:List (ByteArray × ByteArray)} {TA:Option Addr} {tc c':Nat} (h:BS w B bb z sv nv nvs bl) (hs:w.heap.size≤W.heap.size)
 (hk:∀q,q<w.heap.size→q≠bb→q ∉ ownL sv→q ∉ ownL nv→W.heap[q]?=w.heap[q]?)
 (hn:W.ownsRow B 56 6 nv' (z.up.length+1+1) (nvs++elV sp tn tal TA tc (.slice none 0 0))) (hst:W.ownsRow B 168 2 sv' (z.up.length+1) (osVals (opensOf z.up)++[.string tn,.int .i64 sp]))
 (hL:Lay W bb #[sv',nv',.int .i64 (c':Int),.int .i64 0]) (hf:(⟨.nil,⟨sp,tn,tal,z.F⟩::z.up,c'⟩:Zi).fit) (hz:tn.size≤maxLen) (ha:tal.length≤tc∧tal.length≤maxLen∧AlRow w TA tal ba) (hba:ba.Nodup) (hbl:∀q ∈ ba,B≤q∧q<w.heap.size∧¬FpS bb sv nv bl q)
 (hsv:∀q ∈ ownL sv',q ∈ ownL sv∨w.heap.size≤q) (hnv:∀q ∈ ownL nv',q ∈ ownL nv∨w.heap.size≤q) (hne:∀q ∈ ownL nv',q ∉ ownL sv'):
 BS W B bb ⟨.nil,⟨sp,tn,tal,z.F⟩::z.up,c'⟩ sv' nv' (nvs++elV sp tn tal TA tc (.slice none 0 0)) (ba++bl):=by
 have kb:∀q ∈ bl,W.heap[q]?=w.heap[q]?:=fun q hq=>hk q (h.lt q (Or.inr (Or.inr (Or.inr hq)))).2 (by rintro rfl;exact h.db hq) (fun hm=>(h.ds q hm).1 hq) fun hm=>(h.dn q hm).1 hq
 have ka:∀q ∈ ba,W.heap[q]?=w.heap[q]?:=fun q hq=>hk q (hbl q hq).2.1 (fun e=>(hbl q hq).2.2 (Or.inl e)) (fun hm=>(hbl q hq).2.2 (Or.inr (Or.inl hm))) fun hm=>(hbl q hq).2.2 (Or.inr (Or.inr (Or.inl hm)))
 have hbb:=(h.lt bb (Or.inl rfl)).2
 have hmem:∀q ∈ ba++bl,q<w.heap.size∧q≠bb∧q ∉ ownL sv∧q ∉ ownL nv:=fun q hq=>by
  rcases List.mem_append.1 hq with hq | hq
  ·exact ⟨(hbl q hq).2.1,fun e=>(hbl q hq).2.2 (Or.inl e),fun hm=>(hbl q hq).2.2 (Or.inr (Or.inl hm)),fun hm=>(hbl q hq).2.2 (Or.inr (Or.inr (Or.inl hm)))⟩
  ·exact ⟨(h.lt q (Or.inr (Or.inr (Or.inr hq)))).2,fun e=>h.db (by rw[←e];exact hq),fun hm=>(h.ds q hm).1 hq,fun hm=>(h.dn q hm).1 hq⟩
 refine ⟨⟨.slice none 0 0,[],TA,tc,ba,nvs,bl,rfl,GRow.nil _ _,⟨hz,ha.1,ha.2.1,ha.2.2.same ka⟩,fun q hq=>⟨(hbl q hq).1,Nat.lt_of_lt_of_le (hbl q hq).2.1 hs⟩,h.nod.same hs kb,rfl⟩,?_,hn,?_,fun q hq=>⟨fun hm=>?_,?_,hne q hq⟩,fun q hq=>⟨fun hm=>?_,?_⟩,fun hm=>(hmem bb hm).2.1 rfl,hL,h.le,hf⟩
 ·exact List.nodup_append.2 ⟨hba,h.nd,fun a ha' b hb e=>by subst e;exact (hbl a ha').2.2 (Or.inr (Or.inr (Or.inr hb)))⟩
 ·rw[opensOf_cons,osVals_snoc];exact hst
 ·rcases hnv q hq with h1 | h1
  ·exact (hmem q hm).2.2.2 h1
  ·exact absurd (hmem q hm).1 (by omega)
 ·rcases hnv q hq with h1 | h1
  ·exact (h.dn q h1).2.1
  ·omega
 ·rcases hsv q hq with h1 | h1
  ·exact (hmem q hm).2.2.1 h1
  ·exact absurd (hmem q hm).1 (by omega)
 ·rcases hsv q hq with h1 | h1
  ·exact (h.ds q h1).2
  ·omega
end Go.Proofs.YthdkkpbhijlpaaaGreatDoor
namespace Go.Proofs.YthdkkpbhijlpaaaGreatDoor
open Go.ChangeShapes Go.WideShapes Go.ChangeAt Go.RowKit Go.Deep
theorem fit_pushed {z:Zi} {sp:Int} {tn:ByteArray} {tal:List (ByteArray × ByteArray)} (hf:z.fit) (hr:cntZ z+1≤z.c) (hd:z.up.length<10):(⟨.nil,⟨sp,tn,tal,z.F⟩::z.up,z.c⟩:Zi).fit:=by
 obtain ⟨h1,h2,h3,h4⟩:=hf
 refine ⟨?_,h2,by simp only[List.length_cons];omega,fun x hx=>by cases hx⟩
 unfold cntZ at hr ⊢
 simp only[List.map_cons,List.sum_cons,Fo.len]at hr ⊢
 omega
theorem lay4_0 {w:World} {g:Nat} {z0 z1 z2 z3:Value} (h:Lay w g #[z0,z1,z2,z3]) (v:Value):Lay (w.setCell ⟨g,0,none⟩ v) g #[v,z1,z2,z3]:=by have:=h.set 0 v;simpa using this
theorem lay4_1 {w:World} {g:Nat} {z0 z1 z2 z3:Value} (h:Lay w g #[z0,z1,z2,z3]) (v:Value):Lay (w.setCell ⟨g,1,none⟩ v) g #[z0,v,z2,z3]:=by have:=h.set 1 v;simpa using this
theorem open_fin {B bb:Nat} {W w6 w8 Wf:World} {z:Zi} {sv nv:Value} {nvs:List Value} {bl ba:List Nat} {sp:Int} {tn:ByteArray} {tal:List (ByteArray × ByteArray)} {TA:Option Addr} {tc gs capS gg capN:Nat} {o o':Obj}
 (h:BS W B bb z sv nv nvs bl) (hr:cntZ z+1≤z.c) (hd:z.up.length<10)
 (hz:tn.size≤maxLen) (ha:tal.length≤tc∧tal.length≤maxLen∧AlRow W TA tal ba) (hba:ba.Nodup) (hbl:∀q ∈ ba,B≤q∧q<W.heap.size∧¬FpS bb sv nv bl q)
 (hS:w6.ownsRow B 168 2 (.slice (some ⟨gs,0,none⟩) (z.up.length+1) capS) (z.up.length+1) (osVals (opensOf z.up)++[.string tn,.int .i64 sp])) (gS:((W.alloc o).drew).grownBy w6 sv.ownBlock) (aS:sv.ownBlock=some gs∨gs=W.heap.size+1)
 (hN:w8.ownsRow B 56 6 (.slice (some ⟨gg,0,none⟩) (z.up.length+1+1) capN) (z.up.length+1+1) (nvs++zeros6)) (gN:(((w6.setCell ⟨bb,0,none⟩ (.slice (some ⟨gs,0,none⟩) (z.up.length+1) capS)).alloc o').drew).grownBy w8 nv.ownBlock) (aN:nv.ownBlock=some gg∨gg=w6.heap.size+1)
 (he:Wf=(six w8 gg ((z.up.length+1)*6) (.int .i64 1) (.int .i64 sp) (.string tn) (.string ⟨#[]⟩) (.slice TA tal.length tc) (.slice none 0 0)).setCell ⟨bb,1,none⟩ (.slice (some ⟨gg,0,none⟩) (z.up.length+1+1) capN)):
 But (FpS bb sv nv bl) W Wf∧∃sv' nv' nvs' bl',BS Wf B bb ⟨.nil,⟨sp,tn,tal,z.F⟩::z.up,z.c⟩ sv' nv' nvs' bl'∧∀q,FpS bb sv' nv' bl' q→FpS bb sv nv bl q∨q ∈ ba∨W.heap.size≤q:=by
 have hlt:=h.lt
 have hbb:=(hlt bb (Or.inl rfl)).2
 have c1:But (fun q=>sv.ownBlock=some q) W w6:=but_grown gS
 have hw7:(w6.setCell ⟨bb,0,none⟩ (.slice (some ⟨gs,0,none⟩) (z.up.length+1) capS)).heap.size=w6.heap.size:=by simp
 have c3:But (fun q=>nv.ownBlock=some q) (w6.setCell ⟨bb,0,none⟩ (.slice (some ⟨gs,0,none⟩) (z.up.length+1) capS)) w8:=but_grown gN
 have hgs:gs<w6.heap.size:=(World.ownsRow.lt hS gs rfl).2
 have s1:=c1.size
 have s3:=c3.size
 rw[hw7]at s3
 have hnvl:∀q,nv.ownBlock=some q→q<W.heap.size∧q≠bb∧sv.ownBlock≠some q∧q ∉ bl:=fun q hq=>⟨(hlt q (Or.inr (Or.inr (Or.inl (mem_ownL.2 hq))))).2,(h.dn q (mem_ownL.2 hq)).2.1,fun e=>(h.dn q (mem_ownL.2 hq)).2.2 (mem_ownL.2 e),(h.dn q (mem_ownL.2 hq)).1⟩
 have hsvl:∀q,sv.ownBlock=some q→q<W.heap.size∧q≠bb∧q ∉ bl:=fun q hq=>⟨(hlt q (Or.inr (Or.inl (mem_ownL.2 hq)))).2,(h.ds q (mem_ownL.2 hq)).2,(h.ds q (mem_ownL.2 hq)).1⟩
 have hgsb:gs≠bb∧nv.ownBlock≠some gs∧gs≠gg:=by
  rcases aS with e | e
  ·refine ⟨(hsvl gs e).2.1,fun e2=>(hnvl gs e2).2.2.1 e,fun e2=>?_⟩
   subst e2
   rcases aN with e3 | e3
   ·exact (hnvl gs e3).2.2.1 e
   ·have:=(hsvl gs e).1;omega
  ·refine ⟨by omega,fun e2=>by have:=(hnvl gs e2).1;omega,fun e2=>?_⟩
   subst e2
   rcases aN with e3 | e3
   ·have:=(hnvl gs e3).1;omega
   ·omega
 have hggb:gg≠bb:=by
  rcases aN with e | e
  ·exact (hnvl gg e).2.1
  ·omega
 have far:∀(w:World) (q i:Nat) (u:Value),q≠bb→(w.setCell ⟨bb,i,none⟩ u).heap[q]?=w.heap[q]?:=fun w q i u hq=>Below.heap_setCell w ⟨bb,i,none⟩ u q (by rintro rfl;exact hq rfl)
 have keep:∀q,q<w6.heap.size→q≠bb→nv.ownBlock≠some q→q≠gg→Wf.heap[q]?=w6.heap[q]?:=fun q h1 h2 h3 h4=>by
  rw[he,far _ q 1 _ h2,six_heap h4,c3.block q (by rw[hw7];exact h1) h3,far _ q 0 _ h2]
 have keepW:∀q,q<W.heap.size→q≠bb→q ∉ ownL sv→q ∉ ownL nv→Wf.heap[q]?=W.heap[q]?:=fun q h1 h2 h3 h4=>by
  have hqg:q≠gg:=by
   rintro rfl
   rcases aN with e | e
   ·exact h4 (mem_ownL.2 e)
   ·omega
  rw[keep q (by omega) h2 (fun e=>h4 (mem_ownL.2 e)) hqg,c1.block q h1 fun e=>h3 (mem_ownL.2 e)]
 have hsz:W.heap.size≤Wf.heap.size:=by
  rw[he,World.size_setCell,six_size];omega
 have hxl:nvs.length=(z.up.length+1)*6:=h.nod.len
 have hbs:sv.ownBlock≠some bb:=fun e=>(hsvl bb e).2.1 rfl
 have hbn:nv.ownBlock≠some bb:=fun e=>(hnvl bb e).2.1 rfl
 have hL6:=lay_same h.lay (c1.block bb hbb hbs)
 have hL8:=lay_same (lay4_0 hL6 (.slice (some ⟨gs,0,none⟩) (z.up.length+1) capS)) (c3.block bb (by rw[hw7];omega) hbn)
 have hL9:=lay4_1 (lay_same (w':=six w8 gg ((z.up.length+1)*6) (.int .i64 1) (.int .i64 sp) (.string tn) (.string ⟨#[]⟩) (.slice TA tal.length tc) (.slice none 0 0)) hL8 (six_heap (Ne.symm hggb))) (.slice (some ⟨gg,0,none⟩) (z.up.length+1+1) capN)
 have hrn:Wf.ownsRow B 56 6 (.slice (some ⟨gg,0,none⟩) (z.up.length+1+1) capN) (z.up.length+1+1) (nvs++elV sp tn tal TA tc (.slice none 0 0)):=by
  have h6:=own_six (n:=z.up.length+1) hN hxl (.int .i64 1) (.int .i64 sp) (.string tn) (.string ⟨#[]⟩) (.slice TA tal.length tc) (.slice none 0 0)
  have hk6:Wf.heap[gg]?=(six w8 gg ((z.up.length+1)*6) (.int .i64 1) (.int .i64 sp) (.string tn) (.string ⟨#[]⟩) (.slice TA tal.length tc) (.slice none 0 0)).heap[gg]?:=by rw[he];exact far _ gg 1 _ hggb
  refine ownsRow_same h6 fun q hq=>?_
  have hq':gg=q:=Option.some.inj hq
  rw[←hq']
  exact hk6
 have hrs:Wf.ownsRow B 168 2 (.slice (some ⟨gs,0,none⟩) (z.up.length+1) capS) (z.up.length+1) (osVals (opensOf z.up)++[.string tn,.int .i64 sp]):=
  ownsRow_same hS fun q hq=>by injection hq with hq;subst hq;exact keep _ hgs hgsb.1 hgsb.2.1 hgsb.2.2
 have hrl:Lay Wf bb #[.slice (some ⟨gs,0,none⟩) (z.up.length+1) capS,.slice (some ⟨gg,0,none⟩) (z.up.length+1+1) capN,.int .i64 (z.c:Int),.int .i64 0]:=by
  rw[he]
  exact hL9
 have hP:=h.pushed hsz keepW hrn hrs hrl (fit_pushed h.fit hr hd) hz ha hba hbl
  (fun q hq=>by have e0:gs=q:=Option.some.inj (mem_ownL.1 hq);rw[←e0];exact aS.imp (fun e=>mem_ownL.2 e) fun e=>by omega)
  (fun q hq=>by have e0:gg=q:=Option.some.inj (mem_ownL.1 hq);rw[←e0];exact aN.imp (fun e=>mem_ownL.2 e) fun e=>by omega)
  (fun q hq hs=>by have e0:gg=q:=Option.some.inj (mem_ownL.1 hq);have e1:gs=q:=Option.some.inj (mem_ownL.1 hs);exact hgsb.2.2 (e1.trans e0.symm))
 refine ⟨?_,_,_,_,_,hP,fun q hq=>?_⟩
 ·have d1:But (FpS bb sv nv bl) W w6:=c1.mono fun q e=>Or.inr (Or.inl (mem_ownL.2 e))
  have d2:=d1.setCell (p:=⟨bb,0,none⟩) (Or.inl (Or.inl rfl)) (.slice (some ⟨gs,0,none⟩) (z.up.length+1) capS)
  have d3:But (FpS bb sv nv bl) W w8:=d2.trans c3 fun q e=>Or.inl (Or.inr (Or.inr (Or.inl (mem_ownL.2 e))))
  rw[he]
  exact (but_six d3 (aN.imp (fun e=>Or.inr (Or.inr (Or.inl (mem_ownL.2 e)))) fun e=>by omega)).setCell (p:=⟨bb,1,none⟩) (Or.inl (Or.inl rfl)) _
 ·rcases hq with hq | hq | hq | hq
  ·exact Or.inl (Or.inl hq)
  ·have e0:gs=q:=Option.some.inj (mem_ownL.1 hq)
   rw[←e0]
   exact aS.imp (fun e=>Or.inr (Or.inl (mem_ownL.2 e))) fun e=>Or.inr (by omega)
  ·have e0:gg=q:=Option.some.inj (mem_ownL.1 hq)
   rw[←e0]
   exact aN.imp (fun e=>Or.inr (Or.inr (Or.inl (mem_ownL.2 e)))) fun e=>Or.inr (by omega)
  ·rcases List.mem_append.1 hq with hq | hq
   ·exact Or.inr (Or.inl hq)
   ·exact Or.inl (Or.inr (Or.inr (Or.inr hq)))
theorem open_mid {B bb gn cap K xb tb:Nat} {W w6:World} {z:Zi} {sv nv:Value} {nvs:List Value} {bl:List Nat} {o:Obj} {v a0 a1 a2 a3 a4 a5:Value} (h:BS W B bb z sv nv nvs bl) (hnv:nv=.slice (some ⟨gn,0,none⟩) (K+1) cap) (hK:z.up.length=K)
 (gS:((W.alloc o).drew).grownBy w6 sv.ownBlock) (ht:W.cell? ⟨tb,3,none⟩=some v) (htb:¬FpS bb sv nv bl tb) (hx:Lay W xb #[a0,a1,a2,a3,a4,a5]) (hxb:¬FpS bb sv nv bl xb) (u:Value):
 (w6.cell? ⟨tb,3,none⟩=some v∧w6.cell? ⟨bb,0,none⟩=some sv∧w6.frozen? ⟨bb,0,none⟩=false) ∧
  (w6.setCell ⟨bb,0,none⟩ u).cell? ⟨bb,1,none⟩=some (.slice (some ⟨gn,0,none⟩) (K+1) cap)∧(w6.setCell ⟨bb,0,none⟩ u).frozen? ⟨bb,1,none⟩=false ∧
  ((w6.setCell ⟨bb,0,none⟩ u).cell? ⟨xb,0,none⟩=some a0∧(w6.setCell ⟨bb,0,none⟩ u).cell? ⟨xb,1,none⟩=some a1∧(w6.setCell ⟨bb,0,none⟩ u).cell? ⟨xb,2,none⟩=some a2∧(w6.setCell ⟨bb,0,none⟩ u).cell? ⟨xb,3,none⟩=some a3∧(w6.setCell ⟨bb,0,none⟩ u).cell? ⟨xb,4,none⟩=some a4∧(w6.setCell ⟨bb,0,none⟩ u).cell? ⟨xb,5,none⟩=some a5) ∧
  (w6.setCell ⟨bb,0,none⟩ u).ownsRow B 56 6 (.slice (some ⟨gn,0,none⟩) (K+1) cap) (K+1) nvs∧bb<(w6.setCell ⟨bb,0,none⟩ u).heap.size∧xb<(w6.setCell ⟨bb,0,none⟩ u).heap.size∧B≤(w6.setCell ⟨bb,0,none⟩ u).heap.size:=by
 have c1:But (fun q=>sv.ownBlock=some q) W w6:=but_grown gS
 have s1:=c1.size
 have hbb:=(h.lt bb (Or.inl rfl)).2
 have hxl:xb<W.heap.size:=World.block_lt_of_cell? W ⟨xb,0,none⟩ (hx.1 0)
 have htl:tb<W.heap.size:=World.block_lt_of_cell? W _ ht
 have far:∀q,q≠bb→(w6.setCell ⟨bb,0,none⟩ u).heap[q]?=w6.heap[q]?:=fun q hq=>Below.heap_setCell w6 ⟨bb,0,none⟩ u q (by rintro rfl;exact hq rfl)
 have hbs:sv.ownBlock≠some bb:=fun e=>(h.ds bb (mem_ownL.2 e)).2 rfl
 have hL6:=lay_same h.lay (c1.block bb hbb hbs)
 have hL7:=lay4_0 hL6 u
 have hx6:=lay_same hx (c1.block xb hxl fun e=>hxb (Or.inr (Or.inl (mem_ownL.2 e))))
 have hx7:=lay_same hx6 (far xb fun e=>hxb (Or.inl e))
 refine ⟨⟨(World.cell?_of_block (w:=W) (a:=⟨tb,3,none⟩) (c1.block tb htl fun e=>htb (Or.inr (Or.inl (mem_ownL.2 e))))).trans ht,hL6.1 0,hL6.2 0⟩,?_,hL7.2 1,lay6 hx7,?_,by rw[World.size_setCell];omega,by rw[World.size_setCell];omega,by rw[World.size_setCell];have:=h.le;omega⟩
 ·rw[←hnv];exact hL7.1 1
 ·have hr:=h.nrow
  rw[hK]at hr
  have hr7:=ownsRow_same hr (w':=w6.setCell ⟨bb,0,none⟩ u) fun q hq=>by
   have hm:=mem_ownL.2 hq
   rw[far q (h.dn q hm).2.1,c1.block q (h.lt q (Or.inr (Or.inr (Or.inl hm)))).2 fun e=>(h.dn q hm).2.2 (mem_ownL.2 e)]
  rw[hnv]at hr7
  exact hr7
theorem box6 {w w':World} {xb:Nat} {a0 a1 a2 a3 a4 a5:Value} (hx:w'.heap[xb]?=w.heap[xb]?)
 (h:w.cell? ⟨xb,0,none⟩=some a0∧w.cell? ⟨xb,1,none⟩=some a1∧w.cell? ⟨xb,2,none⟩=some a2∧w.cell? ⟨xb,3,none⟩=some a3∧w.cell? ⟨xb,4,none⟩=some a4∧w.cell? ⟨xb,5,none⟩=some a5):
 w'.cell? ⟨xb,0,none⟩=some a0∧w'.cell? ⟨xb,1,none⟩=some a1∧w'.cell? ⟨xb,2,none⟩=some a2∧w'.cell? ⟨xb,3,none⟩=some a3∧w'.cell? ⟨xb,4,none⟩=some a4∧w'.cell? ⟨xb,5,none⟩=some a5:=by
 have k:∀j,w'.cell? ⟨xb,j,none⟩=w.cell? ⟨xb,j,none⟩:=fun j=>World.cell?_of_block (w:=w) (a:=⟨xb,j,none⟩) hx
 rw[k,k,k,k,k,k]
 exact h
end Go.Proofs.YthdkkpbhijlpaaaGreatDoor
