import Derived.Test.YthdkkpbhijlpaaaGreatDoorQ17
set_option linter.unusedVariables false
namespace Go.Proofs.YthdkkpbhijlpaaaGreatDoor
open Go.ChangeShapes Go.WideShapes Go.ChangeAt Go.RowKit Go.Deep
def cmS:ByteArray:=⟨#[60,33,45,45]⟩
def endS:ByteArray:=⟨#[45,45,62]⟩
def letB (c:Int):Bool:=small c||great c
noncomputable def closeTk (s:ByteArray) (a:Nat):Tk:=
 let r:=findTo s gtS (a+2+runAt inName s (a+2))
 if r.2=true then (if namedB small tagB (nameOf s (a+2))=true then noTk 3 a (r.1+1-a) (nameOf s (a+2)) ⟨#[]⟩ else noTk 5 a (r.1+1-a) ⟨#[]⟩ ⟨#[]⟩) else noTk 5 a (s.size-a) ⟨#[]⟩ ⟨#[]⟩
theorem closeTk_val (s:ByteArray) (a:Nat):closeOf s a=(closeTk s a).val none 0:=by
 unfold closeOf closeTk
 dsimp only
 split
 ·split <;> rfl
 ·rfl
theorem closeTk_al (s:ByteArray) (a:Nat):(closeTk s a).al=[]:=by
 unfold closeTk
 dsimp only
 split
 ·split <;> rfl
 ·rfl
def wordsTk (s:ByteArray) (a:Nat):Tk:=noTk 1 a (1+runAt inWord s (a+1)) ⟨#[]⟩ (wordOf s a)
def commentTk (s what:ByteArray) (a i:Nat):Tk:=noTk 4 a (commentLen s what a i) ⟨#[]⟩ (s.extract i (findTo s what i).1)
noncomputable def markTk (s:ByteArray) (a:Nat):Tk:=
 if byteAt s a≠60∨a+1=s.size then wordsTk s a
 else if letB (byteAt s (a+1))=true then openOf s a
 else if byteAt s (a+1)=47∧letB (byteAt s (a+2))=true then closeTk s a
 else if a+4≤s.size∧s.extract a (a+4)=cmS then commentTk s endS a (a+4)
 else if byteAt s (a+1)=33∨byteAt s (a+1)=63∨byteAt s (a+1)=47 then commentTk s gtS a (a+2)
 else wordsTk s a
noncomputable def nextOf (s:ByteArray) (a:Nat) (raw:ByteArray):Tk:=
 if 0<raw.size∧a<rawEnd s raw a then noTk 1 a (rawEnd s raw a-a) ⟨#[]⟩ (s.extract a (rawEnd s raw a)) else markTk s a
def put7 (w:World) (g:Nat) (v0 v1 v2 v3 v4 v5 v6:Value):World:=(((((((w.setCell ⟨g,0,none⟩ v0).setCell ⟨g,1,none⟩ v1).setCell ⟨g,2,none⟩ v2).setCell ⟨g,3,none⟩ v3).setCell ⟨g,4,none⟩ v4).setCell ⟨g,5,none⟩ v5).setCell ⟨g,6,none⟩ v6)
theorem AOwn.put7 {M g:Nat} {w:World} {A:Option Addr} {c:Nat} {al:List (ByteArray × ByteArray)} (h:AOwn M w A c al) (hg:g<M) (v0 v1 v2 v3 v4 v5 v6:Value):AOwn M (put7 w g v0 v1 v2 v3 v4 v5 v6) A c al:=
 (((((((h.set hg _ _).set hg _ _).set hg _ _).set hg _ _).set hg _ _).set hg _ _).set hg _ _)
theorem tk_ret {w w1 w2:World} {T:Tk} {A:Option Addr} {c:Nat} {v0 v1 v2 v3 v4 v5 v6:Value} (hv:T.val A c=.agg #[v0,v1,v2,v3,v4,v5,v6]) (hB1:Below w.heap.size w w1) (h1:w.heap.size<w1.heap.size) (hB:Below w1.heap.size w1 w2) (hO:AOwn w1.heap.size w2 A c T.al):
 TkOut w.heap.size T (.returned (.agg #[v0,v1,v2,v3,v4,v5,v6])) (put7 w2 w.heap.size v0 v1 v2 v3 v4 v5 v6)∧Below w.heap.size w (put7 w2 w.heap.size v0 v1 v2 v3 v4 v5 v6):=
 ⟨⟨A,c,by rw[hv],(hO.put7 h1 _ _ _ _ _ _ _).low (Nat.le_of_lt h1)⟩,below_put7 _ _ _ _ _ _ _ (hB1.trans (hB.mono hB1.size)) (Nat.le_refl _)⟩
theorem cm_no {s:ByteArray} {a:Nat} (h:a+4≤s.size) (h1:a+1<s.size) (hc:¬(s[a+1].toNat:Int)=33):((s.extract a (a+4)).toList==[60,33,45,45])=false:=by
 rw[Bool.eq_false_iff]
 intro hb
 have e:s.extract a (a+4)=cmS:=str_ext (by rw[eq_of_beq hb,ByteArray.toList_eq];rfl)
 apply hc
 have h2:(s.extract a (a+4))[1]'(by rw[ByteArray.size_extract];omega)=s[a+1]:=by rw[ByteArray.getElem_extract]
 rw[←h2]
 have:(s.extract a (a+4))[1]'(by rw[ByteArray.size_extract];omega)=cmS[1]'(by decide):=by simp only[e]
 rw[this];rfl
set_option maxHeartbeats 1000000 in
set_option maxRecDepth 100000 in
theorem next0_w1 (s raw:ByteArray) (a:Nat) (hs:s.size≤65536) (ha:a<s.size) (hr:raw.size=0) (h1:a+1<s.size) (h60:((s[a].toNat:Int) != 60)=true) (w:World):
 Calls Tryz.prog 72 #[.string s,.int .i64 (a:Int),.string raw] w fun e w'=>TkOut w.heap.size (wordsTk s a) e w'∧Below w.heap.size w w':=by
 have hrl:raw.toList=[]:=by rw[←List.length_eq_zero_iff,ByteArray.toList_eq,Array.length_toList];exact hr
 have he1:((a:Int)+1==(s.size:Int))=false:=by simp;omega
 have LZ:=Lib.hid (tok_zero w)
 have HB0:=Lib.hid ((Below.refl w.heap.size w).alloc (Nat.le_refl _) (.cells #[.int .i64 0,.int .i64 0,.int .i64 0,.string ⟨#[]⟩,.string ⟨#[]⟩,.slice none 0 0,.bool false] 88))
 go_enter Tryz.func72,Tryz.ntmps72
 go_wp2_with (first | (go_at_call 122;refine (l04Words_any s a hs ha _).mono ?_;rintro e w2 ⟨rfl,hB2⟩;unfold tokA;have L2:=LZ.out.below hB2 (by simp);have n0:=L2.1;have n1:=L2.2;clear L2;have B2:=Lib.hid hB2;clear hB2))
 (try simp only[Exit.inBlock,Exit.then])
 have M2:Lay _ w.heap.size _:=⟨n0,n1⟩
 refine ret_tok rfl M2.put7 rfl rfl ?_
 exact tk_ret (A:=none) (c:=0) rfl HB0.out (by simp) B2.out AOwn.nil
set_option maxHeartbeats 1000000 in
set_option maxRecDepth 100000 in
theorem next0_w2 (s raw:ByteArray) (a:Nat) (hs:s.size≤65536) (ha:a<s.size) (hr:raw.size=0) (he1:a+1=s.size) (h60:((s[a].toNat:Int) != 60)=true) (w:World):
 Calls Tryz.prog 72 #[.string s,.int .i64 (a:Int),.string raw] w fun e w'=>TkOut w.heap.size (wordsTk s a) e w'∧Below w.heap.size w w':=by
 have hrl:raw.toList=[]:=by rw[←List.length_eq_zero_iff,ByteArray.toList_eq,Array.length_toList];exact hr
 have he2:((a:Int)+1==(s.size:Int))=true:=by simp;omega
 have LZ:=Lib.hid (tok_zero w)
 have HB0:=Lib.hid ((Below.refl w.heap.size w).alloc (Nat.le_refl _) (.cells #[.int .i64 0,.int .i64 0,.int .i64 0,.string ⟨#[]⟩,.string ⟨#[]⟩,.slice none 0 0,.bool false] 88))
 go_enter Tryz.func72,Tryz.ntmps72
 go_wp2_with (first | (go_at_call 122;refine (l04Words_any s a hs ha _).mono ?_;rintro e w2 ⟨rfl,hB2⟩;unfold tokA;have L2:=LZ.out.below hB2 (by simp);have n0:=L2.1;have n1:=L2.2;clear L2;have B2:=Lib.hid hB2;clear hB2))
 (try simp only[Exit.inBlock,Exit.then])
 have M2:Lay _ w.heap.size _:=⟨n0,n1⟩
 refine ret_tok rfl M2.put7 rfl rfl ?_
 exact tk_ret (A:=none) (c:=0) (by rw[←he1];rfl) HB0.out (by simp) B2.out AOwn.nil
set_option maxHeartbeats 1000000 in
set_option maxRecDepth 100000 in
theorem next0_w3 (s raw:ByteArray) (a:Nat) (hs:s.size≤65536) (ha:a<s.size) (hr:raw.size=0) (he1:a+1=s.size) (h60:((s[a].toNat:Int) != 60)=false) (w:World):
 Calls Tryz.prog 72 #[.string s,.int .i64 (a:Int),.string raw] w fun e w'=>TkOut w.heap.size (wordsTk s a) e w'∧Below w.heap.size w w':=by
 have hrl:raw.toList=[]:=by rw[←List.length_eq_zero_iff,ByteArray.toList_eq,Array.length_toList];exact hr
 have he2:((a:Int)+1==(s.size:Int))=true:=by simp;omega
 have LZ:=Lib.hid (tok_zero w)
 have HB0:=Lib.hid ((Below.refl w.heap.size w).alloc (Nat.le_refl _) (.cells #[.int .i64 0,.int .i64 0,.int .i64 0,.string ⟨#[]⟩,.string ⟨#[]⟩,.slice none 0 0,.bool false] 88))
 go_enter Tryz.func72,Tryz.ntmps72
 go_wp2_with (first | (go_at_call 122;refine (l04Words_any s a hs ha _).mono ?_;rintro e w2 ⟨rfl,hB2⟩;unfold tokA;have L2:=LZ.out.below hB2 (by simp);have n0:=L2.1;have n1:=L2.2;clear L2;have B2:=Lib.hid hB2;clear hB2))
 (try simp only[Exit.inBlock,Exit.then])
 have M2:Lay _ w.heap.size _:=⟨n0,n1⟩
 refine ret_tok rfl M2.put7 rfl rfl ?_
 exact tk_ret (A:=none) (c:=0) (by rw[←he1];rfl) HB0.out (by simp) B2.out AOwn.nil
set_option maxHeartbeats 1000000 in
set_option maxRecDepth 100000 in
theorem next0_o (s raw:ByteArray) (a:Nat) (hs:s.size≤65536) (ha:a<s.size) (hr:raw.size=0) (h1:a+1<s.size) (h60:((s[a].toNat:Int) != 60)=false) (hl1:(small (s[a+1].toNat:Int)||great (s[a+1].toNat:Int))=true) (w:World):
 Calls Tryz.prog 72 #[.string s,.int .i64 (a:Int),.string raw] w fun e w'=>TkOut w.heap.size (openOf s a) e w'∧Below w.heap.size w w':=by
 have hrl:raw.toList=[]:=by rw[←List.length_eq_zero_iff,ByteArray.toList_eq,Array.length_toList];exact hr
 have he1:((a:Int)+1==(s.size:Int))=false:=by simp;omega
 have HL1:=Lib.hid (l04Letter_any (s[a+1].toNat:Int))
 rw[hl1]at HL1
 clear hl1
 have HO:=Lib.hid (l04Open_any s a hs ha)
 generalize openOf s a=OP at HO ⊢
 obtain ⟨ok,oa,ol,on,ot,oal,os⟩:=OP
 have LZ:=Lib.hid (tok_zero w)
 have HB0:=Lib.hid ((Below.refl w.heap.size w).alloc (Nat.le_refl _) (.cells #[.int .i64 0,.int .i64 0,.int .i64 0,.string ⟨#[]⟩,.string ⟨#[]⟩,.slice none 0 0,.bool false] 88))
 go_enter Tryz.func72,Tryz.ntmps72
 go_wp2_with (first | (go_at_call 123;refine (HL1.out _).mono ?_;rintro e w' ⟨rfl,rfl⟩) | (go_at_call 124;refine (HO.out _).mono ?_;rintro e w2 ⟨⟨A,c,rfl,hO⟩,hB2⟩;unfold Tk.val;dsimp only;have L2:=LZ.out.below hB2 (by simp);have n0:=L2.1;have n1:=L2.2;clear L2;have B2:=Lib.hid hB2;clear hB2))
 (try simp only[Exit.inBlock,Exit.then])
 have M2:Lay _ w.heap.size _:=⟨n0,n1⟩
 refine ret_tok rfl M2.put7 rfl rfl ?_
 exact tk_ret (A:=A) (c:=c) rfl HB0.out (by simp) B2.out hO
set_option maxHeartbeats 1000000 in
set_option maxRecDepth 100000 in
theorem next0_c (s raw:ByteArray) (a:Nat) (hs:s.size≤65536) (ha:a<s.size) (hr:raw.size=0) (h1:a+1<s.size) (h60:((s[a].toNat:Int) != 60)=false) (hl1:(small (s[a+1].toNat:Int)||great (s[a+1].toNat:Int))=false) (h47:((s[a+1].toNat:Int)==47)=true) (h2:a+2<s.size) (hl2:(small (s[a+2].toNat:Int)||great (s[a+2].toNat:Int))=true) (w:World):
 Calls Tryz.prog 72 #[.string s,.int .i64 (a:Int),.string raw] w fun e w'=>TkOut w.heap.size (closeTk s a) e w'∧Below w.heap.size w w':=by
 have hrl:raw.toList=[]:=by rw[←List.length_eq_zero_iff,ByteArray.toList_eq,Array.length_toList];exact hr
 have he1:((a:Int)+1==(s.size:Int))=false:=by simp;omega
 have HL1:=Lib.hid (l04Letter_any (s[a+1].toNat:Int))
 rw[hl1]at HL1
 clear hl1
 have HL2:=Lib.hid (l04Letter_any (s[a+2].toNat:Int))
 rw[hl2]at HL2
 clear hl2
 have e47:(s[a+1].toNat:Int)=47:=by simpa using h47
 have h33:((s[a+1].toNat:Int)==33)=false:=by rw[e47];rfl
 have h63:((s[a+1].toNat:Int)==63)=false:=by rw[e47];rfl
 clear e47
 have HO:=Lib.hid (l04Close_any s a hs (by omega))
 rw[closeTk_val]at HO
 have hal:=closeTk_al s a
 generalize closeTk s a=OP at HO hal ⊢
 obtain ⟨ok,oa,ol,on,ot,oal,os⟩:=OP
 simp only at hal
 subst hal
 have LZ:=Lib.hid (tok_zero w)
 have HB0:=Lib.hid ((Below.refl w.heap.size w).alloc (Nat.le_refl _) (.cells #[.int .i64 0,.int .i64 0,.int .i64 0,.string ⟨#[]⟩,.string ⟨#[]⟩,.slice none 0 0,.bool false] 88))
 go_enter Tryz.func72,Tryz.ntmps72
 go_wp2_with (first | (go_at_call 123;have hP:=P1;refine (HL2.out _).mono ?_;rintro e w' ⟨rfl,rfl⟩) | (go_at_call 123;refine (HL1.out _).mono ?_;rintro e w' ⟨rfl,rfl⟩;have P1:=trivial) | (go_at_call 125;refine (HO.out _).mono ?_;rintro e w2 ⟨rfl,hB2⟩;unfold Tk.val;dsimp only;have L2:=LZ.out.below hB2 (by simp);have n0:=L2.1;have n1:=L2.2;clear L2;have B2:=Lib.hid hB2;clear hB2))
 (try simp only[Exit.inBlock,Exit.then])
 have M2:Lay _ w.heap.size _:=⟨n0,n1⟩
 refine ret_tok rfl M2.put7 rfl rfl ?_
 exact tk_ret (A:=none) (c:=0) rfl HB0.out (by simp) B2.out AOwn.nil
set_option maxHeartbeats 1000000 in
set_option maxRecDepth 100000 in
theorem next0_r1 (s raw:ByteArray) (a:Nat) (hs:s.size≤65536) (ha:a<s.size) (hr:raw.size=0) (h1:a+1<s.size) (h60:((s[a].toNat:Int) != 60)=false) (hl1:(small (s[a+1].toNat:Int)||great (s[a+1].toNat:Int))=false) (h47:((s[a+1].toNat:Int)==47)=true) (h2:a+2<s.size) (hl2:(small (s[a+2].toNat:Int)||great (s[a+2].toNat:Int))=false) (h4:a+4≤s.size) (w:World):
 Calls Tryz.prog 72 #[.string s,.int .i64 (a:Int),.string raw] w fun e w'=>TkOut w.heap.size (commentTk s gtS a (a+2)) e w'∧Below w.heap.size w w':=by
 have hrl:raw.toList=[]:=by rw[←List.length_eq_zero_iff,ByteArray.toList_eq,Array.length_toList];exact hr
 have he1:((a:Int)+1==(s.size:Int))=false:=by simp;omega
 have HL1:=Lib.hid (l04Letter_any (s[a+1].toNat:Int))
 rw[hl1]at HL1
 clear hl1
 have HL2:=Lib.hid (l04Letter_any (s[a+2].toNat:Int))
 rw[hl2]at HL2
 clear hl2
 have e47:(s[a+1].toNat:Int)=47:=by simpa using h47
 have h33:((s[a+1].toNat:Int)==33)=false:=by rw[e47];rfl
 have h63:((s[a+1].toNat:Int)==63)=false:=by rw[e47];rfl
 have hc4:((s.extract a (a+4)).toList==[60,33,45,45])=false:=cm_no h4 h1 (by omega)
 clear e47
 have LZ:=Lib.hid (tok_zero w)
 have HB0:=Lib.hid ((Below.refl w.heap.size w).alloc (Nat.le_refl _) (.cells #[.int .i64 0,.int .i64 0,.int .i64 0,.string ⟨#[]⟩,.string ⟨#[]⟩,.slice none 0 0,.bool false] 88))
 go_enter Tryz.func72,Tryz.ntmps72
 go_wp2_with (first | (go_at_call 123;have hP:=P1;refine (HL2.out _).mono ?_;rintro e w' ⟨rfl,rfl⟩) | (go_at_call 123;refine (HL1.out _).mono ?_;rintro e w' ⟨rfl,rfl⟩;have P1:=trivial) | (go_at_call 126;refine (l04Comment_any s gtS a (a+2) hs (by decide) (by omega) (by omega) _).mono ?_;rintro e w2 ⟨rfl,hB2⟩;unfold tokA;have L2:=LZ.out.below hB2 (by simp);have n0:=L2.1;have n1:=L2.2;clear L2;have B2:=Lib.hid hB2;clear hB2))
 (try simp only[Exit.inBlock,Exit.then])
 have M2:Lay _ w.heap.size _:=⟨n0,n1⟩
 refine ret_tok rfl M2.put7 rfl rfl ?_
 exact tk_ret (A:=none) (c:=0) rfl HB0.out (by simp) B2.out AOwn.nil
set_option maxHeartbeats 1000000 in
set_option maxRecDepth 100000 in
theorem next0_r2 (s raw:ByteArray) (a:Nat) (hs:s.size≤65536) (ha:a<s.size) (hr:raw.size=0) (h1:a+1<s.size) (h60:((s[a].toNat:Int) != 60)=false) (hl1:(small (s[a+1].toNat:Int)||great (s[a+1].toNat:Int))=false) (h47:((s[a+1].toNat:Int)==47)=true) (h2:a+2<s.size) (hl2:(small (s[a+2].toNat:Int)||great (s[a+2].toNat:Int))=false) (hn4:¬a+4≤s.size) (w:World):
 Calls Tryz.prog 72 #[.string s,.int .i64 (a:Int),.string raw] w fun e w'=>TkOut w.heap.size (commentTk s gtS a (a+2)) e w'∧Below w.heap.size w w':=by
 have hrl:raw.toList=[]:=by rw[←List.length_eq_zero_iff,ByteArray.toList_eq,Array.length_toList];exact hr
 have he1:((a:Int)+1==(s.size:Int))=false:=by simp;omega
 have HL1:=Lib.hid (l04Letter_any (s[a+1].toNat:Int))
 rw[hl1]at HL1
 clear hl1
 have HL2:=Lib.hid (l04Letter_any (s[a+2].toNat:Int))
 rw[hl2]at HL2
 clear hl2
 have e47:(s[a+1].toNat:Int)=47:=by simpa using h47
 have h33:((s[a+1].toNat:Int)==33)=false:=by rw[e47];rfl
 have h63:((s[a+1].toNat:Int)==63)=false:=by rw[e47];rfl
 clear e47
 have LZ:=Lib.hid (tok_zero w)
 have HB0:=Lib.hid ((Below.refl w.heap.size w).alloc (Nat.le_refl _) (.cells #[.int .i64 0,.int .i64 0,.int .i64 0,.string ⟨#[]⟩,.string ⟨#[]⟩,.slice none 0 0,.bool false] 88))
 go_enter Tryz.func72,Tryz.ntmps72
 go_wp2_with (first | (go_at_call 123;have hP:=P1;refine (HL2.out _).mono ?_;rintro e w' ⟨rfl,rfl⟩) | (go_at_call 123;refine (HL1.out _).mono ?_;rintro e w' ⟨rfl,rfl⟩;have P1:=trivial) | (go_at_call 126;refine (l04Comment_any s gtS a (a+2) hs (by decide) (by omega) (by omega) _).mono ?_;rintro e w2 ⟨rfl,hB2⟩;unfold tokA;have L2:=LZ.out.below hB2 (by simp);have n0:=L2.1;have n1:=L2.2;clear L2;have B2:=Lib.hid hB2;clear hB2))
 (try simp only[Exit.inBlock,Exit.then])
 have M2:Lay _ w.heap.size _:=⟨n0,n1⟩
 refine ret_tok rfl M2.put7 rfl rfl ?_
 exact tk_ret (A:=none) (c:=0) rfl HB0.out (by simp) B2.out AOwn.nil
set_option maxHeartbeats 1000000 in
set_option maxRecDepth 100000 in
theorem next0_r3 (s raw:ByteArray) (a:Nat) (hs:s.size≤65536) (ha:a<s.size) (hr:raw.size=0) (h1:a+1<s.size) (h60:((s[a].toNat:Int) != 60)=false) (hl1:(small (s[a+1].toNat:Int)||great (s[a+1].toNat:Int))=false) (h47:((s[a+1].toNat:Int)==47)=true) (hn2:¬a+2<s.size) (w:World):
 Calls Tryz.prog 72 #[.string s,.int .i64 (a:Int),.string raw] w fun e w'=>TkOut w.heap.size (commentTk s gtS a (a+2)) e w'∧Below w.heap.size w w':=by
 have hrl:raw.toList=[]:=by rw[←List.length_eq_zero_iff,ByteArray.toList_eq,Array.length_toList];exact hr
 have he1:((a:Int)+1==(s.size:Int))=false:=by simp;omega
 have HL1:=Lib.hid (l04Letter_any (s[a+1].toNat:Int))
 rw[hl1]at HL1
 clear hl1
 have e47:(s[a+1].toNat:Int)=47:=by simpa using h47
 have h33:((s[a+1].toNat:Int)==33)=false:=by rw[e47];rfl
 have h63:((s[a+1].toNat:Int)==63)=false:=by rw[e47];rfl
 have hn4:¬a+4≤s.size:=by omega
 clear e47
 have LZ:=Lib.hid (tok_zero w)
 have HB0:=Lib.hid ((Below.refl w.heap.size w).alloc (Nat.le_refl _) (.cells #[.int .i64 0,.int .i64 0,.int .i64 0,.string ⟨#[]⟩,.string ⟨#[]⟩,.slice none 0 0,.bool false] 88))
 go_enter Tryz.func72,Tryz.ntmps72
 go_wp2_with (first | (go_at_call 123;refine (HL1.out _).mono ?_;rintro e w' ⟨rfl,rfl⟩) | (go_at_call 126;refine (l04Comment_any s gtS a (a+2) hs (by decide) (by omega) (by omega) _).mono ?_;rintro e w2 ⟨rfl,hB2⟩;unfold tokA;have L2:=LZ.out.below hB2 (by simp);have n0:=L2.1;have n1:=L2.2;clear L2;have B2:=Lib.hid hB2;clear hB2))
 (try simp only[Exit.inBlock,Exit.then])
 have M2:Lay _ w.heap.size _:=⟨n0,n1⟩
 refine ret_tok rfl M2.put7 rfl rfl ?_
 exact tk_ret (A:=none) (c:=0) rfl HB0.out (by simp) B2.out AOwn.nil
set_option maxHeartbeats 1000000 in
set_option maxRecDepth 100000 in
theorem next0_m (s raw:ByteArray) (a:Nat) (hs:s.size≤65536) (ha:a<s.size) (hr:raw.size=0) (h1:a+1<s.size) (h60:((s[a].toNat:Int) != 60)=false) (hl1:(small (s[a+1].toNat:Int)||great (s[a+1].toNat:Int))=false) (h47:((s[a+1].toNat:Int)==47)=false) (h4:a+4≤s.size) (hc4:((s.extract a (a+4)).toList==[60,33,45,45])=true) (w:World):
 Calls Tryz.prog 72 #[.string s,.int .i64 (a:Int),.string raw] w fun e w'=>TkOut w.heap.size (commentTk s endS a (a+4)) e w'∧Below w.heap.size w w':=by
 have hrl:raw.toList=[]:=by rw[←List.length_eq_zero_iff,ByteArray.toList_eq,Array.length_toList];exact hr
 have he1:((a:Int)+1==(s.size:Int))=false:=by simp;omega
 have HL1:=Lib.hid (l04Letter_any (s[a+1].toNat:Int))
 rw[hl1]at HL1
 clear hl1
 have LZ:=Lib.hid (tok_zero w)
 have HB0:=Lib.hid ((Below.refl w.heap.size w).alloc (Nat.le_refl _) (.cells #[.int .i64 0,.int .i64 0,.int .i64 0,.string ⟨#[]⟩,.string ⟨#[]⟩,.slice none 0 0,.bool false] 88))
 go_enter Tryz.func72,Tryz.ntmps72
 go_wp2_with (first | (go_at_call 123;refine (HL1.out _).mono ?_;rintro e w' ⟨rfl,rfl⟩) | (go_at_call 126;refine (l04Comment_any s endS a (a+4) hs (by decide) (by omega) (by omega) _).mono ?_;rintro e w2 ⟨rfl,hB2⟩;unfold tokA;have L2:=LZ.out.below hB2 (by simp);have n0:=L2.1;have n1:=L2.2;clear L2;have B2:=Lib.hid hB2;clear hB2))
 (try simp only[Exit.inBlock,Exit.then])
 have M2:Lay _ w.heap.size _:=⟨n0,n1⟩
 refine ret_tok rfl M2.put7 rfl rfl ?_
 exact tk_ret (A:=none) (c:=0) rfl HB0.out (by simp) B2.out AOwn.nil
set_option maxHeartbeats 1000000 in
set_option maxRecDepth 100000 in
theorem next0_r4 (s raw:ByteArray) (a:Nat) (hs:s.size≤65536) (ha:a<s.size) (hr:raw.size=0) (h1:a+1<s.size) (h60:((s[a].toNat:Int) != 60)=false) (hl1:(small (s[a+1].toNat:Int)||great (s[a+1].toNat:Int))=false) (h47:((s[a+1].toNat:Int)==47)=false) (h4:a+4≤s.size) (hc4:((s.extract a (a+4)).toList==[60,33,45,45])=false) (h33:((s[a+1].toNat:Int)==33)=true) (w:World):
 Calls Tryz.prog 72 #[.string s,.int .i64 (a:Int),.string raw] w fun e w'=>TkOut w.heap.size (commentTk s gtS a (a+2)) e w'∧Below w.heap.size w w':=by
 have hrl:raw.toList=[]:=by rw[←List.length_eq_zero_iff,ByteArray.toList_eq,Array.length_toList];exact hr
 have he1:((a:Int)+1==(s.size:Int))=false:=by simp;omega
 have HL1:=Lib.hid (l04Letter_any (s[a+1].toNat:Int))
 rw[hl1]at HL1
 clear hl1
 have LZ:=Lib.hid (tok_zero w)
 have HB0:=Lib.hid ((Below.refl w.heap.size w).alloc (Nat.le_refl _) (.cells #[.int .i64 0,.int .i64 0,.int .i64 0,.string ⟨#[]⟩,.string ⟨#[]⟩,.slice none 0 0,.bool false] 88))
 go_enter Tryz.func72,Tryz.ntmps72
 go_wp2_with (first | (go_at_call 123;refine (HL1.out _).mono ?_;rintro e w' ⟨rfl,rfl⟩) | (go_at_call 126;refine (l04Comment_any s gtS a (a+2) hs (by decide) (by omega) (by omega) _).mono ?_;rintro e w2 ⟨rfl,hB2⟩;unfold tokA;have L2:=LZ.out.below hB2 (by simp);have n0:=L2.1;have n1:=L2.2;clear L2;have B2:=Lib.hid hB2;clear hB2))
 (try simp only[Exit.inBlock,Exit.then])
 have M2:Lay _ w.heap.size _:=⟨n0,n1⟩
 refine ret_tok rfl M2.put7 rfl rfl ?_
 exact tk_ret (A:=none) (c:=0) rfl HB0.out (by simp) B2.out AOwn.nil
set_option maxHeartbeats 1000000 in
set_option maxRecDepth 100000 in
theorem next0_r5 (s raw:ByteArray) (a:Nat) (hs:s.size≤65536) (ha:a<s.size) (hr:raw.size=0) (h1:a+1<s.size) (h60:((s[a].toNat:Int) != 60)=false) (hl1:(small (s[a+1].toNat:Int)||great (s[a+1].toNat:Int))=false) (h47:((s[a+1].toNat:Int)==47)=false) (h4:a+4≤s.size) (hc4:((s.extract a (a+4)).toList==[60,33,45,45])=false) (h33:((s[a+1].toNat:Int)==33)=false) (h63:((s[a+1].toNat:Int)==63)=true) (w:World):
 Calls Tryz.prog 72 #[.string s,.int .i64 (a:Int),.string raw] w fun e w'=>TkOut w.heap.size (commentTk s gtS a (a+2)) e w'∧Below w.heap.size w w':=by
 have hrl:raw.toList=[]:=by rw[←List.length_eq_zero_iff,ByteArray.toList_eq,Array.length_toList];exact hr
 have he1:((a:Int)+1==(s.size:Int))=false:=by simp;omega
 have HL1:=Lib.hid (l04Letter_any (s[a+1].toNat:Int))
 rw[hl1]at HL1
 clear hl1
 have LZ:=Lib.hid (tok_zero w)
 have HB0:=Lib.hid ((Below.refl w.heap.size w).alloc (Nat.le_refl _) (.cells #[.int .i64 0,.int .i64 0,.int .i64 0,.string ⟨#[]⟩,.string ⟨#[]⟩,.slice none 0 0,.bool false] 88))
 go_enter Tryz.func72,Tryz.ntmps72
 go_wp2_with (first | (go_at_call 123;refine (HL1.out _).mono ?_;rintro e w' ⟨rfl,rfl⟩) | (go_at_call 126;refine (l04Comment_any s gtS a (a+2) hs (by decide) (by omega) (by omega) _).mono ?_;rintro e w2 ⟨rfl,hB2⟩;unfold tokA;have L2:=LZ.out.below hB2 (by simp);have n0:=L2.1;have n1:=L2.2;clear L2;have B2:=Lib.hid hB2;clear hB2))
 (try simp only[Exit.inBlock,Exit.then])
 have M2:Lay _ w.heap.size _:=⟨n0,n1⟩
 refine ret_tok rfl M2.put7 rfl rfl ?_
 exact tk_ret (A:=none) (c:=0) rfl HB0.out (by simp) B2.out AOwn.nil
set_option maxHeartbeats 1000000 in
set_option maxRecDepth 100000 in
theorem next0_w4 (s raw:ByteArray) (a:Nat) (hs:s.size≤65536) (ha:a<s.size) (hr:raw.size=0) (h1:a+1<s.size) (h60:((s[a].toNat:Int) != 60)=false) (hl1:(small (s[a+1].toNat:Int)||great (s[a+1].toNat:Int))=false) (h47:((s[a+1].toNat:Int)==47)=false) (h4:a+4≤s.size) (hc4:((s.extract a (a+4)).toList==[60,33,45,45])=false) (h33:((s[a+1].toNat:Int)==33)=false) (h63:((s[a+1].toNat:Int)==63)=false) (w:World):
 Calls Tryz.prog 72 #[.string s,.int .i64 (a:Int),.string raw] w fun e w'=>TkOut w.heap.size (wordsTk s a) e w'∧Below w.heap.size w w':=by
 have hrl:raw.toList=[]:=by rw[←List.length_eq_zero_iff,ByteArray.toList_eq,Array.length_toList];exact hr
 have he1:((a:Int)+1==(s.size:Int))=false:=by simp;omega
 have HL1:=Lib.hid (l04Letter_any (s[a+1].toNat:Int))
 rw[hl1]at HL1
 clear hl1
 have LZ:=Lib.hid (tok_zero w)
 have HB0:=Lib.hid ((Below.refl w.heap.size w).alloc (Nat.le_refl _) (.cells #[.int .i64 0,.int .i64 0,.int .i64 0,.string ⟨#[]⟩,.string ⟨#[]⟩,.slice none 0 0,.bool false] 88))
 go_enter Tryz.func72,Tryz.ntmps72
 go_wp2_with (first | (go_at_call 123;refine (HL1.out _).mono ?_;rintro e w' ⟨rfl,rfl⟩) | (go_at_call 122;refine (l04Words_any s a hs ha _).mono ?_;rintro e w2 ⟨rfl,hB2⟩;unfold tokA;have L2:=LZ.out.below hB2 (by simp);have n0:=L2.1;have n1:=L2.2;clear L2;have B2:=Lib.hid hB2;clear hB2))
 (try simp only[Exit.inBlock,Exit.then])
 have M2:Lay _ w.heap.size _:=⟨n0,n1⟩
 refine ret_tok rfl M2.put7 rfl rfl ?_
 exact tk_ret (A:=none) (c:=0) rfl HB0.out (by simp) B2.out AOwn.nil
set_option maxHeartbeats 1000000 in
set_option maxRecDepth 100000 in
theorem next0_r6 (s raw:ByteArray) (a:Nat) (hs:s.size≤65536) (ha:a<s.size) (hr:raw.size=0) (h1:a+1<s.size) (h60:((s[a].toNat:Int) != 60)=false) (hl1:(small (s[a+1].toNat:Int)||great (s[a+1].toNat:Int))=false) (h47:((s[a+1].toNat:Int)==47)=false) (hn4:¬a+4≤s.size) (h33:((s[a+1].toNat:Int)==33)=true) (w:World):
 Calls Tryz.prog 72 #[.string s,.int .i64 (a:Int),.string raw] w fun e w'=>TkOut w.heap.size (commentTk s gtS a (a+2)) e w'∧Below w.heap.size w w':=by
 have hrl:raw.toList=[]:=by rw[←List.length_eq_zero_iff,ByteArray.toList_eq,Array.length_toList];exact hr
 have he1:((a:Int)+1==(s.size:Int))=false:=by simp;omega
 have HL1:=Lib.hid (l04Letter_any (s[a+1].toNat:Int))
 rw[hl1]at HL1
 clear hl1
 have LZ:=Lib.hid (tok_zero w)
 have HB0:=Lib.hid ((Below.refl w.heap.size w).alloc (Nat.le_refl _) (.cells #[.int .i64 0,.int .i64 0,.int .i64 0,.string ⟨#[]⟩,.string ⟨#[]⟩,.slice none 0 0,.bool false] 88))
 go_enter Tryz.func72,Tryz.ntmps72
 go_wp2_with (first | (go_at_call 123;refine (HL1.out _).mono ?_;rintro e w' ⟨rfl,rfl⟩) | (go_at_call 126;refine (l04Comment_any s gtS a (a+2) hs (by decide) (by omega) (by omega) _).mono ?_;rintro e w2 ⟨rfl,hB2⟩;unfold tokA;have L2:=LZ.out.below hB2 (by simp);have n0:=L2.1;have n1:=L2.2;clear L2;have B2:=Lib.hid hB2;clear hB2))
 (try simp only[Exit.inBlock,Exit.then])
 have M2:Lay _ w.heap.size _:=⟨n0,n1⟩
 refine ret_tok rfl M2.put7 rfl rfl ?_
 exact tk_ret (A:=none) (c:=0) rfl HB0.out (by simp) B2.out AOwn.nil
set_option maxHeartbeats 1000000 in
set_option maxRecDepth 100000 in
theorem next0_r7 (s raw:ByteArray) (a:Nat) (hs:s.size≤65536) (ha:a<s.size) (hr:raw.size=0) (h1:a+1<s.size) (h60:((s[a].toNat:Int) != 60)=false) (hl1:(small (s[a+1].toNat:Int)||great (s[a+1].toNat:Int))=false) (h47:((s[a+1].toNat:Int)==47)=false) (hn4:¬a+4≤s.size) (h33:((s[a+1].toNat:Int)==33)=false) (h63:((s[a+1].toNat:Int)==63)=true) (w:World):
 Calls Tryz.prog 72 #[.string s,.int .i64 (a:Int),.string raw] w fun e w'=>TkOut w.heap.size (commentTk s gtS a (a+2)) e w'∧Below w.heap.size w w':=by
 have hrl:raw.toList=[]:=by rw[←List.length_eq_zero_iff,ByteArray.toList_eq,Array.length_toList];exact hr
 have he1:((a:Int)+1==(s.size:Int))=false:=by simp;omega
 have HL1:=Lib.hid (l04Letter_any (s[a+1].toNat:Int))
 rw[hl1]at HL1
 clear hl1
 have LZ:=Lib.hid (tok_zero w)
 have HB0:=Lib.hid ((Below.refl w.heap.size w).alloc (Nat.le_refl _) (.cells #[.int .i64 0,.int .i64 0,.int .i64 0,.string ⟨#[]⟩,.string ⟨#[]⟩,.slice none 0 0,.bool false] 88))
 go_enter Tryz.func72,Tryz.ntmps72
 go_wp2_with (first | (go_at_call 123;refine (HL1.out _).mono ?_;rintro e w' ⟨rfl,rfl⟩) | (go_at_call 126;refine (l04Comment_any s gtS a (a+2) hs (by decide) (by omega) (by omega) _).mono ?_;rintro e w2 ⟨rfl,hB2⟩;unfold tokA;have L2:=LZ.out.below hB2 (by simp);have n0:=L2.1;have n1:=L2.2;clear L2;have B2:=Lib.hid hB2;clear hB2))
 (try simp only[Exit.inBlock,Exit.then])
 have M2:Lay _ w.heap.size _:=⟨n0,n1⟩
 refine ret_tok rfl M2.put7 rfl rfl ?_
 exact tk_ret (A:=none) (c:=0) rfl HB0.out (by simp) B2.out AOwn.nil
set_option maxHeartbeats 1000000 in
set_option maxRecDepth 100000 in
theorem next0_w5 (s raw:ByteArray) (a:Nat) (hs:s.size≤65536) (ha:a<s.size) (hr:raw.size=0) (h1:a+1<s.size) (h60:((s[a].toNat:Int) != 60)=false) (hl1:(small (s[a+1].toNat:Int)||great (s[a+1].toNat:Int))=false) (h47:((s[a+1].toNat:Int)==47)=false) (hn4:¬a+4≤s.size) (h33:((s[a+1].toNat:Int)==33)=false) (h63:((s[a+1].toNat:Int)==63)=false) (w:World):
 Calls Tryz.prog 72 #[.string s,.int .i64 (a:Int),.string raw] w fun e w'=>TkOut w.heap.size (wordsTk s a) e w'∧Below w.heap.size w w':=by
 have hrl:raw.toList=[]:=by rw[←List.length_eq_zero_iff,ByteArray.toList_eq,Array.length_toList];exact hr
 have he1:((a:Int)+1==(s.size:Int))=false:=by simp;omega
 have HL1:=Lib.hid (l04Letter_any (s[a+1].toNat:Int))
 rw[hl1]at HL1
 clear hl1
 have LZ:=Lib.hid (tok_zero w)
 have HB0:=Lib.hid ((Below.refl w.heap.size w).alloc (Nat.le_refl _) (.cells #[.int .i64 0,.int .i64 0,.int .i64 0,.string ⟨#[]⟩,.string ⟨#[]⟩,.slice none 0 0,.bool false] 88))
 go_enter Tryz.func72,Tryz.ntmps72
 go_wp2_with (first | (go_at_call 123;refine (HL1.out _).mono ?_;rintro e w' ⟨rfl,rfl⟩) | (go_at_call 122;refine (l04Words_any s a hs ha _).mono ?_;rintro e w2 ⟨rfl,hB2⟩;unfold tokA;have L2:=LZ.out.below hB2 (by simp);have n0:=L2.1;have n1:=L2.2;clear L2;have B2:=Lib.hid hB2;clear hB2))
 (try simp only[Exit.inBlock,Exit.then])
 have M2:Lay _ w.heap.size _:=⟨n0,n1⟩
 refine ret_tok rfl M2.put7 rfl rfl ?_
 exact tk_ret (A:=none) (c:=0) rfl HB0.out (by simp) B2.out AOwn.nil
end Go.Proofs.YthdkkpbhijlpaaaGreatDoor
namespace Go.Proofs.YthdkkpbhijlpaaaGreatDoor
open Go.ChangeShapes Go.WideShapes Go.ChangeAt Go.RowKit Go.Deep
set_option maxHeartbeats 1000000 in
set_option maxRecDepth 100000 in
theorem next1_w1 (s raw:ByteArray) (a:Nat) (hs:s.size≤65536) (ha:a<s.size) (hr:0<raw.size∧raw.size≤65536) (hk:rawEnd s raw a≤a) (h1:a+1<s.size) (h60:((s[a].toNat:Int) != 60)=true) (w:World):
 Calls Tryz.prog 72 #[.string s,.int .i64 (a:Int),.string raw] w fun e w'=>TkOut w.heap.size (wordsTk s a) e w'∧Below w.heap.size w w':=by
 have hr2:=hr.2
 have hrl:¬raw.toList=[]:=by rw[←List.length_eq_zero_iff,ByteArray.toList_eq,Array.length_toList];have:=hr.1;show ¬raw.size=0;omega
 have hrl2:raw.toList.isEmpty=false:=by simpa using hrl
 clear hr
 have he1:((a:Int)+1==(s.size:Int))=false:=by simp;omega
 have LZ:=Lib.hid (tok_zero w)
 have HB0:=Lib.hid ((Below.refl w.heap.size w).alloc (Nat.le_refl _) (.cells #[.int .i64 0,.int .i64 0,.int .i64 0,.string ⟨#[]⟩,.string ⟨#[]⟩,.slice none 0 0,.bool false] 88))
 go_enter Tryz.func72,Tryz.ntmps72
 go_wp2_with (first | (go_at_call 121;refine (l04RawEnd_any s raw a hs hr2 (by omega) _).mono ?_;rintro e w1 ⟨rfl,hB1⟩;have LZ1:=Lib.hid (LZ.out.below hB1 (by simp));have h01:=Lib.hid (show w.heap.size<w1.heap.size from Nat.lt_of_lt_of_le (by simp) hB1.size);have HB1:=Lib.hid (HB0.out.trans (hB1.mono (by simp)));clear hB1 LZ HB0) | (go_at_call 122;refine (l04Words_any s a hs ha _).mono ?_;rintro e w2 ⟨rfl,hB2⟩;unfold tokA;have L2:=LZ1.out.below hB2 h01.out;have n0:=L2.1;have n1:=L2.2;clear L2;have B2:=Lib.hid hB2;clear hB2))
 (try simp only[Exit.inBlock,Exit.then])
 have M2:Lay _ w.heap.size _:=⟨n0,n1⟩
 refine ret_tok rfl M2.put7 rfl rfl ?_
 exact tk_ret (A:=none) (c:=0) rfl HB1.out h01.out B2.out AOwn.nil
set_option maxHeartbeats 1000000 in
set_option maxRecDepth 100000 in
theorem next1_w2 (s raw:ByteArray) (a:Nat) (hs:s.size≤65536) (ha:a<s.size) (hr:0<raw.size∧raw.size≤65536) (hk:rawEnd s raw a≤a) (he1:a+1=s.size) (h60:((s[a].toNat:Int) != 60)=true) (w:World):
 Calls Tryz.prog 72 #[.string s,.int .i64 (a:Int),.string raw] w fun e w'=>TkOut w.heap.size (wordsTk s a) e w'∧Below w.heap.size w w':=by
 have hr2:=hr.2
 have hrl:¬raw.toList=[]:=by rw[←List.length_eq_zero_iff,ByteArray.toList_eq,Array.length_toList];have:=hr.1;show ¬raw.size=0;omega
 have hrl2:raw.toList.isEmpty=false:=by simpa using hrl
 clear hr
 have he2:((a:Int)+1==(s.size:Int))=true:=by simp;omega
 have LZ:=Lib.hid (tok_zero w)
 have HB0:=Lib.hid ((Below.refl w.heap.size w).alloc (Nat.le_refl _) (.cells #[.int .i64 0,.int .i64 0,.int .i64 0,.string ⟨#[]⟩,.string ⟨#[]⟩,.slice none 0 0,.bool false] 88))
 go_enter Tryz.func72,Tryz.ntmps72
 go_wp2_with (first | (go_at_call 121;refine (l04RawEnd_any s raw a hs hr2 (by omega) _).mono ?_;rintro e w1 ⟨rfl,hB1⟩;have LZ1:=Lib.hid (LZ.out.below hB1 (by simp));have h01:=Lib.hid (show w.heap.size<w1.heap.size from Nat.lt_of_lt_of_le (by simp) hB1.size);have HB1:=Lib.hid (HB0.out.trans (hB1.mono (by simp)));clear hB1 LZ HB0) | (go_at_call 122;refine (l04Words_any s a hs ha _).mono ?_;rintro e w2 ⟨rfl,hB2⟩;unfold tokA;have L2:=LZ1.out.below hB2 h01.out;have n0:=L2.1;have n1:=L2.2;clear L2;have B2:=Lib.hid hB2;clear hB2))
 (try simp only[Exit.inBlock,Exit.then])
 have M2:Lay _ w.heap.size _:=⟨n0,n1⟩
 refine ret_tok rfl M2.put7 rfl rfl ?_
 exact tk_ret (A:=none) (c:=0) (by rw[←he1];rfl) HB1.out h01.out B2.out AOwn.nil
set_option maxHeartbeats 1000000 in
set_option maxRecDepth 100000 in
theorem next1_w3 (s raw:ByteArray) (a:Nat) (hs:s.size≤65536) (ha:a<s.size) (hr:0<raw.size∧raw.size≤65536) (hk:rawEnd s raw a≤a) (he1:a+1=s.size) (h60:((s[a].toNat:Int) != 60)=false) (w:World):
 Calls Tryz.prog 72 #[.string s,.int .i64 (a:Int),.string raw] w fun e w'=>TkOut w.heap.size (wordsTk s a) e w'∧Below w.heap.size w w':=by
 have hr2:=hr.2
 have hrl:¬raw.toList=[]:=by rw[←List.length_eq_zero_iff,ByteArray.toList_eq,Array.length_toList];have:=hr.1;show ¬raw.size=0;omega
 have hrl2:raw.toList.isEmpty=false:=by simpa using hrl
 clear hr
 have he2:((a:Int)+1==(s.size:Int))=true:=by simp;omega
 have LZ:=Lib.hid (tok_zero w)
 have HB0:=Lib.hid ((Below.refl w.heap.size w).alloc (Nat.le_refl _) (.cells #[.int .i64 0,.int .i64 0,.int .i64 0,.string ⟨#[]⟩,.string ⟨#[]⟩,.slice none 0 0,.bool false] 88))
 go_enter Tryz.func72,Tryz.ntmps72
 go_wp2_with (first | (go_at_call 121;refine (l04RawEnd_any s raw a hs hr2 (by omega) _).mono ?_;rintro e w1 ⟨rfl,hB1⟩;have LZ1:=Lib.hid (LZ.out.below hB1 (by simp));have h01:=Lib.hid (show w.heap.size<w1.heap.size from Nat.lt_of_lt_of_le (by simp) hB1.size);have HB1:=Lib.hid (HB0.out.trans (hB1.mono (by simp)));clear hB1 LZ HB0) | (go_at_call 122;refine (l04Words_any s a hs ha _).mono ?_;rintro e w2 ⟨rfl,hB2⟩;unfold tokA;have L2:=LZ1.out.below hB2 h01.out;have n0:=L2.1;have n1:=L2.2;clear L2;have B2:=Lib.hid hB2;clear hB2))
 (try simp only[Exit.inBlock,Exit.then])
 have M2:Lay _ w.heap.size _:=⟨n0,n1⟩
 refine ret_tok rfl M2.put7 rfl rfl ?_
 exact tk_ret (A:=none) (c:=0) (by rw[←he1];rfl) HB1.out h01.out B2.out AOwn.nil
set_option maxHeartbeats 1000000 in
set_option maxRecDepth 100000 in
theorem next1_o (s raw:ByteArray) (a:Nat) (hs:s.size≤65536) (ha:a<s.size) (hr:0<raw.size∧raw.size≤65536) (hk:rawEnd s raw a≤a) (h1:a+1<s.size) (h60:((s[a].toNat:Int) != 60)=false) (hl1:(small (s[a+1].toNat:Int)||great (s[a+1].toNat:Int))=true) (w:World):
 Calls Tryz.prog 72 #[.string s,.int .i64 (a:Int),.string raw] w fun e w'=>TkOut w.heap.size (openOf s a) e w'∧Below w.heap.size w w':=by
 have hr2:=hr.2
 have hrl:¬raw.toList=[]:=by rw[←List.length_eq_zero_iff,ByteArray.toList_eq,Array.length_toList];have:=hr.1;show ¬raw.size=0;omega
 have hrl2:raw.toList.isEmpty=false:=by simpa using hrl
 clear hr
 have he1:((a:Int)+1==(s.size:Int))=false:=by simp;omega
 have HL1:=Lib.hid (l04Letter_any (s[a+1].toNat:Int))
 rw[hl1]at HL1
 clear hl1
 have HO:=Lib.hid (l04Open_any s a hs ha)
 generalize openOf s a=OP at HO ⊢
 obtain ⟨ok,oa,ol,on,ot,oal,os⟩:=OP
 have LZ:=Lib.hid (tok_zero w)
 have HB0:=Lib.hid ((Below.refl w.heap.size w).alloc (Nat.le_refl _) (.cells #[.int .i64 0,.int .i64 0,.int .i64 0,.string ⟨#[]⟩,.string ⟨#[]⟩,.slice none 0 0,.bool false] 88))
 go_enter Tryz.func72,Tryz.ntmps72
 go_wp2_with (first | (go_at_call 121;refine (l04RawEnd_any s raw a hs hr2 (by omega) _).mono ?_;rintro e w1 ⟨rfl,hB1⟩;have LZ1:=Lib.hid (LZ.out.below hB1 (by simp));have h01:=Lib.hid (show w.heap.size<w1.heap.size from Nat.lt_of_lt_of_le (by simp) hB1.size);have HB1:=Lib.hid (HB0.out.trans (hB1.mono (by simp)));clear hB1 LZ HB0) | (go_at_call 123;refine (HL1.out _).mono ?_;rintro e w' ⟨rfl,rfl⟩) | (go_at_call 124;refine (HO.out _).mono ?_;rintro e w2 ⟨⟨A,c,rfl,hO⟩,hB2⟩;unfold Tk.val;dsimp only;have L2:=LZ1.out.below hB2 h01.out;have n0:=L2.1;have n1:=L2.2;clear L2;have B2:=Lib.hid hB2;clear hB2))
 (try simp only[Exit.inBlock,Exit.then])
 have M2:Lay _ w.heap.size _:=⟨n0,n1⟩
 refine ret_tok rfl M2.put7 rfl rfl ?_
 exact tk_ret (A:=A) (c:=c) rfl HB1.out h01.out B2.out hO
set_option maxHeartbeats 1000000 in
set_option maxRecDepth 100000 in
theorem next1_c (s raw:ByteArray) (a:Nat) (hs:s.size≤65536) (ha:a<s.size) (hr:0<raw.size∧raw.size≤65536) (hk:rawEnd s raw a≤a) (h1:a+1<s.size) (h60:((s[a].toNat:Int) != 60)=false) (hl1:(small (s[a+1].toNat:Int)||great (s[a+1].toNat:Int))=false) (h47:((s[a+1].toNat:Int)==47)=true) (h2:a+2<s.size) (hl2:(small (s[a+2].toNat:Int)||great (s[a+2].toNat:Int))=true) (w:World):
 Calls Tryz.prog 72 #[.string s,.int .i64 (a:Int),.string raw] w fun e w'=>TkOut w.heap.size (closeTk s a) e w'∧Below w.heap.size w w':=by
 have hr2:=hr.2
 have hrl:¬raw.toList=[]:=by rw[←List.length_eq_zero_iff,ByteArray.toList_eq,Array.length_toList];have:=hr.1;show ¬raw.size=0;omega
 have hrl2:raw.toList.isEmpty=false:=by simpa using hrl
 clear hr
 have he1:((a:Int)+1==(s.size:Int))=false:=by simp;omega
 have HL1:=Lib.hid (l04Letter_any (s[a+1].toNat:Int))
 rw[hl1]at HL1
 clear hl1
 have HL2:=Lib.hid (l04Letter_any (s[a+2].toNat:Int))
 rw[hl2]at HL2
 clear hl2
 have e47:(s[a+1].toNat:Int)=47:=by simpa using h47
 have h33:((s[a+1].toNat:Int)==33)=false:=by rw[e47];rfl
 have h63:((s[a+1].toNat:Int)==63)=false:=by rw[e47];rfl
 clear e47
 have HO:=Lib.hid (l04Close_any s a hs (by omega))
 rw[closeTk_val]at HO
 have hal:=closeTk_al s a
 generalize closeTk s a=OP at HO hal ⊢
 obtain ⟨ok,oa,ol,on,ot,oal,os⟩:=OP
 simp only at hal
 subst hal
 have LZ:=Lib.hid (tok_zero w)
 have HB0:=Lib.hid ((Below.refl w.heap.size w).alloc (Nat.le_refl _) (.cells #[.int .i64 0,.int .i64 0,.int .i64 0,.string ⟨#[]⟩,.string ⟨#[]⟩,.slice none 0 0,.bool false] 88))
 go_enter Tryz.func72,Tryz.ntmps72
 go_wp2_with (first | (go_at_call 121;refine (l04RawEnd_any s raw a hs hr2 (by omega) _).mono ?_;rintro e w1 ⟨rfl,hB1⟩;have LZ1:=Lib.hid (LZ.out.below hB1 (by simp));have h01:=Lib.hid (show w.heap.size<w1.heap.size from Nat.lt_of_lt_of_le (by simp) hB1.size);have HB1:=Lib.hid (HB0.out.trans (hB1.mono (by simp)));clear hB1 LZ HB0) | (go_at_call 123;have hP:=P1;refine (HL2.out _).mono ?_;rintro e w' ⟨rfl,rfl⟩) | (go_at_call 123;refine (HL1.out _).mono ?_;rintro e w' ⟨rfl,rfl⟩;have P1:=trivial) | (go_at_call 125;refine (HO.out _).mono ?_;rintro e w2 ⟨rfl,hB2⟩;unfold Tk.val;dsimp only;have L2:=LZ1.out.below hB2 h01.out;have n0:=L2.1;have n1:=L2.2;clear L2;have B2:=Lib.hid hB2;clear hB2))
 (try simp only[Exit.inBlock,Exit.then])
 have M2:Lay _ w.heap.size _:=⟨n0,n1⟩
 refine ret_tok rfl M2.put7 rfl rfl ?_
 exact tk_ret (A:=none) (c:=0) rfl HB1.out h01.out B2.out AOwn.nil
set_option maxHeartbeats 1000000 in
set_option maxRecDepth 100000 in
theorem next1_r1 (s raw:ByteArray) (a:Nat) (hs:s.size≤65536) (ha:a<s.size) (hr:0<raw.size∧raw.size≤65536) (hk:rawEnd s raw a≤a) (h1:a+1<s.size) (h60:((s[a].toNat:Int) != 60)=false) (hl1:(small (s[a+1].toNat:Int)||great (s[a+1].toNat:Int))=false) (h47:((s[a+1].toNat:Int)==47)=true) (h2:a+2<s.size) (hl2:(small (s[a+2].toNat:Int)||great (s[a+2].toNat:Int))=false) (h4:a+4≤s.size) (w:World):
 Calls Tryz.prog 72 #[.string s,.int .i64 (a:Int),.string raw] w fun e w'=>TkOut w.heap.size (commentTk s gtS a (a+2)) e w'∧Below w.heap.size w w':=by
 have hr2:=hr.2
 have hrl:¬raw.toList=[]:=by rw[←List.length_eq_zero_iff,ByteArray.toList_eq,Array.length_toList];have:=hr.1;show ¬raw.size=0;omega
 have hrl2:raw.toList.isEmpty=false:=by simpa using hrl
 clear hr
 have he1:((a:Int)+1==(s.size:Int))=false:=by simp;omega
 have HL1:=Lib.hid (l04Letter_any (s[a+1].toNat:Int))
 rw[hl1]at HL1
 clear hl1
 have HL2:=Lib.hid (l04Letter_any (s[a+2].toNat:Int))
 rw[hl2]at HL2
 clear hl2
 have e47:(s[a+1].toNat:Int)=47:=by simpa using h47
 have h33:((s[a+1].toNat:Int)==33)=false:=by rw[e47];rfl
 have h63:((s[a+1].toNat:Int)==63)=false:=by rw[e47];rfl
 have hc4:((s.extract a (a+4)).toList==[60,33,45,45])=false:=cm_no h4 h1 (by omega)
 clear e47
 have LZ:=Lib.hid (tok_zero w)
 have HB0:=Lib.hid ((Below.refl w.heap.size w).alloc (Nat.le_refl _) (.cells #[.int .i64 0,.int .i64 0,.int .i64 0,.string ⟨#[]⟩,.string ⟨#[]⟩,.slice none 0 0,.bool false] 88))
 go_enter Tryz.func72,Tryz.ntmps72
 go_wp2_with (first | (go_at_call 121;refine (l04RawEnd_any s raw a hs hr2 (by omega) _).mono ?_;rintro e w1 ⟨rfl,hB1⟩;have LZ1:=Lib.hid (LZ.out.below hB1 (by simp));have h01:=Lib.hid (show w.heap.size<w1.heap.size from Nat.lt_of_lt_of_le (by simp) hB1.size);have HB1:=Lib.hid (HB0.out.trans (hB1.mono (by simp)));clear hB1 LZ HB0) | (go_at_call 123;have hP:=P1;refine (HL2.out _).mono ?_;rintro e w' ⟨rfl,rfl⟩) | (go_at_call 123;refine (HL1.out _).mono ?_;rintro e w' ⟨rfl,rfl⟩;have P1:=trivial) | (go_at_call 126;refine (l04Comment_any s gtS a (a+2) hs (by decide) (by omega) (by omega) _).mono ?_;rintro e w2 ⟨rfl,hB2⟩;unfold tokA;have L2:=LZ1.out.below hB2 h01.out;have n0:=L2.1;have n1:=L2.2;clear L2;have B2:=Lib.hid hB2;clear hB2))
 (try simp only[Exit.inBlock,Exit.then])
 have M2:Lay _ w.heap.size _:=⟨n0,n1⟩
 refine ret_tok rfl M2.put7 rfl rfl ?_
 exact tk_ret (A:=none) (c:=0) rfl HB1.out h01.out B2.out AOwn.nil
set_option maxHeartbeats 1000000 in
set_option maxRecDepth 100000 in
theorem next1_r2 (s raw:ByteArray) (a:Nat) (hs:s.size≤65536) (ha:a<s.size) (hr:0<raw.size∧raw.size≤65536) (hk:rawEnd s raw a≤a) (h1:a+1<s.size) (h60:((s[a].toNat:Int) != 60)=false) (hl1:(small (s[a+1].toNat:Int)||great (s[a+1].toNat:Int))=false) (h47:((s[a+1].toNat:Int)==47)=true) (h2:a+2<s.size) (hl2:(small (s[a+2].toNat:Int)||great (s[a+2].toNat:Int))=false) (hn4:¬a+4≤s.size) (w:World):
 Calls Tryz.prog 72 #[.string s,.int .i64 (a:Int),.string raw] w fun e w'=>TkOut w.heap.size (commentTk s gtS a (a+2)) e w'∧Below w.heap.size w w':=by
 have hr2:=hr.2
 have hrl:¬raw.toList=[]:=by rw[←List.length_eq_zero_iff,ByteArray.toList_eq,Array.length_toList];have:=hr.1;show ¬raw.size=0;omega
 have hrl2:raw.toList.isEmpty=false:=by simpa using hrl
 clear hr
 have he1:((a:Int)+1==(s.size:Int))=false:=by simp;omega
 have HL1:=Lib.hid (l04Letter_any (s[a+1].toNat:Int))
 rw[hl1]at HL1
 clear hl1
 have HL2:=Lib.hid (l04Letter_any (s[a+2].toNat:Int))
 rw[hl2]at HL2
 clear hl2
 have e47:(s[a+1].toNat:Int)=47:=by simpa using h47
 have h33:((s[a+1].toNat:Int)==33)=false:=by rw[e47];rfl
 have h63:((s[a+1].toNat:Int)==63)=false:=by rw[e47];rfl
 clear e47
 have LZ:=Lib.hid (tok_zero w)
 have HB0:=Lib.hid ((Below.refl w.heap.size w).alloc (Nat.le_refl _) (.cells #[.int .i64 0,.int .i64 0,.int .i64 0,.string ⟨#[]⟩,.string ⟨#[]⟩,.slice none 0 0,.bool false] 88))
 go_enter Tryz.func72,Tryz.ntmps72
 go_wp2_with (first | (go_at_call 121;refine (l04RawEnd_any s raw a hs hr2 (by omega) _).mono ?_;rintro e w1 ⟨rfl,hB1⟩;have LZ1:=Lib.hid (LZ.out.below hB1 (by simp));have h01:=Lib.hid (show w.heap.size<w1.heap.size from Nat.lt_of_lt_of_le (by simp) hB1.size);have HB1:=Lib.hid (HB0.out.trans (hB1.mono (by simp)));clear hB1 LZ HB0) | (go_at_call 123;have hP:=P1;refine (HL2.out _).mono ?_;rintro e w' ⟨rfl,rfl⟩) | (go_at_call 123;refine (HL1.out _).mono ?_;rintro e w' ⟨rfl,rfl⟩;have P1:=trivial) | (go_at_call 126;refine (l04Comment_any s gtS a (a+2) hs (by decide) (by omega) (by omega) _).mono ?_;rintro e w2 ⟨rfl,hB2⟩;unfold tokA;have L2:=LZ1.out.below hB2 h01.out;have n0:=L2.1;have n1:=L2.2;clear L2;have B2:=Lib.hid hB2;clear hB2))
 (try simp only[Exit.inBlock,Exit.then])
 have M2:Lay _ w.heap.size _:=⟨n0,n1⟩
 refine ret_tok rfl M2.put7 rfl rfl ?_
 exact tk_ret (A:=none) (c:=0) rfl HB1.out h01.out B2.out AOwn.nil
set_option maxHeartbeats 1000000 in
set_option maxRecDepth 100000 in
theorem next1_r3 (s raw:ByteArray) (a:Nat) (hs:s.size≤65536) (ha:a<s.size) (hr:0<raw.size∧raw.size≤65536) (hk:rawEnd s raw a≤a) (h1:a+1<s.size) (h60:((s[a].toNat:Int) != 60)=false) (hl1:(small (s[a+1].toNat:Int)||great (s[a+1].toNat:Int))=false) (h47:((s[a+1].toNat:Int)==47)=true) (hn2:¬a+2<s.size) (w:World):
 Calls Tryz.prog 72 #[.string s,.int .i64 (a:Int),.string raw] w fun e w'=>TkOut w.heap.size (commentTk s gtS a (a+2)) e w'∧Below w.heap.size w w':=by
 have hr2:=hr.2
 have hrl:¬raw.toList=[]:=by rw[←List.length_eq_zero_iff,ByteArray.toList_eq,Array.length_toList];have:=hr.1;show ¬raw.size=0;omega
 have hrl2:raw.toList.isEmpty=false:=by simpa using hrl
 clear hr
 have he1:((a:Int)+1==(s.size:Int))=false:=by simp;omega
 have HL1:=Lib.hid (l04Letter_any (s[a+1].toNat:Int))
 rw[hl1]at HL1
 clear hl1
 have e47:(s[a+1].toNat:Int)=47:=by simpa using h47
 have h33:((s[a+1].toNat:Int)==33)=false:=by rw[e47];rfl
 have h63:((s[a+1].toNat:Int)==63)=false:=by rw[e47];rfl
 have hn4:¬a+4≤s.size:=by omega
 clear e47
 have LZ:=Lib.hid (tok_zero w)
 have HB0:=Lib.hid ((Below.refl w.heap.size w).alloc (Nat.le_refl _) (.cells #[.int .i64 0,.int .i64 0,.int .i64 0,.string ⟨#[]⟩,.string ⟨#[]⟩,.slice none 0 0,.bool false] 88))
 go_enter Tryz.func72,Tryz.ntmps72
 go_wp2_with (first | (go_at_call 121;refine (l04RawEnd_any s raw a hs hr2 (by omega) _).mono ?_;rintro e w1 ⟨rfl,hB1⟩;have LZ1:=Lib.hid (LZ.out.below hB1 (by simp));have h01:=Lib.hid (show w.heap.size<w1.heap.size from Nat.lt_of_lt_of_le (by simp) hB1.size);have HB1:=Lib.hid (HB0.out.trans (hB1.mono (by simp)));clear hB1 LZ HB0) | (go_at_call 123;refine (HL1.out _).mono ?_;rintro e w' ⟨rfl,rfl⟩) | (go_at_call 126;refine (l04Comment_any s gtS a (a+2) hs (by decide) (by omega) (by omega) _).mono ?_;rintro e w2 ⟨rfl,hB2⟩;unfold tokA;have L2:=LZ1.out.below hB2 h01.out;have n0:=L2.1;have n1:=L2.2;clear L2;have B2:=Lib.hid hB2;clear hB2))
 (try simp only[Exit.inBlock,Exit.then])
 have M2:Lay _ w.heap.size _:=⟨n0,n1⟩
 refine ret_tok rfl M2.put7 rfl rfl ?_
 exact tk_ret (A:=none) (c:=0) rfl HB1.out h01.out B2.out AOwn.nil
set_option maxHeartbeats 1000000 in
set_option maxRecDepth 100000 in
theorem next1_m (s raw:ByteArray) (a:Nat) (hs:s.size≤65536) (ha:a<s.size) (hr:0<raw.size∧raw.size≤65536) (hk:rawEnd s raw a≤a) (h1:a+1<s.size) (h60:((s[a].toNat:Int) != 60)=false) (hl1:(small (s[a+1].toNat:Int)||great (s[a+1].toNat:Int))=false) (h47:((s[a+1].toNat:Int)==47)=false) (h4:a+4≤s.size) (hc4:((s.extract a (a+4)).toList==[60,33,45,45])=true) (w:World):
 Calls Tryz.prog 72 #[.string s,.int .i64 (a:Int),.string raw] w fun e w'=>TkOut w.heap.size (commentTk s endS a (a+4)) e w'∧Below w.heap.size w w':=by
 have hr2:=hr.2
 have hrl:¬raw.toList=[]:=by rw[←List.length_eq_zero_iff,ByteArray.toList_eq,Array.length_toList];have:=hr.1;show ¬raw.size=0;omega
 have hrl2:raw.toList.isEmpty=false:=by simpa using hrl
 clear hr
 have he1:((a:Int)+1==(s.size:Int))=false:=by simp;omega
 have HL1:=Lib.hid (l04Letter_any (s[a+1].toNat:Int))
 rw[hl1]at HL1
 clear hl1
 have LZ:=Lib.hid (tok_zero w)
 have HB0:=Lib.hid ((Below.refl w.heap.size w).alloc (Nat.le_refl _) (.cells #[.int .i64 0,.int .i64 0,.int .i64 0,.string ⟨#[]⟩,.string ⟨#[]⟩,.slice none 0 0,.bool false] 88))
 go_enter Tryz.func72,Tryz.ntmps72
 go_wp2_with (first | (go_at_call 121;refine (l04RawEnd_any s raw a hs hr2 (by omega) _).mono ?_;rintro e w1 ⟨rfl,hB1⟩;have LZ1:=Lib.hid (LZ.out.below hB1 (by simp));have h01:=Lib.hid (show w.heap.size<w1.heap.size from Nat.lt_of_lt_of_le (by simp) hB1.size);have HB1:=Lib.hid (HB0.out.trans (hB1.mono (by simp)));clear hB1 LZ HB0) | (go_at_call 123;refine (HL1.out _).mono ?_;rintro e w' ⟨rfl,rfl⟩) | (go_at_call 126;refine (l04Comment_any s endS a (a+4) hs (by decide) (by omega) (by omega) _).mono ?_;rintro e w2 ⟨rfl,hB2⟩;unfold tokA;have L2:=LZ1.out.below hB2 h01.out;have n0:=L2.1;have n1:=L2.2;clear L2;have B2:=Lib.hid hB2;clear hB2))
 (try simp only[Exit.inBlock,Exit.then])
 have M2:Lay _ w.heap.size _:=⟨n0,n1⟩
 refine ret_tok rfl M2.put7 rfl rfl ?_
 exact tk_ret (A:=none) (c:=0) rfl HB1.out h01.out B2.out AOwn.nil
set_option maxHeartbeats 1000000 in
set_option maxRecDepth 100000 in
theorem next1_r4 (s raw:ByteArray) (a:Nat) (hs:s.size≤65536) (ha:a<s.size) (hr:0<raw.size∧raw.size≤65536) (hk:rawEnd s raw a≤a) (h1:a+1<s.size) (h60:((s[a].toNat:Int) != 60)=false) (hl1:(small (s[a+1].toNat:Int)||great (s[a+1].toNat:Int))=false) (h47:((s[a+1].toNat:Int)==47)=false) (h4:a+4≤s.size) (hc4:((s.extract a (a+4)).toList==[60,33,45,45])=false) (h33:((s[a+1].toNat:Int)==33)=true) (w:World):
 Calls Tryz.prog 72 #[.string s,.int .i64 (a:Int),.string raw] w fun e w'=>TkOut w.heap.size (commentTk s gtS a (a+2)) e w'∧Below w.heap.size w w':=by
 have hr2:=hr.2
 have hrl:¬raw.toList=[]:=by rw[←List.length_eq_zero_iff,ByteArray.toList_eq,Array.length_toList];have:=hr.1;show ¬raw.size=0;omega
 have hrl2:raw.toList.isEmpty=false:=by simpa using hrl
 clear hr
 have he1:((a:Int)+1==(s.size:Int))=false:=by simp;omega
 have HL1:=Lib.hid (l04Letter_any (s[a+1].toNat:Int))
 rw[hl1]at HL1
 clear hl1
 have LZ:=Lib.hid (tok_zero w)
 have HB0:=Lib.hid ((Below.refl w.heap.size w).alloc (Nat.le_refl _) (.cells #[.int .i64 0,.int .i64 0,.int .i64 0,.string ⟨#[]⟩,.string ⟨#[]⟩,.slice none 0 0,.bool false] 88))
 go_enter Tryz.func72,Tryz.ntmps72
 go_wp2_with (first | (go_at_call 121;refine (l04RawEnd_any s raw a hs hr2 (by omega) _).mono ?_;rintro e w1 ⟨rfl,hB1⟩;have LZ1:=Lib.hid (LZ.out.below hB1 (by simp));have h01:=Lib.hid (show w.heap.size<w1.heap.size from Nat.lt_of_lt_of_le (by simp) hB1.size);have HB1:=Lib.hid (HB0.out.trans (hB1.mono (by simp)));clear hB1 LZ HB0) | (go_at_call 123;refine (HL1.out _).mono ?_;rintro e w' ⟨rfl,rfl⟩) | (go_at_call 126;refine (l04Comment_any s gtS a (a+2) hs (by decide) (by omega) (by omega) _).mono ?_;rintro e w2 ⟨rfl,hB2⟩;unfold tokA;have L2:=LZ1.out.below hB2 h01.out;have n0:=L2.1;have n1:=L2.2;clear L2;have B2:=Lib.hid hB2;clear hB2))
 (try simp only[Exit.inBlock,Exit.then])
 have M2:Lay _ w.heap.size _:=⟨n0,n1⟩
 refine ret_tok rfl M2.put7 rfl rfl ?_
 exact tk_ret (A:=none) (c:=0) rfl HB1.out h01.out B2.out AOwn.nil
set_option maxHeartbeats 1000000 in
set_option maxRecDepth 100000 in
theorem next1_r5 (s raw:ByteArray) (a:Nat) (hs:s.size≤65536) (ha:a<s.size) (hr:0<raw.size∧raw.size≤65536) (hk:rawEnd s raw a≤a) (h1:a+1<s.size) (h60:((s[a].toNat:Int) != 60)=false) (hl1:(small (s[a+1].toNat:Int)||great (s[a+1].toNat:Int))=false) (h47:((s[a+1].toNat:Int)==47)=false) (h4:a+4≤s.size) (hc4:((s.extract a (a+4)).toList==[60,33,45,45])=false) (h33:((s[a+1].toNat:Int)==33)=false) (h63:((s[a+1].toNat:Int)==63)=true) (w:World):
 Calls Tryz.prog 72 #[.string s,.int .i64 (a:Int),.string raw] w fun e w'=>TkOut w.heap.size (commentTk s gtS a (a+2)) e w'∧Below w.heap.size w w':=by
 have hr2:=hr.2
 have hrl:¬raw.toList=[]:=by rw[←List.length_eq_zero_iff,ByteArray.toList_eq,Array.length_toList];have:=hr.1;show ¬raw.size=0;omega
 have hrl2:raw.toList.isEmpty=false:=by simpa using hrl
 clear hr
 have he1:((a:Int)+1==(s.size:Int))=false:=by simp;omega
 have HL1:=Lib.hid (l04Letter_any (s[a+1].toNat:Int))
 rw[hl1]at HL1
 clear hl1
 have LZ:=Lib.hid (tok_zero w)
 have HB0:=Lib.hid ((Below.refl w.heap.size w).alloc (Nat.le_refl _) (.cells #[.int .i64 0,.int .i64 0,.int .i64 0,.string ⟨#[]⟩,.string ⟨#[]⟩,.slice none 0 0,.bool false] 88))
 go_enter Tryz.func72,Tryz.ntmps72
 go_wp2_with (first | (go_at_call 121;refine (l04RawEnd_any s raw a hs hr2 (by omega) _).mono ?_;rintro e w1 ⟨rfl,hB1⟩;have LZ1:=Lib.hid (LZ.out.below hB1 (by simp));have h01:=Lib.hid (show w.heap.size<w1.heap.size from Nat.lt_of_lt_of_le (by simp) hB1.size);have HB1:=Lib.hid (HB0.out.trans (hB1.mono (by simp)));clear hB1 LZ HB0) | (go_at_call 123;refine (HL1.out _).mono ?_;rintro e w' ⟨rfl,rfl⟩) | (go_at_call 126;refine (l04Comment_any s gtS a (a+2) hs (by decide) (by omega) (by omega) _).mono ?_;rintro e w2 ⟨rfl,hB2⟩;unfold tokA;have L2:=LZ1.out.below hB2 h01.out;have n0:=L2.1;have n1:=L2.2;clear L2;have B2:=Lib.hid hB2;clear hB2))
 (try simp only[Exit.inBlock,Exit.then])
 have M2:Lay _ w.heap.size _:=⟨n0,n1⟩
 refine ret_tok rfl M2.put7 rfl rfl ?_
 exact tk_ret (A:=none) (c:=0) rfl HB1.out h01.out B2.out AOwn.nil
set_option maxHeartbeats 1000000 in
set_option maxRecDepth 100000 in
theorem next1_w4 (s raw:ByteArray) (a:Nat) (hs:s.size≤65536) (ha:a<s.size) (hr:0<raw.size∧raw.size≤65536) (hk:rawEnd s raw a≤a) (h1:a+1<s.size) (h60:((s[a].toNat:Int) != 60)=false) (hl1:(small (s[a+1].toNat:Int)||great (s[a+1].toNat:Int))=false) (h47:((s[a+1].toNat:Int)==47)=false) (h4:a+4≤s.size) (hc4:((s.extract a (a+4)).toList==[60,33,45,45])=false) (h33:((s[a+1].toNat:Int)==33)=false) (h63:((s[a+1].toNat:Int)==63)=false) (w:World):
 Calls Tryz.prog 72 #[.string s,.int .i64 (a:Int),.string raw] w fun e w'=>TkOut w.heap.size (wordsTk s a) e w'∧Below w.heap.size w w':=by
 have hr2:=hr.2
 have hrl:¬raw.toList=[]:=by rw[←List.length_eq_zero_iff,ByteArray.toList_eq,Array.length_toList];have:=hr.1;show ¬raw.size=0;omega
 have hrl2:raw.toList.isEmpty=false:=by simpa using hrl
 clear hr
 have he1:((a:Int)+1==(s.size:Int))=false:=by simp;omega
 have HL1:=Lib.hid (l04Letter_any (s[a+1].toNat:Int))
 rw[hl1]at HL1
 clear hl1
 have LZ:=Lib.hid (tok_zero w)
 have HB0:=Lib.hid ((Below.refl w.heap.size w).alloc (Nat.le_refl _) (.cells #[.int .i64 0,.int .i64 0,.int .i64 0,.string ⟨#[]⟩,.string ⟨#[]⟩,.slice none 0 0,.bool false] 88))
 go_enter Tryz.func72,Tryz.ntmps72
 go_wp2_with (first | (go_at_call 121;refine (l04RawEnd_any s raw a hs hr2 (by omega) _).mono ?_;rintro e w1 ⟨rfl,hB1⟩;have LZ1:=Lib.hid (LZ.out.below hB1 (by simp));have h01:=Lib.hid (show w.heap.size<w1.heap.size from Nat.lt_of_lt_of_le (by simp) hB1.size);have HB1:=Lib.hid (HB0.out.trans (hB1.mono (by simp)));clear hB1 LZ HB0) | (go_at_call 123;refine (HL1.out _).mono ?_;rintro e w' ⟨rfl,rfl⟩) | (go_at_call 122;refine (l04Words_any s a hs ha _).mono ?_;rintro e w2 ⟨rfl,hB2⟩;unfold tokA;have L2:=LZ1.out.below hB2 h01.out;have n0:=L2.1;have n1:=L2.2;clear L2;have B2:=Lib.hid hB2;clear hB2))
 (try simp only[Exit.inBlock,Exit.then])
 have M2:Lay _ w.heap.size _:=⟨n0,n1⟩
 refine ret_tok rfl M2.put7 rfl rfl ?_
 exact tk_ret (A:=none) (c:=0) rfl HB1.out h01.out B2.out AOwn.nil
set_option maxHeartbeats 1000000 in
set_option maxRecDepth 100000 in
theorem next1_r6 (s raw:ByteArray) (a:Nat) (hs:s.size≤65536) (ha:a<s.size) (hr:0<raw.size∧raw.size≤65536) (hk:rawEnd s raw a≤a) (h1:a+1<s.size) (h60:((s[a].toNat:Int) != 60)=false) (hl1:(small (s[a+1].toNat:Int)||great (s[a+1].toNat:Int))=false) (h47:((s[a+1].toNat:Int)==47)=false) (hn4:¬a+4≤s.size) (h33:((s[a+1].toNat:Int)==33)=true) (w:World):
 Calls Tryz.prog 72 #[.string s,.int .i64 (a:Int),.string raw] w fun e w'=>TkOut w.heap.size (commentTk s gtS a (a+2)) e w'∧Below w.heap.size w w':=by
 have hr2:=hr.2
 have hrl:¬raw.toList=[]:=by rw[←List.length_eq_zero_iff,ByteArray.toList_eq,Array.length_toList];have:=hr.1;show ¬raw.size=0;omega
 have hrl2:raw.toList.isEmpty=false:=by simpa using hrl
 clear hr
 have he1:((a:Int)+1==(s.size:Int))=false:=by simp;omega
 have HL1:=Lib.hid (l04Letter_any (s[a+1].toNat:Int))
 rw[hl1]at HL1
 clear hl1
 have LZ:=Lib.hid (tok_zero w)
 have HB0:=Lib.hid ((Below.refl w.heap.size w).alloc (Nat.le_refl _) (.cells #[.int .i64 0,.int .i64 0,.int .i64 0,.string ⟨#[]⟩,.string ⟨#[]⟩,.slice none 0 0,.bool false] 88))
 go_enter Tryz.func72,Tryz.ntmps72
 go_wp2_with (first | (go_at_call 121;refine (l04RawEnd_any s raw a hs hr2 (by omega) _).mono ?_;rintro e w1 ⟨rfl,hB1⟩;have LZ1:=Lib.hid (LZ.out.below hB1 (by simp));have h01:=Lib.hid (show w.heap.size<w1.heap.size from Nat.lt_of_lt_of_le (by simp) hB1.size);have HB1:=Lib.hid (HB0.out.trans (hB1.mono (by simp)));clear hB1 LZ HB0) | (go_at_call 123;refine (HL1.out _).mono ?_;rintro e w' ⟨rfl,rfl⟩) | (go_at_call 126;refine (l04Comment_any s gtS a (a+2) hs (by decide) (by omega) (by omega) _).mono ?_;rintro e w2 ⟨rfl,hB2⟩;unfold tokA;have L2:=LZ1.out.below hB2 h01.out;have n0:=L2.1;have n1:=L2.2;clear L2;have B2:=Lib.hid hB2;clear hB2))
 (try simp only[Exit.inBlock,Exit.then])
 have M2:Lay _ w.heap.size _:=⟨n0,n1⟩
 refine ret_tok rfl M2.put7 rfl rfl ?_
 exact tk_ret (A:=none) (c:=0) rfl HB1.out h01.out B2.out AOwn.nil
set_option maxHeartbeats 1000000 in
set_option maxRecDepth 100000 in
theorem next1_r7 (s raw:ByteArray) (a:Nat) (hs:s.size≤65536) (ha:a<s.size) (hr:0<raw.size∧raw.size≤65536) (hk:rawEnd s raw a≤a) (h1:a+1<s.size) (h60:((s[a].toNat:Int) != 60)=false) (hl1:(small (s[a+1].toNat:Int)||great (s[a+1].toNat:Int))=false) (h47:((s[a+1].toNat:Int)==47)=false) (hn4:¬a+4≤s.size) (h33:((s[a+1].toNat:Int)==33)=false) (h63:((s[a+1].toNat:Int)==63)=true) (w:World):
 Calls Tryz.prog 72 #[.string s,.int .i64 (a:Int),.string raw] w fun e w'=>TkOut w.heap.size (commentTk s gtS a (a+2)) e w'∧Below w.heap.size w w':=by
 have hr2:=hr.2
 have hrl:¬raw.toList=[]:=by rw[←List.length_eq_zero_iff,ByteArray.toList_eq,Array.length_toList];have:=hr.1;show ¬raw.size=0;omega
 have hrl2:raw.toList.isEmpty=false:=by simpa using hrl
 clear hr
 have he1:((a:Int)+1==(s.size:Int))=false:=by simp;omega
 have HL1:=Lib.hid (l04Letter_any (s[a+1].toNat:Int))
 rw[hl1]at HL1
 clear hl1
 have LZ:=Lib.hid (tok_zero w)
 have HB0:=Lib.hid ((Below.refl w.heap.size w).alloc (Nat.le_refl _) (.cells #[.int .i64 0,.int .i64 0,.int .i64 0,.string ⟨#[]⟩,.string ⟨#[]⟩,.slice none 0 0,.bool false] 88))
 go_enter Tryz.func72,Tryz.ntmps72
 go_wp2_with (first | (go_at_call 121;refine (l04RawEnd_any s raw a hs hr2 (by omega) _).mono ?_;rintro e w1 ⟨rfl,hB1⟩;have LZ1:=Lib.hid (LZ.out.below hB1 (by simp));have h01:=Lib.hid (show w.heap.size<w1.heap.size from Nat.lt_of_lt_of_le (by simp) hB1.size);have HB1:=Lib.hid (HB0.out.trans (hB1.mono (by simp)));clear hB1 LZ HB0) | (go_at_call 123;refine (HL1.out _).mono ?_;rintro e w' ⟨rfl,rfl⟩) | (go_at_call 126;refine (l04Comment_any s gtS a (a+2) hs (by decide) (by omega) (by omega) _).mono ?_;rintro e w2 ⟨rfl,hB2⟩;unfold tokA;have L2:=LZ1.out.below hB2 h01.out;have n0:=L2.1;have n1:=L2.2;clear L2;have B2:=Lib.hid hB2;clear hB2))
 (try simp only[Exit.inBlock,Exit.then])
 have M2:Lay _ w.heap.size _:=⟨n0,n1⟩
 refine ret_tok rfl M2.put7 rfl rfl ?_
 exact tk_ret (A:=none) (c:=0) rfl HB1.out h01.out B2.out AOwn.nil
set_option maxHeartbeats 1000000 in
set_option maxRecDepth 100000 in
theorem next1_w5 (s raw:ByteArray) (a:Nat) (hs:s.size≤65536) (ha:a<s.size) (hr:0<raw.size∧raw.size≤65536) (hk:rawEnd s raw a≤a) (h1:a+1<s.size) (h60:((s[a].toNat:Int) != 60)=false) (hl1:(small (s[a+1].toNat:Int)||great (s[a+1].toNat:Int))=false) (h47:((s[a+1].toNat:Int)==47)=false) (hn4:¬a+4≤s.size) (h33:((s[a+1].toNat:Int)==33)=false) (h63:((s[a+1].toNat:Int)==63)=false) (w:World):
 Calls Tryz.prog 72 #[.string s,.int .i64 (a:Int),.string raw] w fun e w'=>TkOut w.heap.size (wordsTk s a) e w'∧Below w.heap.size w w':=by
 have hr2:=hr.2
 have hrl:¬raw.toList=[]:=by rw[←List.length_eq_zero_iff,ByteArray.toList_eq,Array.length_toList];have:=hr.1;show ¬raw.size=0;omega
 have hrl2:raw.toList.isEmpty=false:=by simpa using hrl
 clear hr
 have he1:((a:Int)+1==(s.size:Int))=false:=by simp;omega
 have HL1:=Lib.hid (l04Letter_any (s[a+1].toNat:Int))
 rw[hl1]at HL1
 clear hl1
 have LZ:=Lib.hid (tok_zero w)
 have HB0:=Lib.hid ((Below.refl w.heap.size w).alloc (Nat.le_refl _) (.cells #[.int .i64 0,.int .i64 0,.int .i64 0,.string ⟨#[]⟩,.string ⟨#[]⟩,.slice none 0 0,.bool false] 88))
 go_enter Tryz.func72,Tryz.ntmps72
 go_wp2_with (first | (go_at_call 121;refine (l04RawEnd_any s raw a hs hr2 (by omega) _).mono ?_;rintro e w1 ⟨rfl,hB1⟩;have LZ1:=Lib.hid (LZ.out.below hB1 (by simp));have h01:=Lib.hid (show w.heap.size<w1.heap.size from Nat.lt_of_lt_of_le (by simp) hB1.size);have HB1:=Lib.hid (HB0.out.trans (hB1.mono (by simp)));clear hB1 LZ HB0) | (go_at_call 123;refine (HL1.out _).mono ?_;rintro e w' ⟨rfl,rfl⟩) | (go_at_call 122;refine (l04Words_any s a hs ha _).mono ?_;rintro e w2 ⟨rfl,hB2⟩;unfold tokA;have L2:=LZ1.out.below hB2 h01.out;have n0:=L2.1;have n1:=L2.2;clear L2;have B2:=Lib.hid hB2;clear hB2))
 (try simp only[Exit.inBlock,Exit.then])
 have M2:Lay _ w.heap.size _:=⟨n0,n1⟩
 refine ret_tok rfl M2.put7 rfl rfl ?_
 exact tk_ret (A:=none) (c:=0) rfl HB1.out h01.out B2.out AOwn.nil
end Go.Proofs.YthdkkpbhijlpaaaGreatDoor
namespace Go.Proofs.YthdkkpbhijlpaaaGreatDoor
open Go.ChangeShapes Go.WideShapes Go.ChangeAt Go.RowKit Go.Deep
theorem cm_list:cmS.toList=[60,33,45,45]:=by rw[ByteArray.toList_eq];rfl
set_option maxHeartbeats 1000000 in
set_option maxRecDepth 100000 in
theorem next_raw (s raw:ByteArray) (a:Nat) (hs:s.size≤65536) (ha:a<s.size) (hr:0<raw.size∧raw.size≤65536) (hk:a<rawEnd s raw a) (hk2:rawEnd s raw a≤s.size) (w:World):
 Calls Tryz.prog 72 #[.string s,.int .i64 (a:Int),.string raw] w fun e w'=>TkOut w.heap.size (noTk 1 a (rawEnd s raw a-a) ⟨#[]⟩ (s.extract a (rawEnd s raw a))) e w'∧Below w.heap.size w w':=by
 have hr2:=hr.2
 have hrl:¬raw.toList=[]:=by rw[←List.length_eq_zero_iff,ByteArray.toList_eq,Array.length_toList];have:=hr.1;show ¬raw.size=0;omega
 have hrl2:raw.toList.isEmpty=false:=by simpa using hrl
 clear hr
 have HRE:=Lib.hid (l04RawEnd_any s raw a hs hr2 (Nat.le_of_lt ha))
 generalize rawEnd s raw a=kk at HRE hk hk2 ⊢
 have LZ:=Lib.hid (tok_zero w)
 have HB0:=Lib.hid ((Below.refl w.heap.size w).alloc (Nat.le_refl _) (.cells #[.int .i64 0,.int .i64 0,.int .i64 0,.string ⟨#[]⟩,.string ⟨#[]⟩,.slice none 0 0,.bool false] 88))
 go_enter Tryz.func72,Tryz.ntmps72
 go_wp2_with (go_at_call 121;refine (HRE.out _).mono ?_;rintro e w1 ⟨rfl,hB1⟩;have L2:=LZ.out.below hB1 (by simp);have n0:=L2.1;have n1:=L2.2;clear L2;have h01:=Lib.hid (show w.heap.size<w1.heap.size from Nat.lt_of_lt_of_le (by simp) hB1.size);have HB1:=Lib.hid (HB0.out.trans (hB1.mono (by simp)));clear hB1 LZ HB0)
 (try simp only[Exit.inBlock,Exit.then])
 have M2:Lay _ w.heap.size _:=⟨n0,n1⟩
 refine ret_tok rfl M2.put7 rfl rfl ?_
 exact tk_ret (A:=none) (c:=0) (by rw[Tk.val,noTk,show (((kk-a:Nat)):Int)=(kk:Int)-(a:Int) by omega];rfl) HB1.out h01.out (Below.refl _ _) AOwn.nil
theorem l04Next_any (s raw:ByteArray) (a:Nat) (hs:s.size≤65536) (ha:a<s.size) (hr:raw.size≤65536) (w:World):
 Calls Tryz.prog 72 #[.string s,.int .i64 (a:Int),.string raw] w fun e w'=>TkOut w.heap.size (nextOf s a raw) e w'∧Below w.heap.size w w':=by
 have hb0:=byteAt_in ha
 by_cases hr1:0<raw.size
 ·by_cases hk:a<rawEnd s raw a
  ·rw[show nextOf s a raw=noTk 1 a (rawEnd s raw a-a) ⟨#[]⟩ (s.extract a (rawEnd s raw a)) from if_pos ⟨hr1,hk⟩]
   exact next_raw s raw a hs ha ⟨hr1,hr⟩ hk (rawEnd_le s raw a (Nat.le_of_lt ha)).2 w
  ·rw[show nextOf s a raw=markTk s a from if_neg fun h=>hk h.2]
   have hk:=Nat.le_of_not_lt hk
   by_cases h1:a+1<s.size
   ·have hb1:=byteAt_in h1
    cases h60:((s[a].toNat:Int) != 60) with
    | true=>
     rw[show markTk s a=wordsTk s a from by unfold markTk;rw[if_pos (Or.inl (by rw[hb0];simpa using h60))]]
     exact next1_w1 s raw a hs ha ⟨hr1,hr⟩ hk h1 h60 w
    | false=>
     have hn0:¬(byteAt s a≠60∨a+1=s.size):=by rw[hb0];simp at h60;simp[h60];omega
     cases hl1:(small (s[a+1].toNat:Int)||great (s[a+1].toNat:Int)) with
     | true=>
      rw[show markTk s a=openOf s a from by unfold markTk;rw[if_neg hn0,if_pos (by rw[hb1];exact hl1)]]
      exact next1_o s raw a hs ha ⟨hr1,hr⟩ hk h1 h60 hl1 w
     | false=>
      have hn1:¬letB (byteAt s (a+1))=true:=by rw[hb1];simp[letB,hl1]
      cases h47:((s[a+1].toNat:Int)==47) with
      | true=>
       have e47:(s[a+1].toNat:Int)=47:=by simpa using h47
       have hn4:¬(a+4≤s.size∧s.extract a (a+4)=cmS):=fun h=>by have h4:=cm_no h.1 h1 (by omega);rw[h.2,cm_list]at h4;exact absurd h4 (by decide)
       by_cases h2:a+2<s.size
       ·have hb2:=byteAt_in h2
        cases hl2:(small (s[a+2].toNat:Int)||great (s[a+2].toNat:Int)) with
        | true=>
         rw[show markTk s a=closeTk s a from by unfold markTk;rw[if_neg hn0,if_neg hn1,if_pos ⟨by rw[hb1];exact e47,by rw[hb2];exact hl2⟩]]
         exact next1_c s raw a hs ha ⟨hr1,hr⟩ hk h1 h60 hl1 h47 h2 hl2 w
        | false=>
         have hn2:¬(byteAt s (a+1)=47∧letB (byteAt s (a+2))=true):=fun h=>by rw[hb2]at h;simp[letB,hl2]at h
         by_cases h4:a+4≤s.size
         ·rw[show markTk s a=commentTk s gtS a (a+2) from by unfold markTk;rw[if_neg hn0,if_neg hn1,if_neg hn2,if_neg hn4,if_pos (by rw[hb1];exact Or.inr (Or.inr e47))]]
          exact next1_r1 s raw a hs ha ⟨hr1,hr⟩ hk h1 h60 hl1 h47 h2 hl2 h4 w
         ·rw[show markTk s a=commentTk s gtS a (a+2) from by unfold markTk;rw[if_neg hn0,if_neg hn1,if_neg hn2,if_neg hn4,if_pos (by rw[hb1];exact Or.inr (Or.inr e47))]]
          exact next1_r2 s raw a hs ha ⟨hr1,hr⟩ hk h1 h60 hl1 h47 h2 hl2 h4 w
       ·have hn2:¬(byteAt s (a+1)=47∧letB (byteAt s (a+2))=true):=fun h=>by rw[show byteAt s (a+2) = -1 from dif_neg h2]at h;exact absurd h.2 (by decide)
        rw[show markTk s a=commentTk s gtS a (a+2) from by unfold markTk;rw[if_neg hn0,if_neg hn1,if_neg hn2,if_neg hn4,if_pos (by rw[hb1];exact Or.inr (Or.inr e47))]]
        exact next1_r3 s raw a hs ha ⟨hr1,hr⟩ hk h1 h60 hl1 h47 h2 w
      | false=>
       have e47:¬(s[a+1].toNat:Int)=47:=by simpa using h47
       have hn2:¬(byteAt s (a+1)=47∧letB (byteAt s (a+2))=true):=fun h=>by rw[hb1]at h;exact e47 h.1
       by_cases h4:a+4≤s.size
       ·cases hc4:((s.extract a (a+4)).toList==[60,33,45,45]) with
        | true=>
         rw[show markTk s a=commentTk s endS a (a+4) from by unfold markTk;rw[if_neg hn0,if_neg hn1,if_neg hn2,if_pos ⟨h4,str_ext (by rw[eq_of_beq hc4,ByteArray.toList_eq];rfl)⟩]]
         exact next1_m s raw a hs ha ⟨hr1,hr⟩ hk h1 h60 hl1 h47 h4 hc4 w
        | false=>
         have hn4:¬(a+4≤s.size∧s.extract a (a+4)=cmS):=fun h=>by rw[h.2,cm_list]at hc4;exact absurd hc4 (by decide)
         cases h33:((s[a+1].toNat:Int)==33) with
         | true=>
          rw[show markTk s a=commentTk s gtS a (a+2) from by unfold markTk;rw[if_neg hn0,if_neg hn1,if_neg hn2,if_neg hn4,if_pos (by rw[hb1];exact Or.inl (by simpa using h33))]]
          exact next1_r4 s raw a hs ha ⟨hr1,hr⟩ hk h1 h60 hl1 h47 h4 hc4 h33 w
         | false=>
          cases h63:((s[a+1].toNat:Int)==63) with
          | true=>
           rw[show markTk s a=commentTk s gtS a (a+2) from by unfold markTk;rw[if_neg hn0,if_neg hn1,if_neg hn2,if_neg hn4,if_pos (by rw[hb1];exact Or.inr (Or.inl (by simpa using h63)))]]
           exact next1_r5 s raw a hs ha ⟨hr1,hr⟩ hk h1 h60 hl1 h47 h4 hc4 h33 h63 w
          | false=>
           rw[show markTk s a=wordsTk s a from by unfold markTk;rw[if_neg hn0,if_neg hn1,if_neg hn2,if_neg hn4,if_neg (by rw[hb1];simp at h33 h63;simp[h33,h63,e47])]]
           exact next1_w4 s raw a hs ha ⟨hr1,hr⟩ hk h1 h60 hl1 h47 h4 hc4 h33 h63 w
       ·have hn4:¬(a+4≤s.size∧s.extract a (a+4)=cmS):=fun h=>h4 h.1
        cases h33:((s[a+1].toNat:Int)==33) with
        | true=>
         rw[show markTk s a=commentTk s gtS a (a+2) from by unfold markTk;rw[if_neg hn0,if_neg hn1,if_neg hn2,if_neg hn4,if_pos (by rw[hb1];exact Or.inl (by simpa using h33))]]
         exact next1_r6 s raw a hs ha ⟨hr1,hr⟩ hk h1 h60 hl1 h47 h4 h33 w
        | false=>
         cases h63:((s[a+1].toNat:Int)==63) with
         | true=>
          rw[show markTk s a=commentTk s gtS a (a+2) from by unfold markTk;rw[if_neg hn0,if_neg hn1,if_neg hn2,if_neg hn4,if_pos (by rw[hb1];exact Or.inr (Or.inl (by simpa using h63)))]]
          exact next1_r7 s raw a hs ha ⟨hr1,hr⟩ hk h1 h60 hl1 h47 h4 h33 h63 w
         | false=>
          rw[show markTk s a=wordsTk s a from by unfold markTk;rw[if_neg hn0,if_neg hn1,if_neg hn2,if_neg hn4,if_neg (by rw[hb1];simp at h33 h63;simp[h33,h63,e47])]]
          exact next1_w5 s raw a hs ha ⟨hr1,hr⟩ hk h1 h60 hl1 h47 h4 h33 h63 w
   ·have he1:a+1=s.size:=by omega
    rw[show markTk s a=wordsTk s a from by unfold markTk;rw[if_pos (Or.inr he1)]]
    cases h60:((s[a].toNat:Int) != 60) with
    | true=>exact next1_w2 s raw a hs ha ⟨hr1,hr⟩ hk he1 h60 w
    | false=>exact next1_w3 s raw a hs ha ⟨hr1,hr⟩ hk he1 h60 w
 ·rw[show nextOf s a raw=markTk s a from if_neg fun h=>hr1 h.1]
  have hr0:raw.size=0:=by omega
  by_cases h1:a+1<s.size
  ·have hb1:=byteAt_in h1
   cases h60:((s[a].toNat:Int) != 60) with
   | true=>
    rw[show markTk s a=wordsTk s a from by unfold markTk;rw[if_pos (Or.inl (by rw[hb0];simpa using h60))]]
    exact next0_w1 s raw a hs ha hr0 h1 h60 w
   | false=>
    have hn0:¬(byteAt s a≠60∨a+1=s.size):=by rw[hb0];simp at h60;simp[h60];omega
    cases hl1:(small (s[a+1].toNat:Int)||great (s[a+1].toNat:Int)) with
    | true=>
     rw[show markTk s a=openOf s a from by unfold markTk;rw[if_neg hn0,if_pos (by rw[hb1];exact hl1)]]
     exact next0_o s raw a hs ha hr0 h1 h60 hl1 w
    | false=>
     have hn1:¬letB (byteAt s (a+1))=true:=by rw[hb1];simp[letB,hl1]
     cases h47:((s[a+1].toNat:Int)==47) with
     | true=>
      have e47:(s[a+1].toNat:Int)=47:=by simpa using h47
      have hn4:¬(a+4≤s.size∧s.extract a (a+4)=cmS):=fun h=>by have h4:=cm_no h.1 h1 (by omega);rw[h.2,cm_list]at h4;exact absurd h4 (by decide)
      by_cases h2:a+2<s.size
      ·have hb2:=byteAt_in h2
       cases hl2:(small (s[a+2].toNat:Int)||great (s[a+2].toNat:Int)) with
       | true=>
        rw[show markTk s a=closeTk s a from by unfold markTk;rw[if_neg hn0,if_neg hn1,if_pos ⟨by rw[hb1];exact e47,by rw[hb2];exact hl2⟩]]
        exact next0_c s raw a hs ha hr0 h1 h60 hl1 h47 h2 hl2 w
       | false=>
        have hn2:¬(byteAt s (a+1)=47∧letB (byteAt s (a+2))=true):=fun h=>by rw[hb2]at h;simp[letB,hl2]at h
        by_cases h4:a+4≤s.size
        ·rw[show markTk s a=commentTk s gtS a (a+2) from by unfold markTk;rw[if_neg hn0,if_neg hn1,if_neg hn2,if_neg hn4,if_pos (by rw[hb1];exact Or.inr (Or.inr e47))]]
         exact next0_r1 s raw a hs ha hr0 h1 h60 hl1 h47 h2 hl2 h4 w
        ·rw[show markTk s a=commentTk s gtS a (a+2) from by unfold markTk;rw[if_neg hn0,if_neg hn1,if_neg hn2,if_neg hn4,if_pos (by rw[hb1];exact Or.inr (Or.inr e47))]]
         exact next0_r2 s raw a hs ha hr0 h1 h60 hl1 h47 h2 hl2 h4 w
      ·have hn2:¬(byteAt s (a+1)=47∧letB (byteAt s (a+2))=true):=fun h=>by rw[show byteAt s (a+2) = -1 from dif_neg h2]at h;exact absurd h.2 (by decide)
       rw[show markTk s a=commentTk s gtS a (a+2) from by unfold markTk;rw[if_neg hn0,if_neg hn1,if_neg hn2,if_neg hn4,if_pos (by rw[hb1];exact Or.inr (Or.inr e47))]]
       exact next0_r3 s raw a hs ha hr0 h1 h60 hl1 h47 h2 w
     | false=>
      have e47:¬(s[a+1].toNat:Int)=47:=by simpa using h47
      have hn2:¬(byteAt s (a+1)=47∧letB (byteAt s (a+2))=true):=fun h=>by rw[hb1]at h;exact e47 h.1
      by_cases h4:a+4≤s.size
      ·cases hc4:((s.extract a (a+4)).toList==[60,33,45,45]) with
       | true=>
        rw[show markTk s a=commentTk s endS a (a+4) from by unfold markTk;rw[if_neg hn0,if_neg hn1,if_neg hn2,if_pos ⟨h4,str_ext (by rw[eq_of_beq hc4,ByteArray.toList_eq];rfl)⟩]]
        exact next0_m s raw a hs ha hr0 h1 h60 hl1 h47 h4 hc4 w
       | false=>
        have hn4:¬(a+4≤s.size∧s.extract a (a+4)=cmS):=fun h=>by rw[h.2,cm_list]at hc4;exact absurd hc4 (by decide)
        cases h33:((s[a+1].toNat:Int)==33) with
        | true=>
         rw[show markTk s a=commentTk s gtS a (a+2) from by unfold markTk;rw[if_neg hn0,if_neg hn1,if_neg hn2,if_neg hn4,if_pos (by rw[hb1];exact Or.inl (by simpa using h33))]]
         exact next0_r4 s raw a hs ha hr0 h1 h60 hl1 h47 h4 hc4 h33 w
        | false=>
         cases h63:((s[a+1].toNat:Int)==63) with
         | true=>
          rw[show markTk s a=commentTk s gtS a (a+2) from by unfold markTk;rw[if_neg hn0,if_neg hn1,if_neg hn2,if_neg hn4,if_pos (by rw[hb1];exact Or.inr (Or.inl (by simpa using h63)))]]
          exact next0_r5 s raw a hs ha hr0 h1 h60 hl1 h47 h4 hc4 h33 h63 w
         | false=>
          rw[show markTk s a=wordsTk s a from by unfold markTk;rw[if_neg hn0,if_neg hn1,if_neg hn2,if_neg hn4,if_neg (by rw[hb1];simp at h33 h63;simp[h33,h63,e47])]]
          exact next0_w4 s raw a hs ha hr0 h1 h60 hl1 h47 h4 hc4 h33 h63 w
      ·have hn4:¬(a+4≤s.size∧s.extract a (a+4)=cmS):=fun h=>h4 h.1
       cases h33:((s[a+1].toNat:Int)==33) with
       | true=>
        rw[show markTk s a=commentTk s gtS a (a+2) from by unfold markTk;rw[if_neg hn0,if_neg hn1,if_neg hn2,if_neg hn4,if_pos (by rw[hb1];exact Or.inl (by simpa using h33))]]
        exact next0_r6 s raw a hs ha hr0 h1 h60 hl1 h47 h4 h33 w
       | false=>
        cases h63:((s[a+1].toNat:Int)==63) with
        | true=>
         rw[show markTk s a=commentTk s gtS a (a+2) from by unfold markTk;rw[if_neg hn0,if_neg hn1,if_neg hn2,if_neg hn4,if_pos (by rw[hb1];exact Or.inr (Or.inl (by simpa using h63)))]]
         exact next0_r7 s raw a hs ha hr0 h1 h60 hl1 h47 h4 h33 h63 w
        | false=>
         rw[show markTk s a=wordsTk s a from by unfold markTk;rw[if_neg hn0,if_neg hn1,if_neg hn2,if_neg hn4,if_neg (by rw[hb1];simp at h33 h63;simp[h33,h63,e47])]]
         exact next0_w5 s raw a hs ha hr0 h1 h60 hl1 h47 h4 h33 h63 w
  ·have he1:a+1=s.size:=by omega
   rw[show markTk s a=wordsTk s a from by unfold markTk;rw[if_pos (Or.inr he1)]]
   cases h60:((s[a].toNat:Int) != 60) with
   | true=>exact next0_w2 s raw a hs ha hr0 he1 h60 w
   | false=>exact next0_w3 s raw a hs ha hr0 he1 h60 w
end Go.Proofs.YthdkkpbhijlpaaaGreatDoor
namespace Go.Proofs.YthdkkpbhijlpaaaGreatDoor
open Go.ChangeShapes Go.WideShapes Go.ChangeAt Go.RowKit Go.Deep
end Go.Proofs.YthdkkpbhijlpaaaGreatDoor
