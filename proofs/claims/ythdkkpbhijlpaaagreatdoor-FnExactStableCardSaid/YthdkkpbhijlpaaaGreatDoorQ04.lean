import Derived.Lib.Hide
import Derived.Test.YthdkkpbhijlpaaaGreatDoorRows
import Derived.WalkKit
import Derived.ProofKit
import Derived.OpenShut
import Derived.ShutString
import Derived.ChangeOld
import Derived.Below
import Derived.Deep.Slices
import Derived.Deep.Strs
import Derived.Deep.SlicePairs
import Derived.Test.YthdkkpbhijlpaaaGreatDoorQ00
import Derived.Test.YthdkkpbhijlpaaaGreatDoorQ01
import Derived.Test.YthdkkpbhijlpaaaGreatDoorQ03
set_option linter.unusedVariables false
namespace Go.Proofs.YthdkkpbhijlpaaaGreatDoor
open Go.ChangeShapes Go.WideShapes Go.ChangeAt Go.RowKit
def inL (ls:List (List UInt8)) (s:ByteArray):Bool:=ls.any fun l=>l==s.toList
theorem inL_take_snoc {ls:List (List UInt8)} {s:ByteArray} {k:Nat} (hk:k<ls.length):inL (ls.take (k+1)) s=(inL (ls.take k) s||(ls[k]==s.toList)):=by
 unfold inL;rw[List.take_succ_eq_append_getElem hk,List.any_append];simp only[List.any_cons,List.any_nil,Bool.or_false]
theorem inL_hit {ls:List (List UInt8)} {s:ByteArray} {k:Nat} (hk:k<ls.length) (h:(ls[k]==s.toList)=true):true=inL ls s:=by
 symm;rw[inL,List.any_eq_true];exact ⟨_,List.getElem_mem hk,h⟩
set_option maxHeartbeats 400000 in
theorem l01Has_any (ls:List (List UInt8)) (b off:Nat) (s:ByteArray) (w:World) (hl:ls.length≤100)
 (hc:∀k (h:k<ls.length),w.cell? ⟨b,off+k,none⟩=some (.string ⟨ls[k].toArray⟩)):
 Calls Tryz.prog 70 #[.slice (some ⟨b,off,none⟩) ls.length ls.length,.string s] w fun e w'=>e=.returned (.bool (inL ls s))∧w=w':=by
 have HC:=Lib.hid hc
 clear hc
 go_enter Tryz.func70,Tryz.ntmps70
 go_wp2
 go_loop [5] (fun i=>∃k:Nat,k≤ls.length∧i=.int .i64 k∧inL (ls.take k) s=false) (fun i=>ls.length-(intOf i).toNat)
 case atStart=>exact ⟨0,by omega,rfl,by simp[inL]⟩
 case round=>
  obtain ⟨k,hk,rfl,hall⟩:=hrel
  have HA:=Lib.hid hall
  clear hall
  by_cases hlt:k<ls.length
  ·have hck:=HC.out k hlt
   by_cases hf:(ls[k]==s.toList)=true
   ·have HF:=Lib.hid hf
    go_wp2
    go_ret
    exact ⟨ret_bool (inL_hit hlt HF.out),rfl⟩
   ·have HF:=Lib.hid hf
    have hf':(ls[k]==s.toList)=false:=by simpa using hf
    clear hf
    go_wp2
    go_round
    case rel=>exact ⟨k+1,by omega,by go_num,by rw[inL_take_snoc hlt,HA.out];simpa using HF.out⟩
    case measure=>simp[intOf];omega
  ·obtain rfl:k=ls.length:=by omega
   go_wp2
   go_ret
   exact ⟨ret_bool (by have:=HA.out;rw[List.take_length]at this;exact this.symm),rfl⟩
theorem cells_of (ls:List (List UInt8)) (w:World) (T:TypeId) (k:Nat) (h:k<ls.length):
 (w.alloc (.cells (ls.map fun l=>Value.string ⟨l.toArray⟩).toArray T)).cell? ⟨w.heap.size,0+k,none⟩=some (.string ⟨ls[k].toArray⟩):=by
 rw[World.cell?_alloc_new];simp[h]
def voidL:List (List UInt8):=[[98,114],[104,114],[105,109,103],[105,110,112,117,116],[109,101,116,97],[108,105,110,107],[98,97,115,101],[101,109,98,101,100]]
theorem l01Void_any (s:ByteArray) (w:World):
 Calls Tryz.prog 79 #[.string s] w fun e w'=>e=.returned (.bool (inL voidL s))∧Below w.heap.size w w':=by
 go_enter Tryz.func79,Tryz.ntmps79
 go_wp2_with (go_at_call 70;refine (l01Has_any voidL _ 0 _ _ (by decide) (fun k h=>cells_of voidL _ _ k h)).mono ?_;rintro e w' ⟨rfl,rfl⟩)
 go_ret
 exact ⟨rfl,(Below.refl _ _).alloc (Nat.le_refl _) _⟩
def rawL:List (List UInt8):=[[115,116,121,108,101],[115,99,114,105,112,116],[120,109,112],[105,102,114,97,109,101]]
theorem l01Raw_any (s:ByteArray) (w:World):
 Calls Tryz.prog 80 #[.string s] w fun e w'=>e=.returned (.bool (inL rawL s))∧Below w.heap.size w w':=by
 go_enter Tryz.func80,Tryz.ntmps80
 go_wp2_with (go_at_call 70;refine (l01Has_any rawL _ 0 _ _ (by decide) (fun k h=>cells_of rawL _ _ k h)).mono ?_;rintro e w' ⟨rfl,rfl⟩)
 go_ret
 exact ⟨rfl,(Below.refl _ _).alloc (Nat.le_refl _) _⟩
def outL:List (List UInt8):=[[112],[100,105,118],[98],[105],[98,114],[105,109,103],[117,108],[108,105],[116,97,98,108,101],[104,49]]
theorem l01Out_any (s:ByteArray) (w:World):
 Calls Tryz.prog 193 #[.string s] w fun e w'=>e=.returned (.bool (inL outL s))∧Below w.heap.size w w':=by
 go_enter Tryz.func193,Tryz.ntmps193
 go_wp2_with (go_at_call 70;refine (l01Has_any outL _ 0 _ _ (by decide) (fun k h=>cells_of outL _ _ k h)).mono ?_;rintro e w' ⟨rfl,rfl⟩)
 go_ret
 exact ⟨rfl,(Below.refl _ _).alloc (Nat.le_refl _) _⟩
end Go.Proofs.YthdkkpbhijlpaaaGreatDoor
namespace Go.Proofs.YthdkkpbhijlpaaaGreatDoor
open Go.ChangeShapes Go.WideShapes Go.ChangeAt Go.RowKit
theorem beq_flip (a b:List UInt8):(a==b)=(b==a):=by rw[Bool.eq_iff_iff,beq_iff_eq,beq_iff_eq];exact eq_comm
theorem implIsVoid_any (s:ByteArray) (w:World):
 Calls Tryz.prog 216 #[.string s] w fun e w'=>e=.returned (.bool (inL voidL s))∧w=w':=by
 go_enter Tryz.func216,Tryz.ntmps216
 go_wp2
 all_goals (go_ret;exact ⟨ret_bool (by first | (simp only[inL,voidL,List.any_cons,List.any_nil,beq_flip _ s.toList, *];rfl) | (exfalso;simp_all;done)),rfl⟩)
theorem implIsRaw_any (s:ByteArray) (w:World):
 Calls Tryz.prog 209 #[.string s] w fun e w'=>e=.returned (.bool (inL rawL s))∧w=w':=by
 go_enter Tryz.func209,Tryz.ntmps209
 go_wp2
 all_goals (go_ret;exact ⟨ret_bool (by first | (simp only[inL,rawL,List.any_cons,List.any_nil,beq_flip _ s.toList, *];rfl) | (exfalso;simp_all;done)),rfl⟩)
def spaceI (s:ByteArray):Int:=if ([115,118,103]==s.toList)=true then 1 else if ([109,97,116,104]==s.toList)=true then 2 else 0
theorem implSpaceOf_any (s:ByteArray) (w:World):
 Calls Tryz.prog 234 #[.string s] w fun e w'=>e=.returned (.int .i64 (spaceI s))∧w=w':=by
 go_enter Tryz.func234,Tryz.ntmps234
 go_wp2
 all_goals (go_ret;exact ⟨ret_int (by first | (simp only[spaceI,beq_flip _ s.toList, *];rfl) | (exfalso;simp_all;done)),rfl⟩)
theorem l01Space_any (s:ByteArray) (w:World):
 Calls Tryz.prog 194 #[.string s] w fun e w'=>e=.returned (.int .i64 (spaceI s))∧w=w':=by
 go_enter Tryz.func194,Tryz.ntmps194
 go_wp2
 all_goals (go_ret;exact ⟨ret_int (by first | (simp only[spaceI,beq_flip _ s.toList, *];rfl) | (exfalso;simp_all;done)),rfl⟩)
end Go.Proofs.YthdkkpbhijlpaaaGreatDoor
namespace Go.Proofs.YthdkkpbhijlpaaaGreatDoor
open Go.ChangeShapes Go.WideShapes Go.ChangeAt Go.RowKit
theorem drop_cons {s:ByteArray} {n:Nat} (h:n<s.size):s.data.toList.drop n=s[n]::s.data.toList.drop (n+1):=by
 rw[List.drop_eq_getElem_cons (by simpa using h)];rfl
theorem low_great {c:Int} (h1:65≤c) (h2:c≤90):lowB c=c+32:=by simp[lowB,great,h1,h2]
theorem low_other {c:Int} (h:¬(65≤c∧c≤90)):lowB c=c:=by rw[lowB,if_neg (by simp[great];omega)]
end Go.Proofs.YthdkkpbhijlpaaaGreatDoor
namespace Go.Proofs.YthdkkpbhijlpaaaGreatDoor
open Go.ChangeShapes Go.WideShapes Go.ChangeAt Go.RowKit
def lowU (c:UInt8):UInt8:=if 65≤c∧c≤90 then c+32 else c
theorem lowU_nat (c:UInt8):((lowU c).toNat:Int)=lowB (c.toNat:Int):=by
 unfold lowU lowB great
 by_cases h:65≤c∧c≤90
 ·rw[if_pos h]
  obtain ⟨h1,h2⟩:=h
  rw[UInt8.le_iff_toNat_le]at h1 h2
  simp at h1 h2
  rw[if_pos (by simp;omega),UInt8.toNat_add]
  simp;omega
 ·rw[if_neg h,if_neg]
  intro e;apply h
  simp at e
  rw[UInt8.le_iff_toNat_le,UInt8.le_iff_toNat_le];simp;omega
theorem take_map_snoc {s:ByteArray} {k:Nat} (f:UInt8→UInt8) (h:k<s.size):(s.data.toList.take (k+1)).map f=(s.data.toList.take k).map f++[f s[k]]:=by
 rw[List.take_succ_eq_append_getElem (by simpa using h),List.map_append];rfl
theorem take_len {s:ByteArray} {k:Nat} (f:UInt8→UInt8):((s.data.toList.take k).map f).length≤k:=by simp;omega
set_option maxHeartbeats 1000000 in
theorem l01Lower_any (s:ByteArray) (w:World) (hs:s.size≤65536):
 Calls Tryz.prog 186 #[.string s] w fun e w'=>e=.returned (.string ⟨(s.data.toList.map lowU).toArray⟩)∧Below w.heap.size w w':=by
 go_enter Tryz.func186,Tryz.ntmps186
 go_wp2
 go_loopw [4,3,5] (fun i v _ wr=>∃k:Nat,k≤s.size∧i=.int .i64 k∧OwnB w wr v ((s.data.toList.take k).map lowU)) (fun i _ _ _=>s.size-(intOf i).toNat)
 case atStart=>exact ⟨0,by omega,rfl,OwnB.empty w⟩
 case round=>
  obtain ⟨k,hk,rfl,hown⟩:=hrel
  by_cases hlt:k<s.size
  ·have HB:=Lib.hid (lowU_nat s[k])
   have HL:=Lib.hid (take_len (s:=s) (k:=k) lowU)
   by_cases hg:65≤(s[k].toNat:Int)∧(s[k].toNat:Int)≤90
   ·obtain ⟨g1,g2⟩:=hg
    go_wp2_with (at_builtin;refine wpList_append_byte w _ rfl (.tmp 24) (.tmp 26) rfl _ _ _ (lowU s[k]) rfl rfl hown ?c1 ?c2 ?_)
    case c1=>have:=HL.out;omega
    case c2=>rw[HB.out,low_great g1 g2]
    intro v' w1 hown1
    clear hown
    go_wp2
    go_roundw
    case rel=>exact ⟨k+1,by omega,by go_num,by rw[take_map_snoc _ hlt,List.map_take];exact hown1⟩
    case measure=>simp[intOf];omega
   ·have HG:=Lib.hid hg
    have hg':(s[k].toNat:Int)<65∨(65≤(s[k].toNat:Int)∧decide ((s[k].toNat:Int)≤90)=false):=by
     by_cases q:(s[k].toNat:Int)<65
     ·exact Or.inl q
     ·exact Or.inr ⟨by omega,by simp;omega⟩
    clear hg
    rcases hg' with q3 | ⟨q3,q4⟩
    all_goals
     go_wp2_with (at_builtin;refine wpList_append_byte w _ rfl (.tmp 24) (.tmp 26) rfl _ _ _ (lowU s[k]) rfl rfl hown ?c1 ?c2 ?_)
     case c1=>have:=HL.out;omega
     case c2=>rw[HB.out,low_other HG.out]
     intro v' w1 hown1
     clear hown
     go_wp2
     go_roundw
     case rel=>exact ⟨k+1,by omega,by go_num,by rw[take_map_snoc _ hlt,List.map_take];exact hown1⟩
     case measure=>simp[intOf];omega
  ·obtain rfl:k=s.size:=by omega
   rw[List.take_of_length_le (by simp)]at hown
   go_wp2_with (refine wpList_string_own w _ rfl (.tmp 28) rfl _ _ rfl hown ?_)
   go_ret
   exact ⟨rfl,hown.2⟩
end Go.Proofs.YthdkkpbhijlpaaaGreatDoor
namespace Go.Proofs.YthdkkpbhijlpaaaGreatDoor
open Go.ChangeShapes Go.WideShapes Go.ChangeAt Go.RowKit Go.Deep
theorem addr_block (a:Addr) (j:Nat):(a.add j).block=a.block:=by unfold Addr.add;split <;> rfl
inductive Fo where
 | nil
 | cons (k sp:Int) (n t:ByteArray) (al:List (ByteArray × ByteArray)) (kids rest:Fo)
def Fo.len:Fo→Nat
 | .nil=>0
 | .cons _ _ _ _ _ _ r=>r.len+1
def AsAt (w:World) (b:Nat):Nat→List (ByteArray × ByteArray)→Prop
 | _,[]=>True
 | o,x::r=>w.cell? ⟨b,o,none⟩=some (.string x.1)∧w.cell? ⟨b,o+1,none⟩=some (.string x.2)∧x.1.size≤maxLen∧x.2.size≤maxLen∧AsAt w b (o+2) r
def RowAt (lo hi:Nat) (A:Option Addr) (n b o:Nat):Prop:=n≤maxLen∧(0<n→A=some ⟨b,o,none⟩∧lo≤b∧b<hi)
def RowC (lo hi:Nat) (A:Option Addr) (n c b o:Nat):Prop:=n≤c∧RowAt lo hi A n b o
def FoAt (w:World) (lo hi:Nat):Nat→Nat→Fo→Prop
 | _,_,.nil=>True
 | b,o,.cons k sp n t al kids rest=>
  (w.cell? ⟨b,o,none⟩=some (.int .i64 k)∧w.cell? ⟨b,o+1,none⟩=some (.int .i64 sp)∧w.cell? ⟨b,o+2,none⟩=some (.string n)∧w.cell? ⟨b,o+3,none⟩=some (.string t)∧n.size≤maxLen∧t.size≤maxLen) ∧
  (∃A c b' o',w.cell? ⟨b,o+4,none⟩=some (.slice A al.length c)∧RowC lo hi A al.length c b' o'∧AsAt w b' o' al) ∧
  (∃A c b' o',w.cell? ⟨b,o+5,none⟩=some (.slice A kids.len c)∧RowC lo hi A kids.len c b' o'∧FoAt w lo hi b' o' kids) ∧
  FoAt w lo hi b (o+6) rest
theorem RowAt.mono {lo hi lo' hi':Nat} {A:Option Addr} {n b o:Nat} (h:RowAt lo hi A n b o) (hl:lo'≤lo) (hh:hi≤hi'):RowAt lo' hi' A n b o:=
 ⟨h.1,fun h0=>⟨(h.2 h0).1,by have:=(h.2 h0).2.1;omega,by have:=(h.2 h0).2.2;omega⟩⟩
theorem AsAt.carry {w w':World} {b:Nat}:∀{al:List (ByteArray × ByteArray)} {o:Nat},AsAt w b o al→(∀o,w'.cell? ⟨b,o,none⟩=w.cell? ⟨b,o,none⟩)→AsAt w' b o al
 | [],_,_,_=>trivial
 | _::_,_,⟨h1,h2,h3,h4,h5⟩,hs=>⟨(hs _).trans h1,(hs _).trans h2,h3,h4,AsAt.carry h5 hs⟩
theorem FoAt.carry {w w':World} {lo hi lo' hi':Nat} (hl:lo'≤lo) (hh:hi≤hi') (hs:∀b o,lo≤b→b<hi→w'.cell? ⟨b,o,none⟩=w.cell? ⟨b,o,none⟩):
 ∀{F:Fo} {b o:Nat},FoAt w lo hi b o F→(∀j,j<6*F.len→w'.cell? ⟨b,o+j,none⟩=w.cell? ⟨b,o+j,none⟩)→FoAt w' lo' hi' b o F
 | .nil,_,_,_,_=>trivial
 | .cons k sp n t al kids rest,b,o,⟨⟨c0,c1,c2,c3,c4,c5⟩,⟨A,c,b',o',d1,d2,d3⟩,⟨K,kc,kb,ko,e1,e2,e3⟩,hr⟩,s=>by
  have hL:6≤6*(Fo.cons k sp n t al kids rest).len:=by simp[Fo.len];omega
  refine ⟨⟨(s 0 (by omega)).trans c0,(s 1 (by omega)).trans c1,(s 2 (by omega)).trans c2,(s 3 (by omega)).trans c3,c4,c5⟩,⟨A,c,b',o',(s 4 (by omega)).trans d1,⟨d2.1,d2.2.mono hl hh⟩,?_⟩,
   ⟨K,kc,kb,ko,(s 5 (by omega)).trans e1,⟨e2.1,e2.2.mono hl hh⟩,FoAt.carry hl hh hs e3 fun j hj=>?_⟩,FoAt.carry hl hh hs hr fun j hj=>?_⟩
  ·cases al with
   | nil=>trivial
   | cons x r=>
    have:=d2.2.2 (by simp)
    exact d3.carry fun o=>hs _ _ this.2.1 this.2.2
  ·have:=e2.2.2 (by omega)
   exact hs _ _ this.2.1 this.2.2
  ·have:=s (6+j) (by simp[Fo.len];omega)
   rwa[←Nat.add_assoc]at this
theorem FoAt.mono {w:World} {lo hi lo' hi':Nat} (hl:lo'≤lo) (hh:hi≤hi') {F:Fo} {b o:Nat} (h:FoAt w lo hi b o F):FoAt w lo' hi' b o F:=h.carry hl hh (fun _ _ _ _=>rfl) (fun _ _=>rfl)
theorem FoAt.below {w w':World} {lo hi B:Nat} {A:Option Addr} {F:Fo} {b o:Nat} (hA:RowAt lo hi A F.len b o) (h:FoAt w lo hi b o F) (hB:Below B w w') (hh:hi≤B):FoAt w' lo hi b o F:=
 h.carry (Nat.le_refl _) (Nat.le_refl _) (fun b o _ h2=>hB.cell (p:=⟨b,o,none⟩) (by show b<B;omega)) (fun j hj=>hB.cell (p:=⟨b,o+j,none⟩) (by have:=(hA.2 (by omega)).2.2;show b<B;omega))
def Fo.app:Fo→Fo→Fo
 | .nil,G=>G
 | .cons k sp n t al kids rest,G=>.cons k sp n t al kids (rest.app G)
theorem Fo.len_app:∀(F G:Fo),(F.app G).len=F.len+G.len
 | .nil,G=>by simp[Fo.app,Fo.len]
 | .cons _ _ _ _ _ _ r,G=>by simp[Fo.app,Fo.len,Fo.len_app r G];omega
theorem Fo.app_nil:∀F:Fo,F.app .nil=F
 | .nil=>rfl
 | .cons k sp n t al kids r=>by simp[Fo.app,Fo.app_nil r]
theorem Fo.app_assoc:∀F G H:Fo,(F.app G).app H=F.app (G.app H)
 | .nil,_,_=>rfl
 | .cons k sp n t al kids r,G,H=>by simp[Fo.app,Fo.app_assoc r G H]
theorem FoAt.app {w:World} {lo hi:Nat}:∀{F G:Fo} {b o:Nat},FoAt w lo hi b o F→FoAt w lo hi b (o+6*F.len) G→FoAt w lo hi b o (F.app G)
 | .nil,G,b,o,_,hG=>by simpa[Fo.app,Fo.len]using hG
 | .cons k sp n t al kids r,G,b,o,⟨h1,h2,h3,h4⟩,hG=>⟨h1,h2,h3,FoAt.app h4 (by simp only[Fo.len]at hG;rw[show o+6+6*r.len=o+6*(r.len+1) by omega];exact hG)⟩
def Fo.one (k sp:Int) (n t:ByteArray) (al:List (ByteArray × ByteArray)) (kids:Fo):Fo:=.cons k sp n t al kids .nil
theorem new_cell {w:World} {cs:Array Value} {t:TypeId} {j:Nat} {v:Value} (hv:cs[j]?=some v):(w.alloc (.cells cs t)).cell? ⟨w.heap.size,j,none⟩=some v:=by
 rw[World.cell?_alloc_new];exact hv
theorem box_cell {w w':World} {cs:Array Value} {t:TypeId} {j:Nat} {v:Value} (h:Below (w.alloc (.cells cs t)).heap.size (w.alloc (.cells cs t)) w') (hv:cs[j]?=some v):w'.cell? ⟨w.heap.size,j,none⟩=some v:=
 (h.cell (p:=⟨w.heap.size,j,none⟩) (by show w.heap.size<_;simp)).trans (new_cell hv)
def Lay (w:World) (g:Nat) (cs:Array Value):Prop:=(∀j,w.cell? ⟨g,j,none⟩=cs[j]?)∧∀j,w.frozen? ⟨g,j,none⟩=false
theorem Lay.below {w w':World} {g B:Nat} {cs:Array Value} (h:Lay w g cs) (hB:Below B w w') (hg:g<B):Lay w' g cs:=
 ⟨fun j=>(hB.cell (p:=⟨g,j,none⟩) hg).trans (h.1 j),fun j=>(hB.frozen (p:=⟨g,j,none⟩) hg).trans (h.2 j)⟩
theorem Lay.new (w:World) (cs:Array Value) (t:TypeId):Lay (w.alloc (.cells cs t)) w.heap.size cs:=⟨fun j=>World.cell?_alloc_new _ _ _ _,fun j=>by simp⟩
theorem Lay.alloc {w:World} {g:Nat} {cs:Array Value} (h:Lay w g cs) (hg:g<w.heap.size) (o:Obj):Lay (w.alloc o) g cs:=
 h.below ((Below.refl w.heap.size w).alloc (Nat.le_refl _) o) hg
theorem Lay.set {w:World} {g:Nat} {cs:Array Value} (h:Lay w g cs) (i:Nat) (v:Value):Lay (w.setCell ⟨g,i,none⟩ v) g (cs.setIfInBounds i v):=by
 refine ⟨fun j=>?_,fun j=>by rw[World.frozen?_setCell];exact h.2 j⟩
 by_cases e:j=i
 ·subst e
  by_cases hj:j<cs.size
  ·rw[World.cell?_setCell_same (u:=cs[j]) _ _ _ (by rw[h.1];simp[hj])];simp[hj]
  ·have h1:=h.1 j
   have:(w.setCell ⟨g,j,none⟩ v).cell? ⟨g,j,none⟩=none:=by
    have h2:w.cell? ⟨g,j,none⟩=none:=by rw[h1];exact Array.getElem?_eq_none (by omega)
    cases hc:(w.setCell ⟨g,j,none⟩ v).cell? ⟨g,j,none⟩ with
    | none=>rfl
    | some u=>
     exfalso
     simp only[World.cell?,World.setCell]at hc h2
     simp[Array.getElem?_modify]at hc
     cases hb:w.heap[g]? with
     | none=>simp[hb]at hc
     | some ob=>
      simp[hb]at hc h2
      cases ob <;> simp_all
   rw[this];exact (Array.getElem?_eq_none (by simp;omega)).symm
 ·rw[World.cell?_setCell_other (h:=by simp <;> omega),h.1];simp[Ne.symm e]
theorem oth0 {w:World} {g i b o:Nat} {v:Value} (h:g≠b):(w.setCell ⟨g,i,none⟩ v).cell? ⟨b,o,none⟩=w.cell? ⟨b,o,none⟩:=World.cell?_setCell_other _ _ _ _ (fun e=>h (by injection e))
theorem Lay.setOther {w:World} {g g':Nat} {cs:Array Value} (h:Lay w g cs) (hg:g'≠g) (i:Nat) (v:Value):Lay (w.setCell ⟨g',i,none⟩ v) g cs:=
 ⟨fun j=>by rw[oth0 hg];exact h.1 j,fun j=>by rw[World.frozen?_setCell];exact h.2 j⟩
section
variable {H:Type} {enc:TypeId × Value→H} {P:Program} {w:World} {base:Nat} {spare:Nat→Bool} {held:Bool}
theorem open_as {t e:TypeId} {f0 f1:Field} {fuel:Nat} {cs:List Value} {x:DataW H × List MemPlace} (ht:P.underlying t=some (.slice e)) (he:P.underlying e=some (.struct #[f0,f1]))
 (ce:P.cellsOf e=2) (o0:f0.offset=0) (o1:f1.offset=1) (c0:P.cellsOf f0.type=1) (c1:P.cellsOf f1.type=1) (s0:P.underlying f0.type=some .string) (s1:P.underlying f1.type=some .string)
 (h:DataW.trod enc P w base spare held fuel t cs=some x):
 ∃(al:List (ByteArray × ByteArray)) (A:Option Addr) (c b o:Nat),cs=[.slice A al.length c]∧RowC 0 w.heap.size A al.length c b o∧AsAt w b o al:=by
 rcases open_slice_pairs ht he ce o0 o1 c0 c1 h with ⟨rfl,_⟩ | ⟨a,len,cap,m,n,V0,V1,D0,D1,P0,P1,rfl,_,hl,hm,hmm,_,hx⟩
 ·exact ⟨[],none,0,0,0,rfl,⟨Nat.le_refl _,Nat.zero_le _,fun h=>absurd h (Nat.lt_irrefl _)⟩,trivial⟩
 have hlm:len≤m:=by rw[hmm];split <;> omega
 obtain ⟨b,o,spot⟩:=a
 by_cases hz:len=0
 ·subst hz
  exact ⟨[],_,cap,b,o,rfl,⟨Nat.zero_le _,Nat.zero_le _,fun h=>absurd h (Nat.lt_irrefl _)⟩,trivial⟩
 obtain ⟨hc,_⟩:=hx 0 (by omega)
 have hspot:spot=none:=by simpa[Addr.add]using World.cell?_spot hc
 subst hspot
 have hlt:b<w.heap.size:=by
  have:=World.block_lt_of_cell? w _ hc
  rwa[addr_block]at this
 have key:∀j,j≤len→∃al:List (ByteArray × ByteArray),al.length=j∧AsAt w b (o+(len-j)*2) al:=by
  intro j
  induction j with
  | zero=>intro _;exact ⟨[],rfl,trivial⟩
  | succ j ih=>
   intro hj
   obtain ⟨al,hlen,has⟩:=ih (by omega)
   obtain ⟨h0,h1,h2,h3⟩:=hx (len-(j+1)) (by omega)
   obtain ⟨s,e0,_,z0⟩:=DataW.trod_string s0 h2
   obtain ⟨s',e1,_,z1⟩:=DataW.trod_string s1 h3
   simp at e0 e1
   rw[e0,add_plain]at h0
   rw[e1,add_plain]at h1
   refine ⟨(s,s')::al,by simp[hlen],h0,by rw[Nat.add_assoc];exact h1,z0,z1,?_⟩
   rw[show o+(len-(j+1))*2+2=o+(len-j)*2 by omega]
   exact has
 obtain ⟨al,hlen,has⟩:=key len (Nat.le_refl _)
 refine ⟨al,_,cap,b,o,by rw[hlen],⟨by omega,by omega,fun _=>⟨rfl,Nat.zero_le _,hlt⟩⟩,?_⟩
 simpa using has
theorem open_fo {t e ta ea:TypeId} {g0 g1 f0 f1 f2 f3 f4 f5:Field} (ht:P.underlying t=some (.slice e)) (he:P.underlying e=some (.struct #[f0,f1,f2,f3,f4,f5]))
 (hta:P.underlying ta=some (.slice ea)) (hea:P.underlying ea=some (.struct #[g0,g1])) (ce:P.cellsOf e=6) (cea:P.cellsOf ea=2)
 (og:g0.offset=0∧g1.offset=1∧P.cellsOf g0.type=1∧P.cellsOf g1.type=1∧P.underlying g0.type=some .string∧P.underlying g1.type=some .string)
 (of:f0.offset=0∧f1.offset=1∧f2.offset=2∧f3.offset=3∧f4.offset=4∧f5.offset=5)
 (cf:P.cellsOf f0.type=1∧P.cellsOf f1.type=1∧P.cellsOf f2.type=1∧P.cellsOf f3.type=1∧P.cellsOf f4.type=1∧P.cellsOf f5.type=1)
 (uf:P.underlying f0.type=some (.int .i64)∧P.underlying f1.type=some (.int .i64)∧P.underlying f2.type=some .string∧P.underlying f3.type=some .string∧f4.type=ta∧f5.type=t):
 ∀(fuel:Nat) (cs:List Value) (x:DataW H × List MemPlace),DataW.trod enc P w base spare held fuel t cs=some x →
 ∃(F:Fo) (A:Option Addr) (c b o:Nat),cs=[.slice A F.len c]∧RowC 0 w.heap.size A F.len c b o∧FoAt w 0 w.heap.size b o F:=by
 obtain ⟨q0,q1,q2,q3,q4,q5⟩:=of
 obtain ⟨r0,r1,r2,r3,r4,r5⟩:=cf
 obtain ⟨u0,u1,u2,u3,u4,u5⟩:=uf
 obtain ⟨gq0,gq1,gr0,gr1,gu0,gu1⟩:=og
 intro fuel
 induction fuel using Nat.strongRecOn with
 | _ fuel ih=>
 intro cs x h
 have hf0:fuel≠0:=by rintro rfl;simp[DataW.trod]at h
 obtain ⟨fu,rfl⟩:∃fu,fuel=fu+1:=⟨fuel-1,by omega⟩
 rcases DataW.trod_slice ht h with ⟨rfl,_⟩ | ⟨a,len,cap,elems,rest,n,hn,rfl,_,_,hl,hm,hlen,hel,_,_⟩
 ·exact ⟨.nil,none,0,0,0,rfl,⟨Nat.le_refl _,Nat.zero_le _,fun h=>absurd h (Nat.lt_irrefl _)⟩,trivial⟩
 obtain rfl:n=fu:=by omega
 have hx:∀i,i<len→∃cs',w.cells? base (a.add (i*6)) 6=some cs'∧∃y,DataW.trod enc P w base spare held n e cs'=some y:=by
  intro i hi
  have:=hel i hi
  rw[List.getElem?_eq_getElem (by omega),ce]at this
  obtain ⟨cs',h1,h2⟩:=Option.bind_eq_some_iff.1 this
  exact ⟨cs',h1,_,h2⟩
 obtain ⟨b,o,spot⟩:=a
 by_cases hz:len=0
 ·subst hz
  exact ⟨.nil,_,cap,b,o,rfl,⟨Nat.zero_le _,Nat.zero_le _,fun h=>absurd h (Nat.lt_irrefl _)⟩,trivial⟩
 have hsp:spot=none∧b<w.heap.size:=by
  obtain ⟨cs',h1,y,h2⟩:=hx 0 (by omega)
  obtain ⟨_,hl6,hcell⟩:=World.cells?_some h1
  have hc:=hcell 0 (by omega)
  rw[List.getElem?_eq_getElem (by omega)]at hc
  refine ⟨by simpa[Addr.add]using World.cell?_spot hc,?_⟩
  have:=World.block_lt_of_cell? w _ hc
  rwa[addr_block,addr_block]at this
 obtain ⟨rfl,hlt⟩:=hsp
 have key:∀j,j≤len→∃F:Fo,F.len=j∧FoAt w 0 w.heap.size b (o+(len-j)*6) F:=by
  intro j
  induction j with
  | zero=>intro _;exact ⟨.nil,rfl,trivial⟩
  | succ j ihj=>
   intro hj
   obtain ⟨F,hlen,hF⟩:=ihj (by omega)
   obtain ⟨cs',h1,y,h2⟩:=hx (len-(j+1)) (by omega)
   obtain ⟨_,hl6,hcell⟩:=World.cells?_some h1
   obtain ⟨xs,k,hk,_,_,hxl,hf⟩:=DataW.trod_struct he h2
   match xs,hxl,cs',hl6 with
   | [y0,y1,y2,y3,y4,y5],_,[v0,v1,v2,v3,v4,v5],_=>
    have e0:=hf 0 f0 rfl
    have e1:=hf 1 f1 rfl
    have e2:=hf 2 f2 rfl
    have e3:=hf 3 f3 rfl
    have e4:=hf 4 f4 rfl
    have e5:=hf 5 f5 rfl
    simp[q0,q1,q2,q3,q4,q5,r0,r1,r2,r3,r4,r5]at e0 e1 e2 e3 e4 e5
    have d0:=hcell 0 (by omega)
    have d1:=hcell 1 (by omega)
    have d2:=hcell 2 (by omega)
    have d3:=hcell 3 (by omega)
    have d4:=hcell 4 (by omega)
    have d5:=hcell 5 (by omega)
    rw[Go.Deep.add_add,add_plain]at d0 d1 d2 d3 d4 d5
    simp at d0 d1 d2 d3 d4 d5
    obtain ⟨z0,p0,_,_⟩:=DataW.trod_int u0 e0
    obtain ⟨z1,p1,_,_⟩:=DataW.trod_int u1 e1
    obtain ⟨s2,p2,_,m2⟩:=DataW.trod_string u2 e2
    obtain ⟨s3,p3,_,m3⟩:=DataW.trod_string u3 e3
    rw[u4]at e4
    rw[u5]at e5
    obtain ⟨al,A,c,b',o',p4,l4,t4⟩:=open_as hta hea cea gq0 gq1 gr0 gr1 gu0 gu1 e4
    obtain ⟨K,A5,c5,b5,o5,p5,l5,t5⟩:=ih k (by omega) _ _ e5
    simp at p0 p1 p2 p3 p4 p5
    subst p0 p1 p2 p3 p4 p5
    refine ⟨.cons z0 z1 s2 s3 al K F,by simp[Fo.len,hlen],⟨d0,by simpa[Nat.add_assoc]using d1,by simpa[Nat.add_assoc]using d2,by simpa[Nat.add_assoc]using d3,m2,m3⟩,
     ⟨A,c,b',o',by simpa[Nat.add_assoc]using d4,l4,t4⟩,⟨A5,c5,b5,o5,by simpa[Nat.add_assoc]using d5,l5,t5⟩,?_⟩
    rw[show o+(len-(j+1))*6+6=o+(len-j)*6 by omega]
    exact hF
 obtain ⟨F,hlen,hF⟩:=key len (Nat.le_refl _)
 refine ⟨F,_,cap,b,o,by rw[hlen],⟨by omega,by omega,fun _=>⟨rfl,Nat.zero_le _,hlt⟩⟩,?_⟩
 simpa using hF
end
end Go.Proofs.YthdkkpbhijlpaaaGreatDoor
namespace Go.Proofs.YthdkkpbhijlpaaaGreatDoor
open Go.ChangeShapes Go.WideShapes Go.ChangeAt Go.RowKit
def AllTo (F:Int→Bool) (s:ByteArray) (a k:Nat):Prop:=∀i (h:i<s.size),a≤i→i<k→F (s[i].toNat:Int)=true
def Named (B F:Int→Bool) (s:ByteArray):Prop:=∃h:0<s.size,s.size≤12∧B (s[0].toNat:Int)=true∧AllTo F s 1 s.size
open Classical in
noncomputable def namedB (B F:Int→Bool) (s:ByteArray):Bool:=decide (Named B F s)
theorem namedB_true {B F:Int→Bool} {s:ByteArray} (h:Named B F s):true=namedB B F s:=by simp[namedB,h]
theorem namedB_false {B F:Int→Bool} {s:ByteArray} (h:¬Named B F s):false=namedB B F s:=by simp[namedB,h]
theorem allTo_step {F:Int→Bool} {s:ByteArray} {a k:Nat} (h:AllTo F s a k) (hk:k<s.size) (hf:F (s[k].toNat:Int)=true):AllTo F s a (k+1):=by
 intro i hi h1 h2
 by_cases e:i=k
 ·subst e;exact hf
 ·exact h i hi h1 (by omega)
theorem ne_nil {s:ByteArray} (h:0<s.size):¬s.toList=[]:=by
 intro e
 have h2:s.toList.length=s.size:=by rw[ByteArray.toList_eq];simp
 rw[e]at h2;simp at h2;omega
theorem ne_empty {s:ByteArray} (h:0<s.size):s.toList.isEmpty=false:=by
 rw[List.isEmpty_eq_false_iff];exact ne_nil h
theorem is_nil {s:ByteArray} (h:¬0<s.size):s.toList=[]:=by
 have h2:s.toList.length=s.size:=by rw[ByteArray.toList_eq];simp
 exact List.length_eq_zero_iff.mp (by omega)
set_option maxHeartbeats 400000 in
theorem isNameOf_tag (s:ByteArray) (w:World) (hs:s.size≤maxLen):
 Calls Tryz.prog 200 #[.string s,.func (.func 201) #[] #[],.func (.func 202) #[] #[]] w fun e w'=>e=.returned (.bool (namedB small tagB s))∧w=w':=by
 unfold maxLen at hs
 by_cases h0:0<s.size
 ·have hn:=ne_nil h0
  have he:=ne_empty h0
  by_cases h12:s.size≤12
  ·by_cases hb:small (s[0].toNat:Int)=true
   ·go_enter Tryz.func200,Tryz.ntmps200
    go_wp2_with (go_at_call 201;refine (isSmall_any _ _).mono ?_;rintro e w' ⟨rfl,rfl⟩)
    go_loop [7] (fun i=>∃k:Nat,1≤k∧k≤s.size∧i=.int .i64 k∧AllTo tagB s 1 k) (fun i=>s.size-(intOf i).toNat)
    case atStart=>exact ⟨1,by omega,by omega,rfl,fun i _ _ _=>by omega⟩
    case round=>
     obtain ⟨k,hk1,hk,rfl,hall⟩:=hrel
     have HA:=Lib.hid hall
     clear hall
     by_cases hlt:k<s.size
     ·by_cases hf:tagB (s[k].toNat:Int)=true
      ·go_wp2_with (go_at_call 202;refine (followsInTag_any _ _).mono ?_;rintro e w' ⟨rfl,rfl⟩)
       go_round
       case rel=>exact ⟨k+1,by omega,by omega,by go_num,allTo_step HA.out hlt hf⟩
       case measure=>simp[intOf];omega
      ·go_wp2_with (go_at_call 202;refine (followsInTag_any _ _).mono ?_;rintro e w' ⟨rfl,rfl⟩)
       go_ret
       exact ⟨ret_bool (namedB_false fun h=>hf (h.2.2.2 k hlt hk1 (by omega))),rfl⟩
     ·obtain rfl:k=s.size:=by omega
      go_wp2
      go_ret
      exact ⟨ret_bool (namedB_true ⟨h0,h12,hb,HA.out⟩),rfl⟩
   ·go_enter Tryz.func200,Tryz.ntmps200
    go_wp2_with (go_at_call 201;refine (isSmall_any _ _).mono ?_;rintro e w' ⟨rfl,rfl⟩)
    go_ret
    exact ⟨ret_bool (namedB_false fun h=>hb h.2.2.1),rfl⟩
  ·go_enter Tryz.func200,Tryz.ntmps200
   go_wp2
   go_ret
   exact ⟨ret_bool (namedB_false fun h=>h12 h.2.1),rfl⟩
 ·have hn:=is_nil h0
  go_enter Tryz.func200,Tryz.ntmps200
  go_wp2
  go_ret
  exact ⟨ret_bool (namedB_false fun h=>h0 h.1),rfl⟩
theorem implTagOK_any (s:ByteArray) (w:World) (hs:s.size≤maxLen):
 Calls Tryz.prog 140 #[.string s] w fun e w'=>e=.returned (.bool (namedB small tagB s))∧w=w':=by
 go_enter Tryz.func140,Tryz.ntmps140
 go_wp2_with (go_at_call 200;refine (isNameOf_tag _ _ hs).mono ?_;rintro e w' ⟨rfl,rfl⟩)
 go_ret
 exact ⟨rfl,rfl⟩
end Go.Proofs.YthdkkpbhijlpaaaGreatDoor
namespace Go.Proofs.YthdkkpbhijlpaaaGreatDoor
open Go.ChangeShapes Go.WideShapes Go.ChangeAt Go.RowKit
def TagTo (s:ByteArray) (k:Nat):Prop:=∀i (h:i<s.size),i<k→(if i=0 then small (s[i].toNat:Int) else tagB (s[i].toNat:Int))=true
theorem tagTo_step {s:ByteArray} {k:Nat} (h:TagTo s k) (hk:k<s.size) (hf:(if k=0 then small (s[k].toNat:Int) else tagB (s[k].toNat:Int))=true):TagTo s (k+1):=by
 intro i hi h2
 by_cases e:i=k
 ·subst e;exact hf
 ·exact h i hi (by omega)
theorem tagTo_named {s:ByteArray} (h0:0<s.size) (h12:s.size≤12) (h:TagTo s s.size):Named small tagB s:=
 ⟨h0,h12,by simpa using h 0 h0 h0,fun i hi h1 _=>by have:=h i hi hi;rwa[if_neg (by omega)]at this⟩
theorem named_tagTo {s:ByteArray} (h:Named small tagB s) {k:Nat} (hk:k<s.size):(if k=0 then small (s[k].toNat:Int) else tagB (s[k].toNat:Int))=true:=by
 obtain ⟨h0,_,hb,ha⟩:=h
 by_cases e:k=0
 ·subst e;rw[if_pos rfl];exact hb
 ·rw[if_neg e];exact ha k hk (by omega) hk
theorem small_yes {c:Int} (h:small c=true):97≤c∧c≤122:=by simpa[small]using h
theorem small_tag {c:Int} (h:small c=true):tagB c=true:=by simp[tagB,h]
theorem digit_tag {c:Int} (h:digit c=true):tagB c=true:=by simp[tagB,h]
theorem not_tag {c:Int} (h1:¬small c=true) (h2:¬digit c=true) (h3:¬c=45):¬tagB c=true:=by simp[tagB,h1,h2,h3]
set_option maxHeartbeats 1000000 in
theorem l01Tag_any (s:ByteArray) (w:World) (hs:s.size≤maxLen):
 Calls Tryz.prog 120 #[.string s] w fun e w'=>e=.returned (.bool (namedB small tagB s))∧w=w':=by
 unfold maxLen at hs
 by_cases h0:0<s.size
 ·by_cases h12:s.size≤12
  ·have hb1:(decide ((1:Int)≤s.size)&&decide ((s.size:Int)≤12))=true:=by simp;omega
   have HB:=Lib.hid hb1
   clear hb1
   go_enter Tryz.func120,Tryz.ntmps120
   go_wp2_with (go_at_call 32;refine (l01In_any _ _ _ _).mono ?_;rintro e w' ⟨rfl,rfl⟩;rw[HB.out])
   go_loop [3,4] (fun i b=>∃k:Nat,k≤s.size∧i=.int .i64 k∧TagTo s k) (fun i _=>s.size-(intOf i).toNat)
   case atStart=>exact ⟨0,by omega,rfl,fun i _ _=>by omega⟩
   case round=>
    obtain ⟨k,hk,rfl,hall⟩:=hrel
    have HA:=Lib.hid hall
    clear hall
    by_cases hlt:k<s.size
    ·by_cases hf:small (s[k].toNat:Int)=true
     ·have HF:=Lib.hid hf
      obtain ⟨f1,f2⟩:=small_yes hf
      clear hf
      go_wp2
      go_round
      case rel=>exact ⟨k+1,by omega,by go_num,tagTo_step HA.out hlt (by split;exact HF.out;exact small_tag HF.out)⟩
      case measure=>simp[intOf];omega
     ·have hf2:(s[k].toNat:Int)<97∨(97≤(s[k].toNat:Int)∧decide ((s[k].toNat:Int)≤122)=false):=by
       simp[small]at hf
       by_cases q:(s[k].toNat:Int)<97
       ·exact Or.inl q
       ·exact Or.inr ⟨by omega,by simp;omega⟩
      have HF:=Lib.hid hf
      clear hf
      by_cases e0:k=0
      ·subst e0
       rcases hf2 with f | ⟨f,fd⟩
       all_goals
        go_wp2
        go_ret
        exact ⟨ret_bool (namedB_false fun h=>HF.out (by simpa using named_tagTo h hlt)),rfl⟩
      ·have e0':((k:Int)==0)=false:=by simp;omega
       by_cases hd:digit (s[k].toNat:Int)=true
       ·rcases hf2 with f | ⟨f,fd⟩
        all_goals
         go_wp2_with (go_at_call 185;refine (l00Digit_any _ _).mono ?_;rintro e w' ⟨rfl,rfl⟩)
         go_round
         case rel=>exact ⟨k+1,by omega,by go_num,tagTo_step HA.out hlt (by rw[if_neg e0];exact digit_tag hd)⟩
         case measure=>simp[intOf];omega
       ·by_cases hm:((s[k].toNat:Int) != 45)=true
        ·rcases hf2 with f | ⟨f,fd⟩
         all_goals
          go_wp2_with (go_at_call 185;refine (l00Digit_any _ _).mono ?_;rintro e w' ⟨rfl,rfl⟩)
          go_ret
          exact ⟨ret_bool (namedB_false fun h=>not_tag HF.out hd (by simpa using hm) (by have:=named_tagTo h hlt;rwa[if_neg e0]at this)),rfl⟩
        ·have hm':((s[k].toNat:Int) != 45)=false:=by simpa using hm
         clear hm
         rcases hf2 with f | ⟨f,fd⟩
         all_goals
          go_wp2_with (go_at_call 185;refine (l00Digit_any _ _).mono ?_;rintro e w' ⟨rfl,rfl⟩)
          go_round
          case rel=>exact ⟨k+1,by omega,by go_num,tagTo_step HA.out hlt (by rw[if_neg e0,tagB];simp at hm';simp[hm'])⟩
          case measure=>simp[intOf];omega
    ·obtain rfl:k=s.size:=by omega
     go_wp2
     go_ret
     exact ⟨ret_bool (namedB_true (tagTo_named h0 h12 HA.out)),rfl⟩
  ·have hb1:(decide ((1:Int)≤s.size)&&decide ((s.size:Int)≤12))=false:=by simp;omega
   have HB:=Lib.hid hb1
   clear hb1
   go_enter Tryz.func120,Tryz.ntmps120
   go_wp2_with (go_at_call 32;refine (l01In_any _ _ _ _).mono ?_;rintro e w' ⟨rfl,rfl⟩;rw[HB.out])
   go_ret
   exact ⟨ret_bool (namedB_false fun h=>h12 h.2.1),rfl⟩
 ·have hb1:(decide ((1:Int)≤s.size)&&decide ((s.size:Int)≤12))=false:=by simp;omega
  have HB:=Lib.hid hb1
  clear hb1
  go_enter Tryz.func120,Tryz.ntmps120
  go_wp2_with (go_at_call 32;refine (l01In_any _ _ _ _).mono ?_;rintro e w' ⟨rfl,rfl⟩;rw[HB.out])
  go_ret
  exact ⟨ret_bool (namedB_false fun h=>h0 h.1),rfl⟩
end Go.Proofs.YthdkkpbhijlpaaaGreatDoor
