import Derived.Test.YthdkkpbhijlpaaaGreatDoorQ01
set_option linter.unusedVariables false
namespace Go.Proofs.YthdkkpbhijlpaaaGreatDoor
open Go.ChangeShapes Go.WideShapes Go.ChangeAt Go.RowKit Go.Shelf
def Plain (f:UInt8→List UInt8) (s:ByteArray) (a b:Nat):Prop:=∀j (_:j<s.size),a≤j→j<b→f s[j]=[s[j]]
theorem Plain.nil (f:UInt8→List UInt8) (s:ByteArray) (a:Nat):Plain f s a a:=fun j _ h1 h2=>by omega
theorem Plain.more {f:UInt8→List UInt8} {s:ByteArray} {a b c:Nat} (h:Plain f s a b) (h':Plain f s b c):Plain f s a c:=fun j hj h1 h2=>by
 by_cases e:j<b
 ·exact h j hj h1 e
 ·exact h' j hj (by omega) h2
theorem Plain.one {f:UInt8→List UInt8} {s:ByteArray} {a:Nat} (ha:a<s.size) (h:f s[a]=[s[a]]):Plain f s a (a+1):=fun j hj h1 h2=>by
 obtain rfl:j=a:=by omega
 exact h
theorem escL_plain {f:UInt8→List UInt8} {s:ByteArray} {a:Nat}:∀{b:Nat},a≤b→b≤s.size→Plain f s a b→escL f (s.data.toList.take b)=escL f (s.data.toList.take a)++(s.data.toList.take b).drop a
 | b,hab,hb,h=>by
  obtain ⟨d,rfl⟩:=Nat.exists_eq_add_of_le hab
  induction d with
  | zero=>simp
  | succ d ih=>
   have hd:a+d<s.size:=by omega
   have ih':=ih (by omega) (by omega) (fun j hj h1 h2=>h j hj h1 (by omega))
   have hf:=h (a+d) hd (by omega) (by omega)
   rw[show a+(d+1)=a+d+1 from rfl,escL_snoc f s (a+d) hd,ih',hf,List.append_assoc]
   congr 1
   rw[List.take_succ_eq_append_getElem (by simpa using hd),List.drop_append_of_le_length (by simp;omega)]
   rfl
theorem extract_list (s:ByteArray) (a b:Nat):(s.extract a b).data.toList=(s.data.toList.take b).drop a:=by
 rw[ByteArray.data_extract,Array.toList_extract,List.extract_eq_take_drop,List.drop_take]
theorem markOf_len (r:Nat):(markOf r).data.toList.length≤6:=by
 unfold markOf
 repeat' split
 all_goals simp
structure Escapes (f:UInt8→List UInt8) (ms:List Nat):Prop where
 yes:∀c:UInt8,isIn ms c.toNat=true→f c=(markOf c.toNat).data.toList
 no:∀c:UInt8,isIn ms c.toNat=false→f c=[c]
 all:∀r,isIn ms r=true→r ∈ allMarks
 len:∀c,(f c).length≤6
theorem allMarks_lt {r:Nat} (h:r ∈ allMarks):r<128:=by
 simp only[allMarks,List.mem_cons,List.not_mem_nil,or_false]at h;omega
theorem Escapes.high {f:UInt8→List UInt8} {ms:List Nat} (h:Escapes f ms) {r:Nat} (hr:128≤r):isIn ms r=false:=by
 cases e:isIn ms r
 ·rfl
 ·have:=allMarks_lt (h.all r e);omega
theorem Escapes.plainRune {f:UInt8→List UInt8} {ms:List Nat} (h:Escapes f ms) {s:ByteArray} {pos:Nat} (hp:pos<s.size) (ha:128≤(s[pos]'hp).toNat):Plain f s pos (pos+(Utf8.decode s pos).2):=
 fun j hj h1 h2=>h.no _ (h.high (conts hp ha j hj h1 h2))
theorem Texts.new (ps:List ByteArray) (w:World):Texts w.heap.size ps (w.alloc (.cells (ps.map Value.string).toArray 9)):=by
 show (w.heap.push _)[w.heap.size]?=_
 simp
theorem Nums.below {m:Nat} {ms:List Nat} {w w':World} {B:Nat} (h:Nums m ms w) (hb:Below B w w') (hm:m<B):Nums m ms w':=(hb.block m hm).trans h
theorem BldF.drew {B b:Nat} {bs:List Value} {w:World} (h:BldF B b bs w):BldF B b bs w.drew:=h
def EscRel (f:UInt8→List UInt8) (s:ByteArray) (w wr:World) (a b:Nat):Prop:=
 a≤b∧b≤s.size∧BldF w.heap.size w.heap.size (Lib.byteCells (escL f (s.data.toList.take a))) wr∧wr.heap[w.heap.size+1]?=some (.stringIter s b)∧Below w.heap.size w wr∧Plain f s a b
theorem EscRel.start (f:UInt8→List UInt8) (s:ByteArray) (w:World):EscRel f s w ((w.alloc (.cells #[.pointer none,.slice none 0 0] 94)).iter s 0) 0 0:=by
 refine ⟨Nat.le_refl _,Nat.zero_le _,?_,?_,((Below.refl _ w).alloc (Nat.le_refl _) _).alloc (by simp) _,Plain.nil _ _ _⟩
 ·have:=(Lib.IsBuilderF.of (Lib.fresh_isBuilder 94 5 w)).alloc (.stringIter s 0)
  simp only[List.take_zero]
  exact this
 ·have:=World.iter_heap (w.alloc (.cells #[.pointer none,.slice none 0 0] 94)) s 0
  simpa using this
theorem EscRel.mark {f:UInt8→List UInt8} {ms:List Nat} (hf:Escapes f ms) {s:ByteArray} {w w2:World} {a b:Nat} (hb:b<s.size) (hab:a≤b) (hpl:Plain f s a b) (hm:isIn ms (s[b]'hb).toNat=true)
 (hI:BldF w.heap.size w.heap.size (Lib.byteCells (escL f (s.data.toList.take a)++flat [s.extract a b,markOf (s[b]'hb).toNat])) w2) (hit:w2.heap[w.heap.size+1]?=some (.stringIter s (b+1))) (hbw:Below w.heap.size w w2):
 EscRel f s w w2 (b+1) (b+1):=by
 refine ⟨Nat.le_refl _,hb,?_,hit,hbw,Plain.nil _ _ _⟩
 rw[escL_snoc f s b hb,escL_plain hab (by omega) hpl,hf.yes _ hm,List.append_assoc]
 simpa[flat,extract_list,List.drop_take]using hI
theorem flat2_len {f:UInt8→List UInt8} {ms:List Nat} (hf:Escapes f ms) (s:ByteArray) (hs:s.size≤65536) (a b r:Nat):(escL f (s.data.toList.take a)).length+(flat [s.extract a b,markOf r]).length≤140737488355328:=by
 have h1:=escL_len hf.len (s.data.toList.take a)
 have h2:(s.data.toList.take a).length≤s.size:=by simp;omega
 have h3:=markOf_len r
 have h4:(s.extract a b).data.toList.length≤s.size:=by rw[extract_list];simp;omega
 have h5:(flat [s.extract a b,markOf r]).length=(s.extract a b).data.toList.length+(markOf r).data.toList.length:=by simp[flat]
 omega
theorem writeTwo_any (B:Nat) (l:List UInt8) (x y:ByteArray) (w:World) (hI:BldF B B (Lib.byteCells l) w) (hlen:l.length+(flat [x,y]).length≤140737488355328) (hBw:B<w.heap.size):
 Calls Tryz.prog 116 #[.pointer (some ⟨B,0,none⟩),.slice (some ⟨w.heap.size,0,none⟩) 2 2] (w.alloc (.cells #[.string x,.string y] 9))
  fun e w'=>e=.returned (.tuple #[])∧(BldF B B (Lib.byteCells (l++flat [x,y])) w'∧Below B w w'∧Kept B w w'):=
 (writePieces_any B B w.heap.size l [x,y] _ (Lib.IsBuilderF.alloc hI _) (Texts.new [x,y] w) (by omega) (by show 2≤_;omega) hlen (by simp;omega)).mono fun _ _ ⟨he,h1,h2,h3⟩=>
  ⟨he,h1,((Below.refl _ w).alloc (by omega) _).trans h2,((Lib.OthersKept.refl _ _ w).alloc _).trans h3⟩
theorem writeOne_any (B:Nat) (l:List UInt8) (x:ByteArray) (w:World) (hI:BldF B B (Lib.byteCells l) w) (hlen:l.length+(flat [x]).length≤140737488355328) (hBw:B<w.heap.size):
 Calls Tryz.prog 116 #[.pointer (some ⟨B,0,none⟩),.slice (some ⟨w.heap.size,0,none⟩) 1 1] (w.alloc (.cells #[.string x] 9))
  fun e w'=>e=.returned (.tuple #[])∧(BldF B B (Lib.byteCells (l++flat [x])) w'∧Below B w w'∧Kept B w w'):=
 (writePieces_any B B w.heap.size l [x] _ (Lib.IsBuilderF.alloc hI _) (Texts.new [x] w) (by omega) (by show 1≤_;omega) hlen (by simp;omega)).mono fun _ _ ⟨he,h1,h2,h3⟩=>
  ⟨he,h1,((Below.refl _ w).alloc (by omega) _).trans h2,((Lib.OthersKept.refl _ _ w).alloc _).trans h3⟩
theorem flat1_len {f:UInt8→List UInt8} {ms:List Nat} (hf:Escapes f ms) (s:ByteArray) (hs:s.size≤65536) (a:Nat):(escL f (s.data.toList.take a)).length+(flat [s.extract a s.size]).length≤140737488355328:=by
 have h1:=escL_len hf.len (s.data.toList.take a)
 have h2:(s.data.toList.take a).length≤s.size:=by simp;omega
 have h4:(s.extract a s.size).data.toList.length≤s.size:=by rw[extract_list];simp
 have h5:(flat [s.extract a s.size]).length=(s.extract a s.size).data.toList.length:=by simp[flat]
 omega
theorem escL_last {f:UInt8→List UInt8} {s:ByteArray} {a:Nat} (h:Plain f s a s.size) (ha:a≤s.size):escL f (s.data.toList.take a)++flat [s.extract a s.size]=escL f s.data.toList:=by
 have e:=escL_plain ha (Nat.le_refl _) h
 have h0:s.data.toList.take s.size=s.data.toList:=List.take_of_length_le (by simp)
 have h1:flat [s.extract a s.size]=(s.data.toList.take s.size).drop a:=by
  rw[←extract_list];simp[flat]
 rw[h1,←e,h0]
set_option maxHeartbeats 4000000 in
set_option maxRecDepth 100000 in
theorem escapeMarks_small (f:UInt8→List UInt8) (ms:List Nat) (hf:Escapes f ms) (m:Nat) (s:ByteArray) (w:World) (hs:(s.size:Int)≤65536) (hm:Nums m ms w) (hn:ms.length≤1000):
 Calls Tryz.prog 184 #[.string s,.slice (some ⟨m,0,none⟩) ms.length ms.length] w fun e w'=>e=.returned (.string (escS f s s.size))∧Below w.heap.size w w':=by
 have HF:=Lib.hid hf
 clear hf
 have hmlt:m<w.heap.size:=(Array.getElem?_eq_some_iff.1 hm).1
 go_enter Tryz.func184,Tryz.ntmps184
 go_wp2
 go_loopw [6] (fun i wr=>∃a b:Nat,i=.int .i64 a∧EscRel f s w wr a b) (fun _ wr=>s.size-wr.iterPos (w.heap.size+1))
 case atStart=>exact ⟨0,0,rfl,EscRel.start f s w⟩
 case round=>
  obtain ⟨a,b,rfl,hab,hbs,hI,hit,hbw,hpl⟩:=hrel
  have HP:=Lib.hid hpl
  clear hpl
  have hsz:w.heap.size+1<wr.heap.size:=(Array.getElem?_eq_some_iff.1 hit).1
  by_cases hp:b<s.size
  ·by_cases ha:(s[b]'hp).toNat<128
   ·have hnx:∀ty,(Instr.next (.pointer (some ⟨w.heap.size+1,0,none⟩)) true ty).run Tryz.prog wr=_:=fun ty=>Lib.run_next_ascii_at wr (w.heap.size+1) s b ty hit hp ha
    have hI2:=hI.iterAt hit (b+1)
    have hit2:=Lib.iterAt_heap wr (w.heap.size+1) s b (b+1) hit
    have hbw2:=Lib.below_iterAt hbw (k:=w.heap.size+1) (by omega) s (b+1)
    have hsz2:w.heap.size+1<(wr.iterAt (w.heap.size+1) s (b+1)).heap.size:=by rw[Lib.iterAt_size];omega
    have hm2:=hm.below hbw2 hmlt
    generalize hW:wr.iterAt (w.heap.size+1) s (b+1)=W2 at hnx hI2 hit2 hbw2 hsz2 hm2
    clear hW hI hbw
    by_cases hin:isIn ms (s[b]'hp).toNat=true
    ·have HIN:=Lib.hid hin
     have hx:=cut_at s a b hab (by omega) a b rfl rfl
     go_wp2_with (go_at_call 237;refine (contains_yes m ms _ _ hm2 hn hin).mono ?_;rintro e w1 ⟨rfl,rfl⟩)
     clear hin
     refine wp_region_still_tail 6 (by kernel_rfl) (by kernel_rfl) ?_
     simp only[List.take_succ_cons,List.take_zero,List.drop_succ_cons,List.drop_zero]
     repeat still_step
     still_call ((escapeOf_any (s[b]'hp).toNat (HF.out.all _ HIN.out) _).mono fun _ _ ⟨h1,h2⟩=>⟨h1,h2.symm⟩)
     refine wpStill_nil ?_
     have hI3:=BldF.drew hI2
     have hit3:W2.drew.heap[w.heap.size+1]?=some (.stringIter s (b+1)):=hit2
     have hbw3:Below w.heap.size w W2.drew:=Below.drew hbw2
     have hsz3:w.heap.size+1<W2.drew.heap.size:=hsz2
     change wpList _ _ _ _ _ W2.drew
     generalize W2.drew=W3 at hI3 hit3 hbw3 hsz3 ⊢
     clear hI2 hit2 hbw2 hsz2 hm2 hnx
     have hl2:=flat2_len HF.out s (by omega) a b (s[b]'hp).toNat
     have hsz4:w.heap.size<W3.heap.size:=by omega
     go_wp2_with (go_at_call 116;refine (writeTwo_any w.heap.size _ (s.extract a b) (markOf (s[b]'hp).toNat) W3 hI3 hl2 hsz4).mono ?_)
     rintro e w1 ⟨rfl,g1,g2,g3⟩
     have hit4:w1.heap[w.heap.size+1]?=some (.stringIter s (b+1)):=g3.iter hit3 (by omega)
     have hbw4:Below w.heap.size w w1:=hbw3.trans g2
     go_wp2
     go_roundw
     case rel=>exact ⟨b+1,b+1,by go_num,EscRel.mark HF.out hp hab HP.out HIN.out g1 hit4 hbw4⟩
     case measure=>
      simp only[World.iterPos,hit4,hit]
      omega
    ·have hin':isIn ms (s[b]'hp).toNat=false:=by simpa using hin
     clear hin
     go_wp2_with (go_at_call 237;refine (contains_no m ms _ _ hm2 hn hin').mono ?_;rintro e w1 ⟨rfl,rfl⟩)
     go_roundw
     case rel=>exact ⟨a,b+1,rfl,by omega,hp,hI2,hit2,hbw2,HP.out.more (Plain.one hp (HF.out.no _ hin'))⟩
     case measure=>
      simp only[World.iterPos,hit2,hit]
      omega
   ·have hnx:∀ty,(Instr.next (.pointer (some ⟨w.heap.size+1,0,none⟩)) true ty).run Tryz.prog wr=_:=fun ty=>Lib.run_next_any_at wr (w.heap.size+1) s b ty hit hp
    obtain ⟨hw1,hw2⟩:=width_in hp
    have hI2:=hI.iterAt hit (b+(Utf8.decode s b).2)
    have hit2:=Lib.iterAt_heap wr (w.heap.size+1) s b (b+(Utf8.decode s b).2) hit
    have hbw2:=Lib.below_iterAt hbw (k:=w.heap.size+1) (by omega) s (b+(Utf8.decode s b).2)
    have hm2:=hm.below hbw2 hmlt
    generalize hW:wr.iterAt (w.heap.size+1) s (b+(Utf8.decode s b).2)=W2 at hnx hI2 hit2 hbw2 hm2
    clear hW hI hbw
    have hin':=HF.out.high (decode_high s b hp (by omega)).1
    go_wp2_with (go_at_call 237;refine (contains_no m ms _ _ hm2 hn hin').mono ?_;rintro e w1 ⟨rfl,rfl⟩)
    go_roundw
    case rel=>exact ⟨a,b+(Utf8.decode s b).2,rfl,by omega,hw2,hI2,hit2,hbw2,HP.out.more (HF.out.plainRune hp (by omega))⟩
    case measure=>
     simp only[World.iterPos,hit2,hit]
     omega
  ·obtain rfl:b=s.size:=by omega
   have hnx:∀ty,(Instr.next (.pointer (some ⟨w.heap.size+1,0,none⟩)) true ty).run Tryz.prog wr=_:=fun ty=>Lib.run_next_end_at wr (w.heap.size+1) s s.size ty hit hp
   have hx:∀w,(Instr.slice 9 (.string s) (some (.int .i64 a)) none none).run Tryz.prog w=.ok (.string (s.extract a s.size)) w:=fun w=>by
    rw[run_slice_string_from_if w 9 s .i64 _ Tryz.underlying9,if_pos (by omega)]
    simp
   have hl:=flat1_len HF.out s (by omega) a
   have hsz5:w.heap.size<wr.heap.size:=by omega
   go_wp2_with (go_at_call 116;refine (writeOne_any w.heap.size _ (s.extract a s.size) wr hI hl hsz5).mono ?_)
   rintro e w1 ⟨rfl,g1,g2,g3⟩
   have hbw4:Below w.heap.size w w1:=hbw.trans g2
   have e1:=escL_last HP.out hab
   rw[e1]at g1
   have hsz4:w.heap.size≤w1.heap.size:=hbw4.size
   go_wp2_with (go_at_call 62;refine (string_any w.heap.size w.heap.size _ _ g1 hsz4).mono ?_)
   rintro e w2 ⟨rfl,_,k2,_⟩
   go_wp2
   go_ret
   exact ⟨ret_string (by rw[escS_all]),hbw4.trans k2⟩
theorem escapeMarks_big (m n:Nat) (s:ByteArray) (w:World) (hs:(65536:Int)<s.size):
 Calls Tryz.prog 184 #[.string s,.slice (some ⟨m,0,none⟩) n n] w fun e w'=>e=.returned (.string ⟨#[]⟩)∧w=w':=by
 go_enter Tryz.func184,Tryz.ntmps184
 go_wp2
 go_ret
 exact ⟨rfl,rfl⟩
theorem escapeMarks_any (f:UInt8→List UInt8) (ms:List Nat) (hf:Escapes f ms) (m n:Nat) (hn':n=ms.length) (s:ByteArray) (w:World) (hm:Nums m ms w) (hn:ms.length≤1000):
 Calls Tryz.prog 184 #[.string s,.slice (some ⟨m,0,none⟩) n n] w fun e w'=>e=.returned (.string (escAns f s))∧Below w.heap.size w w':=by
 subst hn'
 by_cases h:(s.size:Int)≤65536
 ·exact (escapeMarks_small f ms hf m s w h hm hn).mono fun e w' ⟨he,hb⟩=>⟨he.trans (ret_string (by rw[escAns,if_pos (by omega)])),hb⟩
 ·exact (escapeMarks_big m _ s w (by omega)).mono fun e w' ⟨he,hb⟩=>⟨he.trans (ret_string (by rw[escAns,if_neg (by omega)])),hb ▸ Below.refl _ _⟩
theorem Nums.new (ms:List Nat) (w:World):Nums w.heap.size ms (w.alloc (.cells (ms.map fun (r:Nat)=>Value.int .i32 (r:Int)).toArray 21)):=by
 show (w.heap.push _)[w.heap.size]?=_
 simp
theorem byte_is {c:UInt8} {n:Nat} (hn:n<256) (h:c.toNat=n):c=UInt8.ofNat n:=by
 apply UInt8.toNat_inj.1;simp;omega
theorem byte_isnt {c:UInt8} {n:Nat} (hn:n<256) (h:¬c.toNat=n):¬c=UInt8.ofNat n:=by
 rintro rfl
 apply h
 simp;omega
theorem escapes_text:Escapes escT [38,60,62]:=by
 refine ⟨fun c h=>?_,fun c h=>?_,fun r h=>?_,escT_len⟩
 ·simp[isIn]at h
  rcases h with h | h | h
  all_goals (rw[byte_is (n:=_) (by omega) h.symm];rfl)
 ·simp[isIn]at h
  have e1:¬c=38:=byte_isnt (n:=38) (by omega) (by omega)
  have e2:¬c=60:=byte_isnt (n:=60) (by omega) (by omega)
  have e3:¬c=62:=byte_isnt (n:=62) (by omega) (by omega)
  rw[escT,if_neg e1,if_neg e2,if_neg e3]
 ·simp[isIn]at h
  simp[allMarks];omega
theorem escapes_value:Escapes escV [38,60,62,34]:=by
 refine ⟨fun c h=>?_,fun c h=>?_,fun r h=>?_,escV_len⟩
 ·simp[isIn]at h
  rcases h with h | h | h | h
  all_goals (rw[byte_is (n:=_) (by omega) h.symm];rfl)
 ·simp[isIn]at h
  have e0:¬c=34:=byte_isnt (n:=34) (by omega) (by omega)
  rw[escV,if_neg e0]
  exact escapes_text.no c (by simp[isIn];omega)
 ·simp[isIn]at h
  simp[allMarks];omega
theorem implEscapeText_any (s:ByteArray) (w:World):
 Calls Tryz.prog 117 #[.string s] w fun e w'=>e=.returned (.string (escAns escT s))∧Below w.heap.size w w':=by
 go_enter Tryz.func117,Tryz.ntmps117
 go_wp2_with (go_at_call 184;refine (escapeMarks_any escT [38,60,62] escapes_text w.heap.size 3 rfl s _ (Nums.new [38,60,62] w) (by decide)).mono ?_)
 rintro e w1 ⟨rfl,hb⟩
 have hb':Below w.heap.size w w1:=((Below.refl _ w).alloc (Nat.le_refl _) _).trans (hb.mono (by simp))
 go_wp2
 go_ret
 exact ⟨rfl,hb'⟩
theorem implEscapeValue_any (s:ByteArray) (w:World):
 Calls Tryz.prog 235 #[.string s] w fun e w'=>e=.returned (.string (escAns escV s))∧Below w.heap.size w w':=by
 go_enter Tryz.func235,Tryz.ntmps235
 go_wp2_with (go_at_call 184;refine (escapeMarks_any escV [38,60,62,34] escapes_value w.heap.size 4 rfl s _ (Nums.new [38,60,62,34] w) (by decide)).mono ?_)
 rintro e w1 ⟨rfl,hb⟩
 have hb':Below w.heap.size w w1:=((Below.refl _ w).alloc (Nat.le_refl _) _).trans (hb.mono (by simp))
 go_wp2
 go_ret
 exact ⟨rfl,hb'⟩
end Go.Proofs.YthdkkpbhijlpaaaGreatDoor
