/-
  For every input (tree) the law FnExactStable answers true. Condition: the library's laid variables hold what its initialisers lay, which the card ties.
-/
import Derived.Test.YthdkkpbhijlpaaaGreatDoorCards
import Derived.WalkKit
import Derived.OpenShut
import Derived.ShutString
import Derived.Below
import Derived.ChangeOld
import Derived.Test.YthdkkpbhijlpaaaGreatDoorQ19
import Derived.Test.YthdkkpbhijlpaaaGreatDoorJnStable
import Derived.Test.YthdkkpbhijlpaaaGreatDoorQ40
namespace Go.Proofs.YthdkkpbhijlpaaaGreatDoor.fnExactStable
open Go.ChangeShapes Go.WideShapes Go.ChangeAt Go.RowKit
open Go.ChangeMaps (open_string shut_string)
set_option linter.unusedVariables false
theorem own:ownKnob Tryz.prog.godebug=none:=by kernel_rfl
theorem laidOut:laidOutB Tryz.prog=true:=by kernel_rfl
set_option maxRecDepth 100000 in
theorem contract (H:Type) (enc:TypeId × Value→H) (W:World) (base:Nat) (args:Array Value) (ds gs:List (DataW H)) (before:List MemPlace)
 (hval:∀(j:Nat) t v,Tryz.f5.params[j]?=some t→args[j]?=some v→Value.okWide Tryz.prog W .any base t v)
 (hW:DataW.Whole enc Tryz.prog Tryz.f5.params.toList Rows.fnExactStableSpec.vars false W args.toList ds gs before) (hL:laidMetH Tryz.prog Rows.fnExactStableRow.laid W) (hsh:W.ShapedOpen Tryz.prog):
 Calls Tryz.prog 5 args W fun e W'=>∃v,e=.returned v∧Rows.fnExactStableSpec.post enc Tryz.prog Tryz.f5 false true false false W args v W':=by
 have hL':laidMet Tryz.prog laidL W:=hL
 have hW':=hW
 obtain ⟨p,q,hA0,hV,rfl,hfz,hnd⟩:=hW
 have hA:DataW.TrodAll enc Tryz.prog W 0 (fun _=>true) true Tryz.f5.params.toList args.toList ds p:=hA0
 rw[Tryz.params5]at hA hval
 obtain ⟨v0,vs0,d0,ds0,p0,q0,hargs,rfl,rfl,h0,r0⟩:=trodAll_cons hA
 obtain ⟨rfl,rfl,rfl⟩:=trodAll_nil r0
 obtain rfl:args=#[v0]:=by cases args;simp_all
 obtain ⟨rfl,rfl⟩:=trodVars_none hV
 obtain ⟨a0,len0,cap0,rfl⟩:=okWide_slice Tryz.underlying22 (hval 0 22 v0 rfl rfl)
 have k0:=h0
 have lt0:∀x ∈ p0,x.block<W.heap.size:=by obtain ⟨m,hm⟩:=k0;exact DataW.trod_lt m _ _ _ hm
 obtain ⟨F0,A0,c0,b0,o0,hc0,hr0,hf0⟩:∃(F:Fo) (A:Option Addr) (c b o:Nat),Value.slice a0 len0 cap0=.slice A F.len c∧RowAt 0 W.heap.size A F.len b o∧FoAt W 0 W.heap.size b o F:=by
  obtain ⟨fuel,hf⟩:=h0
  obtain ⟨F,A,c,b,o,hcs,hr,hfo⟩:=open_fo (ea:=132) (e:=51) (ta:=49) Tryz.underlying22 Tryz.underlying51 Tryz.underlying49 Tryz.underlying132 (by kernel_rfl) (by kernel_rfl) (by refine ⟨?_,?_,?_,?_,?_,?_⟩ <;> kernel_rfl) (by refine ⟨?_,?_,?_,?_,?_,?_⟩ <;> kernel_rfl) (by refine ⟨?_,?_,?_,?_,?_,?_⟩ <;> kernel_rfl) (by refine ⟨?_,?_,?_,?_,?_,?_⟩ <;> kernel_rfl) fuel _ _ hf
  simp only[Value.cells]at hcs
  exact ⟨F,A,c,b,o,by simpa using hcs,hr.2,hfo⟩
 rw[hc0]at k0 hW' ⊢
 clear hA0 hval
 have hE:=env2_of hL' hsh
 refine (lawStable_walk F0 W A0 c0 b0 o0 W.heap.size ⟨hr0,Nat.le_refl _,hf0⟩ hE).mono fun e W' ⟨he,bel⟩=>?_
 subst he
 exact ⟨_,rfl,_,_,_,[],_,[],hW',trodAll_mk1 (shut_bool Tryz.underlying4 _),(trodAll_cons_mk (Below.trod laidOut (by kernel_rfl) (of_decide_eq_true (by kernel_rfl)) k0 bel lt0) trodAll_mk0),rfl,bel.frame _,fun h=>by cases h⟩
set_option maxRecDepth 100000 in
theorem reads (os:Os) {H:Type} (enc:TypeId × Value→H):∃places,DataW.whole enc Tryz.prog ((laidWorld os).forCall (fun _ _=>0) ⟨#[],#[Value.slice none 0 0],[]⟩).memory Tryz.f5.params.toList Rows.fnExactStableSpec.vars false #[Value.slice none 0 0].toList 8=some ([.nil],[],places):=
 ⟨[],by kernel_rfl⟩
set_option maxRecDepth 100000 in
theorem lifted (os:Os) (started:os.Started) (H:Type) (enc:TypeId × Value→H) (F:Stop.Interp):
 ReturnsInHanded {} Tryz.checked os 5 .any ((OpenSpec.ofChange Rows.fnExactStableSpec).preRow enc Tryz.prog Tryz.f5 Rows.fnExactStableRow.domain false Rows.fnExactStableRow.laid) (((OpenSpec.ofChange Rows.fnExactStableSpec).at F).post enc Tryz.prog Tryz.f5 false true false false):=by
 obtain ⟨places,hx⟩:=reads os enc
 refine returnsInHanded_of_row (C:=Tryz.checked) (s:=OpenSpec.ofChange Rows.fnExactStableSpec) own started (by kernel_rfl) Tryz.func5
  (witness_row_atRef (enc:=enc) (C:=Tryz.checked) false (laidWorld os) #[Value.slice none 0 0] rfl (by kernel_rfl) (by kernel_rfl) (by kernel_rfl)
   (OpenSpec.preRow_of_cond 8 hx (by kernel_rfl) (fun k hk=>by cases hk) (by kernel_rfl) (laid_met os _))) ?_
 intro W base args ds gs before hval hW _ _ _ hL hsh _
 exact contract H enc W base args ds gs before hval hW hL hsh
theorem said:Rows.FnExactStableSaid:=
 OpenClaim.holds_of_cond 5 Tryz.f5 rfl rfl rfl rfl rfl rfl rfl ⟨rfl,rfl,rfl,rfl,rfl⟩ rfl rfl rfl rfl rfl (by as_aux_lemma=>kernel_rfl) Tryz.func5 joined
  (of_decide_eq_true (by as_aux_lemma=>kernel_rfl)) (by unfold Func.isWrapper;first | (rw[if_pos (by decide +kernel)];kernel_rfl) | (rw[if_neg (by decide +kernel)];exact ⟨rfl,rfl⟩))
  (fun os started H enc _ F=>by rw[OpenClaim.pre_eq_preRow];exact lifted os started H enc F)
theorem plain (f:FuncId) (fn:Func) (hf:Tryz.pinned.checked.prog.funcNamed "loop.example/g00788/laws.FnExactStable" = some f) (hfn:Tryz.pinned.checked.prog.funcs[f]?=some fn):
 true=Tryz.pinned.checked.prog.looks []∧∀(j:Nat) t,fn.params[j]?=some t→Tryz.pinned.checked.prog.wantsStandIn t=false:=by
 obtain rfl:f=5 := Option.some.inj ((show Tryz.prog.funcNamed "loop.example/g00788/laws.FnExactStable" = some 5 by kernel_rfl).symm.trans hf) |>.symm
 obtain rfl:fn=Tryz.f5 := (Option.some.inj (Tryz.func5.symm.trans hfn)).symm
 refine ⟨by kernel_rfl,fun j t ht=>?_⟩
 rw[Tryz.params5]at ht
 obtain rfl:t=22 := by simpa using Array.mem_of_getElem? ht
 exact (show Tryz.prog.wantsStandIn 22 = false by kernel_rfl)
theorem card:Rows.FnExactStableCardSaid:=
 Claim7.holds_tied_plain_at .later [] _ _ _ _ said (fun _ h=>by cases h) (by as_aux_lemma=>kernel_rfl) (fun _ h=>by cases h) fnExactStable_row_tie rfl ⟨rfl,rfl⟩ (by as_aux_lemma=>kernel_rfl) rfl plain (by as_aux_lemma=>kernel_rfl)
end Go.Proofs.YthdkkpbhijlpaaaGreatDoor.fnExactStable
