/-
  Proved: the card of the law FnDeskSay: it returns true for each argument and leaves it as it was. The law FnDeskSay,as the checked code runs it,is true of every argument: whatever is said,both machines tell the same trees. Conditions: none.
  Conditions: none beyond those of the statement itself.
-/
import Derived.Test.YthjlnoplibeclaaGreatDoorCards
import Derived.Test.YthjlnoplibeclaaGreatDoorTie
import Derived.Test.YthjlnoplibeclaaGreatDoorKFnDeskSay
import Derived.Test.YthjlnoplibeclaaGreatDoorFB
import Derived.Test.YthjlnoplibeclaaGreatDoorSFnDeskSay
import Derived.WalkKit
import Derived.ProofKit
import Derived.OpenShut
import Derived.Deep.DeepHandedRow
import Derived.Lib.LaidTab
import Derived.Deep.DeepWitnessRowRef
import Derived.Stop.LaidErr
set_option linter.all false
namespace Go.Proofs.YthjlnoplibeclaaGreatDoor.fnDeskSay
open Go.ChangeShapes Go.WideShapes Go.ChangeAt Go.RowKit
theorem own:ownKnob Tryz.prog.godebug=none:=by kernel_rfl
theorem laidOut:laidOutB Tryz.prog=true:=by kernel_rfl
theorem abB:Tryz.prog.globalNamed "math/bits.deBruijn32tab" =some 4:=by kernel_rfl
theorem apc:(Tryz.prog.globals[4]?).map (·.type)=some 228:=by kernel_rfl
theorem abC:Tryz.prog.globalNamed "math/bits.deBruijn64tab" =some 5:=by kernel_rfl
theorem apd:(Tryz.prog.globals[5]?).map (·.type)=some 229:=by kernel_rfl
theorem abD:Tryz.prog.globalNamed "internal/strconv.uint64pow10" =some 8:=by kernel_rfl
theorem ape:(Tryz.prog.globals[8]?).map (·.type)=some 237:=by kernel_rfl
theorem apf:Tryz.prog.globalNamed "strconv.ErrRange" =some 2:=by kernel_rfl
theorem apg:(Tryz.prog.globals[2]?).map (·.type)=some 90:=by kernel_rfl
theorem aph:Tryz.prog.globalNamed "strconv.ErrSyntax" =some 1:=by kernel_rfl
theorem api:(Tryz.prog.globals[1]?).map (·.type)=some 90:=by kernel_rfl
theorem abE:Tryz.prog.globalNamed "loop.example/headtrees/impl.deedWords" =some 0:=by kernel_rfl
theorem abF:(Tryz.prog.globals[0]?).map (·.type)=some 120:=by kernel_rfl
theorem abG:Tryz.prog.cellsOf 5=1:=by kernel_rfl
theorem apj:Tryz.prog.cellsOf 9=1:=by kernel_rfl
theorem apk:Tryz.prog.cellsOf 120=6:=by kernel_rfl
theorem apl:Tryz.prog.cellsOf 147=1:=by kernel_rfl
theorem apm:Tryz.prog.cellsOf 228=32:=by kernel_rfl
theorem apn:Tryz.prog.cellsOf 229=64:=by kernel_rfl
theorem apo:Tryz.prog.cellsOf 237=20:=by kernel_rfl
theorem tables {W:World} (h:laidMetH Tryz.prog Rows.fnDeskSayRow.laid W):Rv.hb W (Rv.S0 W):=by
 have l0:laidMet Tryz.prog [("math/bits.deBruijn32tab",Rows.laid_math_bits_deBruijn32tab),("math/bits.deBruijn64tab",Rows.laid_math_bits_deBruijn64tab),("internal/strconv.uint64pow10",Rows.laid_internal_strconv_uint64pow10),("unicode/utf8.acceptRanges",Rows.laid_unicode_utf8_acceptRanges),("strconv.ErrRange",Rows.laid_strconv_ErrRange),("strconv.ErrSyntax",Rows.laid_strconv_ErrSyntax),("loop.example/headtrees/impl.deedWords",Rows.laid_loop_example_headtrees_impl_deedWords),("unicode/utf8.first",Rows.laid_unicode_utf8_first)] W:=h
 have t0:Lib.TabIs Tryz.prog W "math/bits.deBruijn32tab" .u8 Rv.Mx:=Lib.tabIs_of_head abB apc Tryz.underlying228 Tryz.underlying5 abG apm l0
 have l1:=l0.tail
 have t1:Lib.TabIs Tryz.prog W "math/bits.deBruijn64tab" .u8 Rv.u3:=Lib.tabIs_of_head abC apd Tryz.underlying229 Tryz.underlying5 abG apn l1
 have l2:=l1.tail
 have t2:Lib.TabIs Tryz.prog W "internal/strconv.uint64pow10" .u64 Rv.Mz:=Lib.tabIs_of_head abD ape Tryz.underlying237 Tryz.underlying147 apl apo l2
 have l3:=l2.tail
 have l4:=l3.tail
 have t4:=Rv.Oj apf apg Tryz.underlying90 l4
 have l5:=l4.tail
 have t5:=Rv.Oj aph api Tryz.underlying90 l5
 have l6:=l5.tail
 have t6:=Rv.aeH (zs:=Rv.cM) abE abF Tryz.underlying120 Tryz.underlying9 apj apk l6 (by decide)
 have l7:=l6.tail
 intro g t xs hg
 unfold Rv.jW at hg
 split at hg
 ·cases hg;exact t6
 ·cases hg;exact t5
 ·cases hg;exact t4
 ·cases hg;exact Rv.DJ t0 abB (by decide)
 ·cases hg;exact Rv.DJ t1 abC (by decide)
 ·cases hg;exact Rv.DJ t2 abD (by decide)
 ·cases hg
set_option maxRecDepth 100000 in
theorem app (H:Type) (enc:TypeId×Value→H) (W:World) (base:Nat) (args:Array Value) (ds gs:List (DataW H)) (before:List MemPlace)
  (hval0: ∀(j:Nat) t v,Tryz.f4.params[j]? =some t→args[j]? =some v→Value.okWide Tryz.prog W .any base t v)
  (hW:DataW.Whole enc Tryz.prog Tryz.f4.params.toList Rows.fnDeskSaySpec.vars false W args.toList ds gs before) (hL:laidMetH Tryz.prog Rows.fnDeskSayRow.laid W):
  Calls Tryz.prog 4 args W fun e W'=> ∃v,e= .returned v∧Rows.fnDeskSaySpec.post enc Tryz.prog Tryz.f4 false true false false W args v W':=by
 have hval: ∀(j:Nat) t v,Tryz.f4.params[j]? =some t→args[j]? =some v→Value.okWide Tryz.prog W .any base t v:=hval0
 have hW':=hW
 obtain⟨p,q,hA0,hV,rfl,hfz,hnd⟩:=hW
 have hA:DataW.TrodAll enc Tryz.prog W 0 (fun _=>true) true Tryz.f4.params.toList args.toList ds p:=hA0
 rw[Tryz.params4] at hA hval
 obtain⟨v0,vs0,d0,ds0,p0,q0,hargs,rfl,rfl,h0,r0⟩:=trodAll_cons hA
 obtain⟨rfl,rfl,rfl⟩:=trodAll_nil r0
 obtain rfl:args= #[v0]:=by cases args;simp_all
 obtain⟨g0,rfl⟩:=Rv.aeE hV
 obtain⟨x0,w0,l0,a0⟩:=Rv.aeA Tryz.underlying22 Tryz.underlying5 (by kernel_rfl) (hval 0 22 v0 rfl rfl) h0
 clear hA0 hval0
 simp only[List.append_nil] at hW'
 have hlt: ∀p∈((p0:List MemPlace)++([]))++q,p.block<W.heap.size:=fun x hx=>hW'.lt x (by first|(simp at hx;done)|simpa using hx)
 refine(Rv.aeC Rv.apI (avs:=[.aa (.list (.int .u8)) x0]) (by
   (show(Rv.ad.mk _ (Rv.i8 x0) _ _ _).run=_)
   rw[show Rv.i8 x0=Rv.j0 x0 from by unfold Rv.j0;rfl]
   rw[Rv.apT x0 w0 l0]
   rfl) (tables hL) (args:=[v0]) (by
   refine⟨_,_,rfl,?_,?_⟩
   ·exact a0 _
   exact rfl)).mono fun e W' ⟨he,hg,hk⟩=> ?_
 subst he
 exact⟨_,rfl,Rv.aeD (pa:=(p0:List MemPlace)++([])) (pv:=q) hW' (fun _ _ _=>(trodAll_cons_mk (shut_bool Tryz.underlying4 _) trodAll_mk0))
  (fun sp hsp=>trodAll_cons_mk (Rv.stays laidOut (by kernel_rfl) (of_decide_eq_true (by kernel_rfl)) h0 (fun x hx=>hlt x (by simp[hx])) hk (fun x hx=>hsp x (by simp[hx]))) (trodAll_mk0)) (fun sp hsp=>Rv.aeF abE abF laidOut (by kernel_rfl) (of_decide_eq_true (by kernel_rfl)) hk hV (fun x hx=>hlt x (by simp[hx])) (fun x hx=>hsp x (by simp[hx]))) (by simp)
  hg (ok_one (by kernel_rfl) rfl (okWide_bool_mk Tryz.underlying4 _))⟩
noncomputable def low:Nat:=(World.holding Tryz.prog default ⟨#[],#[],[]⟩).heap.size
noncomputable def abH (os:Os):World:=
 {World.holding Tryz.prog os ⟨#[.cells #[.string ⟨#[118,97,108,117,101,32,111,117,116,32,111,102,32,114,97,110,103,101]⟩] 205,.cells #[.string ⟨#[105,110,118,97,108,105,100,32,115,121,110,116,97,120]⟩] 205],#[],[]⟩ with heap:=(World.holding Tryz.prog os ⟨#[.cells #[.string ⟨#[118,97,108,117,101,32,111,117,116,32,111,102,32,114,97,110,103,101]⟩] 205,.cells #[.string ⟨#[105,110,118,97,108,105,100,32,115,121,110,116,97,120]⟩] 205],#[],[]⟩).heap.modify 4 fun
   | .cells _ t frozen=> .cells #[.int .u8 0,.int .u8 1,.int .u8 28,.int .u8 2,.int .u8 29,.int .u8 14,.int .u8 24,.int .u8 3,.int .u8 30,.int .u8 22,.int .u8 20,.int .u8 15,.int .u8 25,.int .u8 17,.int .u8 4,.int .u8 8,.int .u8 31,.int .u8 27,.int .u8 13,.int .u8 23,.int .u8 21,.int .u8 19,.int .u8 16,.int .u8 7,.int .u8 26,.int .u8 12,.int .u8 18,.int .u8 6,.int .u8 11,.int .u8 5,.int .u8 10,.int .u8 9] t frozen
   |o=>o}
noncomputable def abI (os:Os):World:=
 {abH os with heap:=(abH os).heap.modify 5 fun
   | .cells _ t frozen=> .cells #[.int .u8 0,.int .u8 1,.int .u8 56,.int .u8 2,.int .u8 57,.int .u8 49,.int .u8 28,.int .u8 3,.int .u8 61,.int .u8 58,.int .u8 42,.int .u8 50,.int .u8 38,.int .u8 29,.int .u8 17,.int .u8 4,.int .u8 62,.int .u8 47,.int .u8 59,.int .u8 36,.int .u8 45,.int .u8 43,.int .u8 51,.int .u8 22,.int .u8 53,.int .u8 39,.int .u8 33,.int .u8 30,.int .u8 24,.int .u8 18,.int .u8 12,.int .u8 5,.int .u8 63,.int .u8 55,.int .u8 48,.int .u8 27,.int .u8 60,.int .u8 41,.int .u8 37,.int .u8 16,.int .u8 46,.int .u8 35,.int .u8 44,.int .u8 21,.int .u8 52,.int .u8 32,.int .u8 23,.int .u8 11,.int .u8 54,.int .u8 26,.int .u8 40,.int .u8 15,.int .u8 34,.int .u8 20,.int .u8 31,.int .u8 10,.int .u8 25,.int .u8 14,.int .u8 19,.int .u8 9,.int .u8 13,.int .u8 8,.int .u8 7,.int .u8 6] t frozen
   |o=>o}
noncomputable def abJ (os:Os):World:=
 {abI os with heap:=(abI os).heap.modify 8 fun
   | .cells _ t frozen=> .cells #[.int .u64 1,.int .u64 10,.int .u64 100,.int .u64 1000,.int .u64 10000,.int .u64 100000,.int .u64 1000000,.int .u64 10000000,.int .u64 100000000,.int .u64 1000000000,.int .u64 10000000000,.int .u64 100000000000,.int .u64 1000000000000,.int .u64 10000000000000,.int .u64 100000000000000,.int .u64 1000000000000000,.int .u64 10000000000000000,.int .u64 100000000000000000,.int .u64 1000000000000000000,.int .u64 10000000000000000000] t frozen
   |o=>o}
noncomputable def abK (os:Os):World:=
 {abJ os with heap:=(abJ os).heap.modify 7 fun
   | .cells _ t frozen=> .cells #[.int .u8 128,.int .u8 191,.int .u8 160,.int .u8 191,.int .u8 128,.int .u8 159,.int .u8 144,.int .u8 191,.int .u8 128,.int .u8 143,.int .u8 0,.int .u8 0,.int .u8 0,.int .u8 0,.int .u8 0,.int .u8 0,.int .u8 0,.int .u8 0,.int .u8 0,.int .u8 0,.int .u8 0,.int .u8 0,.int .u8 0,.int .u8 0,.int .u8 0,.int .u8 0,.int .u8 0,.int .u8 0,.int .u8 0,.int .u8 0,.int .u8 0,.int .u8 0] t frozen
   |o=>o}
noncomputable def abL (os:Os):World:=
 {abK os with heap:=(abK os).heap.modify 2 fun
   | .cells _ t frozen=> .cells #[.iface 203 (.pointer (some ⟨low+0,0,none⟩))] t frozen
   |o=>o}
noncomputable def abM (os:Os):World:=
 {abL os with heap:=(abL os).heap.modify 1 fun
   | .cells _ t frozen=> .cells #[.iface 203 (.pointer (some ⟨low+1,0,none⟩))] t frozen
   |o=>o}
noncomputable def abN (os:Os):World:=
 {abM os with heap:=(abM os).heap.modify 0 fun
   | .cells _ t frozen=> .cells #[.string ⟨#[104,101,97,100]⟩,.string ⟨#[97,100,100]⟩,.string ⟨#[100,114,111,112]⟩,.string ⟨#[116,117,114,110]⟩,.string ⟨#[102,108,97,116]⟩,.string ⟨#[98,97,99,107]⟩] t frozen
   |o=>o}
noncomputable def Mv (os:Os):World:=
 {abN os with heap:=(abN os).heap.modify 6 fun
   | .cells _ t frozen=> .cells #[.int .u8 240,.int .u8 240,.int .u8 240,.int .u8 240,.int .u8 240,.int .u8 240,.int .u8 240,.int .u8 240,.int .u8 240,.int .u8 240,.int .u8 240,.int .u8 240,.int .u8 240,.int .u8 240,.int .u8 240,.int .u8 240,.int .u8 240,.int .u8 240,.int .u8 240,.int .u8 240,.int .u8 240,.int .u8 240,.int .u8 240,.int .u8 240,.int .u8 240,.int .u8 240,.int .u8 240,.int .u8 240,.int .u8 240,.int .u8 240,.int .u8 240,.int .u8 240,.int .u8 240,.int .u8 240,.int .u8 240,.int .u8 240,.int .u8 240,.int .u8 240,.int .u8 240,.int .u8 240,.int .u8 240,.int .u8 240,.int .u8 240,.int .u8 240,.int .u8 240,.int .u8 240,.int .u8 240,.int .u8 240,.int .u8 240,.int .u8 240,.int .u8 240,.int .u8 240,.int .u8 240,.int .u8 240,.int .u8 240,.int .u8 240,.int .u8 240,.int .u8 240,.int .u8 240,.int .u8 240,.int .u8 240,.int .u8 240,.int .u8 240,.int .u8 240,.int .u8 240,.int .u8 240,.int .u8 240,.int .u8 240,.int .u8 240,.int .u8 240,.int .u8 240,.int .u8 240,.int .u8 240,.int .u8 240,.int .u8 240,.int .u8 240,.int .u8 240,.int .u8 240,.int .u8 240,.int .u8 240,.int .u8 240,.int .u8 240,.int .u8 240,.int .u8 240,.int .u8 240,.int .u8 240,.int .u8 240,.int .u8 240,.int .u8 240,.int .u8 240,.int .u8 240,.int .u8 240,.int .u8 240,.int .u8 240,.int .u8 240,.int .u8 240,.int .u8 240,.int .u8 240,.int .u8 240,.int .u8 240,.int .u8 240,.int .u8 240,.int .u8 240,.int .u8 240,.int .u8 240,.int .u8 240,.int .u8 240,.int .u8 240,.int .u8 240,.int .u8 240,.int .u8 240,.int .u8 240,.int .u8 240,.int .u8 240,.int .u8 240,.int .u8 240,.int .u8 240,.int .u8 240,.int .u8 240,.int .u8 240,.int .u8 240,.int .u8 240,.int .u8 240,.int .u8 240,.int .u8 240,.int .u8 240,.int .u8 240,.int .u8 240,.int .u8 241,.int .u8 241,.int .u8 241,.int .u8 241,.int .u8 241,.int .u8 241,.int .u8 241,.int .u8 241,.int .u8 241,.int .u8 241,.int .u8 241,.int .u8 241,.int .u8 241,.int .u8 241,.int .u8 241,.int .u8 241,.int .u8 241,.int .u8 241,.int .u8 241,.int .u8 241,.int .u8 241,.int .u8 241,.int .u8 241,.int .u8 241,.int .u8 241,.int .u8 241,.int .u8 241,.int .u8 241,.int .u8 241,.int .u8 241,.int .u8 241,.int .u8 241,.int .u8 241,.int .u8 241,.int .u8 241,.int .u8 241,.int .u8 241,.int .u8 241,.int .u8 241,.int .u8 241,.int .u8 241,.int .u8 241,.int .u8 241,.int .u8 241,.int .u8 241,.int .u8 241,.int .u8 241,.int .u8 241,.int .u8 241,.int .u8 241,.int .u8 241,.int .u8 241,.int .u8 241,.int .u8 241,.int .u8 241,.int .u8 241,.int .u8 241,.int .u8 241,.int .u8 241,.int .u8 241,.int .u8 241,.int .u8 241,.int .u8 241,.int .u8 241,.int .u8 241,.int .u8 241,.int .u8 2,.int .u8 2,.int .u8 2,.int .u8 2,.int .u8 2,.int .u8 2,.int .u8 2,.int .u8 2,.int .u8 2,.int .u8 2,.int .u8 2,.int .u8 2,.int .u8 2,.int .u8 2,.int .u8 2,.int .u8 2,.int .u8 2,.int .u8 2,.int .u8 2,.int .u8 2,.int .u8 2,.int .u8 2,.int .u8 2,.int .u8 2,.int .u8 2,.int .u8 2,.int .u8 2,.int .u8 2,.int .u8 2,.int .u8 2,.int .u8 19,.int .u8 3,.int .u8 3,.int .u8 3,.int .u8 3,.int .u8 3,.int .u8 3,.int .u8 3,.int .u8 3,.int .u8 3,.int .u8 3,.int .u8 3,.int .u8 3,.int .u8 35,.int .u8 3,.int .u8 3,.int .u8 52,.int .u8 4,.int .u8 4,.int .u8 4,.int .u8 68,.int .u8 241,.int .u8 241,.int .u8 241,.int .u8 241,.int .u8 241,.int .u8 241,.int .u8 241,.int .u8 241,.int .u8 241,.int .u8 241,.int .u8 241] t frozen
   |o=>o}
theorem apq (os:Os):laidMet Tryz.prog Rows.fnDeskSayRow.laid ((Mv os).forCall (fun _ _=>0) ⟨#[],#[Value.slice none 0 0],[]⟩).memory:=
 laidMet_of_run' 8 (by kernel_rfl) (by kernel_rfl)
theorem reads (os:Os) {H:Type} (enc:TypeId×Value→H): ∃places,DataW.whole enc Tryz.prog ((Mv os).forCall (fun _ _=>0) ⟨#[],#[Value.slice none 0 0],[]⟩).memory Tryz.f4.params.toList Rows.fnDeskSaySpec.vars false #[Value.slice none 0 0].toList 8=some ([.nil],[Rows.laid_loop_example_headtrees_impl_deedWords],places):=
 ⟨MemPlace.row ⟨0,0,none⟩ 6,by kernel_rfl⟩
set_option maxRecDepth 100000 in
theorem lifted (os:Os) (started:os.Started) (H:Type) (enc:TypeId×Value→H) (F:Stop.Interp):
  ReturnsInHanded {} Tryz.checked os 4 .any ((OpenSpec.ofChange Rows.fnDeskSaySpec).preRow enc Tryz.prog Tryz.f4 Rows.fnDeskSayRow.domain false Rows.fnDeskSayRow.laid) (((OpenSpec.ofChange Rows.fnDeskSaySpec).at F).post enc Tryz.prog Tryz.f4 false true false false):=by
 obtain⟨places,hx⟩:=reads os enc
 refine returnsInHanded_of_row (C:=Tryz.checked) (s:=OpenSpec.ofChange Rows.fnDeskSaySpec) own started (by kernel_rfl) Tryz.func4
  (witness_row_atRef (enc:=enc) (C:=Tryz.checked) false (Mv os) #[Value.slice none 0 0] rfl (by kernel_rfl) (by kernel_rfl) (by kernel_rfl)
   (OpenSpec.preRow_of_cond 8 hx (by kernel_rfl) (fun k hk=>by cases hk) (by kernel_rfl) (apq os))) ?_
 intro W base args ds gs before hval hW _ _ _ hL _ _
 exact app H enc W base args ds gs before hval hW hL
set_option maxHeartbeats 4000000 in
theorem said:Rows.FnDeskSaySaid:=
 OpenClaim.holds_of_cond 4 Tryz.f4 rfl rfl rfl rfl rfl rfl rfl ⟨rfl,rfl,rfl,rfl,rfl⟩ rfl rfl rfl rfl rfl (by kernel_rfl) Tryz.func4 (by
   unfold joinedFacts
   simp only[Bool.and_eq_true]
   repeat' refine And.intro ?_ ?_
   all_goals as_aux_lemma=>kernel_rfl)
  (of_decide_eq_true (by kernel_rfl)) (by unfold Func.isWrapper;first|(rw[if_pos (by decide+kernel)];kernel_rfl)|(rw[if_neg (by decide+kernel)];exact⟨rfl,rfl⟩))
  (fun os started H enc _ F=>by rw[OpenClaim.pre_eq_preRow];exact lifted os started H enc F)
theorem apr: ∀t∈ [22],Tryz.prog.wantsStandIn t=false:=by
 intro t ht
 simp only[List.mem_cons,List.not_mem_nil,or_false] at ht
 rcases ht with rfl
 ·exact(show Tryz.prog.wantsStandIn 22=false by kernel_rfl)
theorem plain (f:FuncId) (fn:Func) (hf:Tryz.pinned.checked.prog.funcNamed "loop.example/headtrees/laws.FnDeskSay" =some f) (hfn:Tryz.pinned.checked.prog.funcs[f]? =some fn):
  true=Tryz.pinned.checked.prog.looks []∧ ∀(j:Nat) t,fn.params[j]? =some t→Tryz.pinned.checked.prog.wantsStandIn t=false:=by
 obtain rfl:f=4:=Option.some.inj ((show Tryz.prog.funcNamed "loop.example/headtrees/laws.FnDeskSay" =some 4 by kernel_rfl).symm.trans hf)|>.symm
 obtain rfl:fn=Tryz.f4:=(Option.some.inj (Tryz.func4.symm.trans hfn)).symm
 refine⟨by kernel_rfl,fun j t ht=> ?_⟩
 rw[Tryz.params4] at ht
 exact apr t (by simpa using Array.mem_of_getElem? ht)
theorem proved:Rows.FnDeskSayCardSaid:=
 Claim7.holds_tied_plain_at .later [] _ _ _ _ said (fun _ h=>by cases h) (by kernel_rfl) (fun _ h=>by cases h) fnDeskSay_row_tie rfl ⟨rfl,rfl⟩ (by kernel_rfl) rfl plain (by kernel_rfl)
end Go.Proofs.YthjlnoplibeclaaGreatDoor.fnDeskSay
