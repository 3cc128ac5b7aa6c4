/-
  Proved: the card of the law FnReadJournal: it returns true for each argument and leaves it as it was. The law FnReadJournal, as the checked code runs it, is true of every argument: wherever a journal is cut, a desk of before is found. Conditions: none.
  Conditions: none beyond those of the statement itself.
-/
import Derived.Test.YtihgceegapfngadGreatDoorCards
import Derived.Test.YtihgceegapfngadGreatDoorTie
import Derived.Test.YtihgceegapfngadGreatDoorKFnReadJournal
import Derived.Test.YtihgceegapfngadGreatDoorFB
import Derived.Test.YtihgceegapfngadGreatDoorSFnReadJournal
import Derived.WalkKit
import Derived.ProofKit
import Derived.OpenShut
import Derived.Deep.DeepHandedRow
import Derived.Lib.LaidTab
import Derived.Deep.DeepWitnessRowRef
import Derived.Stop.LaidErr
namespace Go.Proofs.YtihgceegapfngadGreatDoor.fnReadJournal
open Go.ChangeShapes Go.WideShapes Go.ChangeAt Go.RowKit
set_option linter.unusedVariables false
set_option linter.unusedSimpArgs false
theorem own:ownKnob Tryz.prog.godebug=none:=by kernel_rfl
theorem laidOut:laidOutB Tryz.prog=true:=by kernel_rfl
theorem gTab7:Tryz.prog.globalNamed "math/bits.deBruijn32tab" =some 7:=by kernel_rfl
theorem gType7:(Tryz.prog.globals[7]?).map (·.type)=some 237:=by kernel_rfl
theorem gTab8:Tryz.prog.globalNamed "math/bits.deBruijn64tab" =some 8:=by kernel_rfl
theorem gType8:(Tryz.prog.globals[8]?).map (·.type)=some 238:=by kernel_rfl
theorem gTab4:Tryz.prog.globalNamed "internal/strconv.uint64pow10" =some 4:=by kernel_rfl
theorem gType4:(Tryz.prog.globals[4]?).map (·.type)=some 195:=by kernel_rfl
theorem gTab3:Tryz.prog.globalNamed "strconv.ErrRange" =some 3:=by kernel_rfl
theorem gType3:(Tryz.prog.globals[3]?).map (·.type)=some 69:=by kernel_rfl
theorem gTab2:Tryz.prog.globalNamed "strconv.ErrSyntax" =some 2:=by kernel_rfl
theorem gType2:(Tryz.prog.globals[2]?).map (·.type)=some 69:=by kernel_rfl
theorem gTab0:Tryz.prog.globalNamed "loop.example/headtrees/impl.deedWords" =some 0:=by kernel_rfl
theorem gType0:(Tryz.prog.globals[0]?).map (·.type)=some 63:=by kernel_rfl
theorem cells5:Tryz.prog.cellsOf 5=1:=by kernel_rfl
theorem cells9:Tryz.prog.cellsOf 9=1:=by kernel_rfl
theorem cells63:Tryz.prog.cellsOf 63=6:=by kernel_rfl
theorem cells133:Tryz.prog.cellsOf 133=1:=by kernel_rfl
theorem cells195:Tryz.prog.cellsOf 195=20:=by kernel_rfl
theorem cells237:Tryz.prog.cellsOf 237=32:=by kernel_rfl
theorem cells238:Tryz.prog.cellsOf 238=64:=by kernel_rfl
theorem tables {W:World} (h:laidMetH Tryz.prog Rows.fnReadJournalRow.laid W):Rv.GlobsOk W (Rv.S0 W):=by
 have l0:laidMet Tryz.prog [("math/bits.deBruijn32tab",Rows.laid_math_bits_deBruijn32tab),("math/bits.deBruijn64tab",Rows.laid_math_bits_deBruijn64tab),("internal/strconv.uint64pow10",Rows.laid_internal_strconv_uint64pow10),("unicode/utf8.acceptRanges",Rows.laid_unicode_utf8_acceptRanges),("strconv.ErrRange",Rows.laid_strconv_ErrRange),("strconv.ErrSyntax",Rows.laid_strconv_ErrSyntax),("loop.example/headtrees/impl.deedWords",Rows.laid_loop_example_headtrees_impl_deedWords),("unicode/utf8.first",Rows.laid_unicode_utf8_first)] W:=h
 have t0:Lib.TabIs Tryz.prog W "math/bits.deBruijn32tab" .u8 Rv.tab0:=Lib.tabIs_of_head gTab7 gType7 Tryz.underlying237 Tryz.underlying5 cells5 cells237 l0
 have l1:=l0.tail
 have t1:Lib.TabIs Tryz.prog W "math/bits.deBruijn64tab" .u8 Rv.tab1:=Lib.tabIs_of_head gTab8 gType8 Tryz.underlying238 Tryz.underlying5 cells5 cells238 l1
 have l2:=l1.tail
 have t2:Lib.TabIs Tryz.prog W "internal/strconv.uint64pow10" .u64 Rv.tabP:=Lib.tabIs_of_head gTab4 gType4 Tryz.underlying195 Tryz.underlying133 cells133 cells195 l2
 have l3:=l2.tail
 have l4:=l3.tail
 have t4:=Rv.errAt_of gTab3 gType3 Tryz.underlying69 l4
 have l5:=l4.tail
 have t5:=Rv.errAt_of gTab2 gType2 Tryz.underlying69 l5
 have l6:=l5.tail
 have t6:=Rv.strAt_of (zs:=Rv.tabW) gTab0 gType0 Tryz.underlying63 Tryz.underlying9 cells9 cells63 l6 (by decide)
 have l7:=l6.tail
 intro g t xs hg
 unfold Rv.gtab at hg
 split at hg
 ·cases hg;exact t6
 ·cases hg;exact t5
 ·cases hg;exact t4
 ·cases hg;exact Rv.tabAt_of t2 gTab4 (by decide)
 ·cases hg;exact Rv.tabAt_of t0 gTab7 (by decide)
 ·cases hg;exact Rv.tabAt_of t1 gTab8 (by decide)
 ·cases hg
set_option maxRecDepth 100000 in
theorem contract (H:Type) (enc:TypeId×Value→H) (W:World) (base:Nat) (args:Array Value) (ds gs:List (DataW H)) (before:List MemPlace)
  (hval0: ∀(j:Nat) t v,Tryz.f3.params[j]? =some t→args[j]? =some v→Value.okWide Tryz.prog W .any base t v)
  (hW:DataW.Whole enc Tryz.prog Tryz.f3.params.toList Rows.fnReadJournalSpec.vars false W args.toList ds gs before) (hL:laidMetH Tryz.prog Rows.fnReadJournalRow.laid W):
  Calls Tryz.prog 3 args W fun e W'=> ∃v,e= .returned v∧Rows.fnReadJournalSpec.post enc Tryz.prog Tryz.f3 false true false false W args v W':=by
 have hval: ∀(j:Nat) t v,Tryz.f3.params[j]? =some t→args[j]? =some v→Value.okWide Tryz.prog W .any base t v:=hval0
 have hW':=hW
 obtain⟨p,q,hA0,hV,rfl,hfz,hnd⟩:=hW
 have hA:DataW.TrodAll enc Tryz.prog W 0 (fun _=>true) true Tryz.f3.params.toList args.toList ds p:=hA0
 rw[Tryz.params3] at hA hval
 obtain⟨v0,vs0,d0,ds0,p0,q0,hargs,rfl,rfl,h0,r0⟩:=trodAll_cons hA
 obtain⟨v1,vs1,d1,ds1,p1,q1,rfl,rfl,rfl,h1,r1⟩:=trodAll_cons r0
 obtain⟨rfl,rfl,rfl⟩:=trodAll_nil r1
 obtain rfl:args= #[v0,v1]:=by cases args;simp_all
 obtain⟨g0,rfl⟩:=Rv.vars_one hV
 obtain⟨x0,w0,l0,a0⟩:=Rv.av_ints Tryz.underlying22 Tryz.underlying5 (by kernel_rfl) (hval 0 22 v0 rfl rfl) h0
 obtain⟨x1,w1,l1,a1⟩:=Rv.av_ints Tryz.underlying22 Tryz.underlying5 (by kernel_rfl) (hval 1 22 v1 rfl rfl) h1
 clear hA0 hval0
 simp only[List.append_nil] at hW'
 have hlt: ∀p∈((p0:List MemPlace)++((p1:List MemPlace)++([])))++q,p.block<W.heap.size:=fun x hx=>hW'.lt x (by first|(simp at hx;done)|simpa using hx)
 refine(Rv.law_calls' Rv.N15h (avs:=[.dat (.list (.int .u8)) x0,.dat (.list (.int .u8)) x1]) (by
   (show(Rv.Ans.mk _ (Rv.N2u x0 x1) _ _ _).run=_)
   rw[Rv.same_FnReadJournal x0 w0 l0 x1 w1 l1]
   rfl) (tables hL) (args:=[v0,v1]) (by
   refine⟨_,_,rfl,?_,?_⟩
   ·exact a0 _
   refine⟨_,_,rfl,?_,?_⟩
   ·exact a1 _
   exact rfl)).mono fun e W' ⟨he,hg,hk⟩=> ?_
 subst he
 exact⟨_,rfl,Rv.post_of_below (pa:=(p0:List MemPlace)++((p1:List MemPlace)++([]))) (pv:=q) hW' (fun _ _ _=>(trodAll_cons_mk (shut_bool Tryz.underlying4 _) trodAll_mk0))
  (fun sp hsp=>trodAll_cons_mk (Rv.stays laidOut (by kernel_rfl) (of_decide_eq_true (by kernel_rfl)) h0 (fun x hx=>hlt x (by simp[hx])) hk (fun x hx=>hsp x (by simp[hx]))) (trodAll_cons_mk (Rv.stays laidOut (by kernel_rfl) (of_decide_eq_true (by kernel_rfl)) h1 (fun x hx=>hlt x (by simp[hx])) hk (fun x hx=>hsp x (by simp[hx]))) (trodAll_mk0))) (fun sp hsp=>Rv.vars_stay gTab0 gType0 laidOut (by kernel_rfl) (of_decide_eq_true (by kernel_rfl)) hk hV (fun x hx=>hlt x (by simp[hx])) (fun x hx=>hsp x (by simp[hx]))) (by simp)
  hg (ok_one (by kernel_rfl) rfl (okWide_bool_mk Tryz.underlying4 _))⟩
noncomputable def low:Nat:=(World.holding Tryz.prog default ⟨#[], #[],[]⟩).heap.size
noncomputable def laidWorld0 (os:Os):World:=
 {World.holding Tryz.prog os ⟨#[.cells #[.string ⟨#[118,97,108,117,101,32,111,117,116,32,111,102,32,114,97,110,103,101]⟩] 201,.cells #[.string ⟨#[105,110,118,97,108,105,100,32,115,121,110,116,97,120]⟩] 201], #[],[]⟩ with heap:=(World.holding Tryz.prog os ⟨#[.cells #[.string ⟨#[118,97,108,117,101,32,111,117,116,32,111,102,32,114,97,110,103,101]⟩] 201,.cells #[.string ⟨#[105,110,118,97,108,105,100,32,115,121,110,116,97,120]⟩] 201], #[],[]⟩).heap.modify 7 fun
   | .cells _ t frozen=> .cells #[.int .u8 0,.int .u8 1,.int .u8 28,.int .u8 2,.int .u8 29,.int .u8 14,.int .u8 24,.int .u8 3,.int .u8 30,.int .u8 22,.int .u8 20,.int .u8 15,.int .u8 25,.int .u8 17,.int .u8 4,.int .u8 8,.int .u8 31,.int .u8 27,.int .u8 13,.int .u8 23,.int .u8 21,.int .u8 19,.int .u8 16,.int .u8 7,.int .u8 26,.int .u8 12,.int .u8 18,.int .u8 6,.int .u8 11,.int .u8 5,.int .u8 10,.int .u8 9] t frozen
   |o=>o}
noncomputable def laidWorld1 (os:Os):World:=
 {laidWorld0 os with heap:=(laidWorld0 os).heap.modify 8 fun
   | .cells _ t frozen=> .cells #[.int .u8 0,.int .u8 1,.int .u8 56,.int .u8 2,.int .u8 57,.int .u8 49,.int .u8 28,.int .u8 3,.int .u8 61,.int .u8 58,.int .u8 42,.int .u8 50,.int .u8 38,.int .u8 29,.int .u8 17,.int .u8 4,.int .u8 62,.int .u8 47,.int .u8 59,.int .u8 36,.int .u8 45,.int .u8 43,.int .u8 51,.int .u8 22,.int .u8 53,.int .u8 39,.int .u8 33,.int .u8 30,.int .u8 24,.int .u8 18,.int .u8 12,.int .u8 5,.int .u8 63,.int .u8 55,.int .u8 48,.int .u8 27,.int .u8 60,.int .u8 41,.int .u8 37,.int .u8 16,.int .u8 46,.int .u8 35,.int .u8 44,.int .u8 21,.int .u8 52,.int .u8 32,.int .u8 23,.int .u8 11,.int .u8 54,.int .u8 26,.int .u8 40,.int .u8 15,.int .u8 34,.int .u8 20,.int .u8 31,.int .u8 10,.int .u8 25,.int .u8 14,.int .u8 19,.int .u8 9,.int .u8 13,.int .u8 8,.int .u8 7,.int .u8 6] t frozen
   |o=>o}
noncomputable def laidWorld2 (os:Os):World:=
 {laidWorld1 os with heap:=(laidWorld1 os).heap.modify 4 fun
   | .cells _ t frozen=> .cells #[.int .u64 1,.int .u64 10,.int .u64 100,.int .u64 1000,.int .u64 10000,.int .u64 100000,.int .u64 1000000,.int .u64 10000000,.int .u64 100000000,.int .u64 1000000000,.int .u64 10000000000,.int .u64 100000000000,.int .u64 1000000000000,.int .u64 10000000000000,.int .u64 100000000000000,.int .u64 1000000000000000,.int .u64 10000000000000000,.int .u64 100000000000000000,.int .u64 1000000000000000000,.int .u64 10000000000000000000] t frozen
   |o=>o}
noncomputable def laidWorld3 (os:Os):World:=
 {laidWorld2 os with heap:=(laidWorld2 os).heap.modify 6 fun
   | .cells _ t frozen=> .cells #[.int .u8 128,.int .u8 191,.int .u8 160,.int .u8 191,.int .u8 128,.int .u8 159,.int .u8 144,.int .u8 191,.int .u8 128,.int .u8 143,.int .u8 0,.int .u8 0,.int .u8 0,.int .u8 0,.int .u8 0,.int .u8 0,.int .u8 0,.int .u8 0,.int .u8 0,.int .u8 0,.int .u8 0,.int .u8 0,.int .u8 0,.int .u8 0,.int .u8 0,.int .u8 0,.int .u8 0,.int .u8 0,.int .u8 0,.int .u8 0,.int .u8 0,.int .u8 0] t frozen
   |o=>o}
noncomputable def laidWorld4 (os:Os):World:=
 {laidWorld3 os with heap:=(laidWorld3 os).heap.modify 3 fun
   | .cells _ t frozen=> .cells #[.iface 199 (.pointer (some ⟨low+0,0,none⟩))] t frozen
   |o=>o}
noncomputable def laidWorld5 (os:Os):World:=
 {laidWorld4 os with heap:=(laidWorld4 os).heap.modify 2 fun
   | .cells _ t frozen=> .cells #[.iface 199 (.pointer (some ⟨low+1,0,none⟩))] t frozen
   |o=>o}
noncomputable def laidWorld6 (os:Os):World:=
 {laidWorld5 os with heap:=(laidWorld5 os).heap.modify 0 fun
   | .cells _ t frozen=> .cells #[.string ⟨#[104,101,97,100]⟩,.string ⟨#[97,100,100]⟩,.string ⟨#[100,114,111,112]⟩,.string ⟨#[116,117,114,110]⟩,.string ⟨#[102,108,97,116]⟩,.string ⟨#[98,97,99,107]⟩] t frozen
   |o=>o}
noncomputable def laidWorld (os:Os):World:=
 {laidWorld6 os with heap:=(laidWorld6 os).heap.modify 5 fun
   | .cells _ t frozen=> .cells #[.int .u8 240,.int .u8 240,.int .u8 240,.int .u8 240,.int .u8 240,.int .u8 240,.int .u8 240,.int .u8 240,.int .u8 240,.int .u8 240,.int .u8 240,.int .u8 240,.int .u8 240,.int .u8 240,.int .u8 240,.int .u8 240,.int .u8 240,.int .u8 240,.int .u8 240,.int .u8 240,.int .u8 240,.int .u8 240,.int .u8 240,.int .u8 240,.int .u8 240,.int .u8 240,.int .u8 240,.int .u8 240,.int .u8 240,.int .u8 240,.int .u8 240,.int .u8 240,.int .u8 240,.int .u8 240,.int .u8 240,.int .u8 240,.int .u8 240,.int .u8 240,.int .u8 240,.int .u8 240,.int .u8 240,.int .u8 240,.int .u8 240,.int .u8 240,.int .u8 240,.int .u8 240,.int .u8 240,.int .u8 240,.int .u8 240,.int .u8 240,.int .u8 240,.int .u8 240,.int .u8 240,.int .u8 240,.int .u8 240,.int .u8 240,.int .u8 240,.int .u8 240,.int .u8 240,.int .u8 240,.int .u8 240,.int .u8 240,.int .u8 240,.int .u8 240,.int .u8 240,.int .u8 240,.int .u8 240,.int .u8 240,.int .u8 240,.int .u8 240,.int .u8 240,.int .u8 240,.int .u8 240,.int .u8 240,.int .u8 240,.int .u8 240,.int .u8 240,.int .u8 240,.int .u8 240,.int .u8 240,.int .u8 240,.int .u8 240,.int .u8 240,.int .u8 240,.int .u8 240,.int .u8 240,.int .u8 240,.int .u8 240,.int .u8 240,.int .u8 240,.int .u8 240,.int .u8 240,.int .u8 240,.int .u8 240,.int .u8 240,.int .u8 240,.int .u8 240,.int .u8 240,.int .u8 240,.int .u8 240,.int .u8 240,.int .u8 240,.int .u8 240,.int .u8 240,.int .u8 240,.int .u8 240,.int .u8 240,.int .u8 240,.int .u8 240,.int .u8 240,.int .u8 240,.int .u8 240,.int .u8 240,.int .u8 240,.int .u8 240,.int .u8 240,.int .u8 240,.int .u8 240,.int .u8 240,.int .u8 240,.int .u8 240,.int .u8 240,.int .u8 240,.int .u8 240,.int .u8 240,.int .u8 240,.int .u8 240,.int .u8 240,.int .u8 241,.int .u8 241,.int .u8 241,.int .u8 241,.int .u8 241,.int .u8 241,.int .u8 241,.int .u8 241,.int .u8 241,.int .u8 241,.int .u8 241,.int .u8 241,.int .u8 241,.int .u8 241,.int .u8 241,.int .u8 241,.int .u8 241,.int .u8 241,.int .u8 241,.int .u8 241,.int .u8 241,.int .u8 241,.int .u8 241,.int .u8 241,.int .u8 241,.int .u8 241,.int .u8 241,.int .u8 241,.int .u8 241,.int .u8 241,.int .u8 241,.int .u8 241,.int .u8 241,.int .u8 241,.int .u8 241,.int .u8 241,.int .u8 241,.int .u8 241,.int .u8 241,.int .u8 241,.int .u8 241,.int .u8 241,.int .u8 241,.int .u8 241,.int .u8 241,.int .u8 241,.int .u8 241,.int .u8 241,.int .u8 241,.int .u8 241,.int .u8 241,.int .u8 241,.int .u8 241,.int .u8 241,.int .u8 241,.int .u8 241,.int .u8 241,.int .u8 241,.int .u8 241,.int .u8 241,.int .u8 241,.int .u8 241,.int .u8 241,.int .u8 241,.int .u8 241,.int .u8 241,.int .u8 2,.int .u8 2,.int .u8 2,.int .u8 2,.int .u8 2,.int .u8 2,.int .u8 2,.int .u8 2,.int .u8 2,.int .u8 2,.int .u8 2,.int .u8 2,.int .u8 2,.int .u8 2,.int .u8 2,.int .u8 2,.int .u8 2,.int .u8 2,.int .u8 2,.int .u8 2,.int .u8 2,.int .u8 2,.int .u8 2,.int .u8 2,.int .u8 2,.int .u8 2,.int .u8 2,.int .u8 2,.int .u8 2,.int .u8 2,.int .u8 19,.int .u8 3,.int .u8 3,.int .u8 3,.int .u8 3,.int .u8 3,.int .u8 3,.int .u8 3,.int .u8 3,.int .u8 3,.int .u8 3,.int .u8 3,.int .u8 3,.int .u8 35,.int .u8 3,.int .u8 3,.int .u8 52,.int .u8 4,.int .u8 4,.int .u8 4,.int .u8 68,.int .u8 241,.int .u8 241,.int .u8 241,.int .u8 241,.int .u8 241,.int .u8 241,.int .u8 241,.int .u8 241,.int .u8 241,.int .u8 241,.int .u8 241] t frozen
   |o=>o}
theorem laid_met (os:Os):laidMet Tryz.prog Rows.fnReadJournalRow.laid ((laidWorld os).forCall (fun _ _=>0) ⟨#[], #[Value.slice none 0 0,Value.slice none 0 0],[]⟩).memory:=
 laidMet_of_run' 8 (by kernel_rfl) (by kernel_rfl)
theorem reads (os:Os) {H:Type} (enc:TypeId×Value→H): ∃places,DataW.whole enc Tryz.prog ((laidWorld os).forCall (fun _ _=>0) ⟨#[], #[Value.slice none 0 0,Value.slice none 0 0],[]⟩).memory Tryz.f3.params.toList Rows.fnReadJournalSpec.vars false #[Value.slice none 0 0,Value.slice none 0 0].toList 8=some ([.nil,.nil],[Rows.laid_loop_example_headtrees_impl_deedWords],places):=
 ⟨MemPlace.row ⟨0,0,none⟩ 6,by kernel_rfl⟩
set_option maxRecDepth 100000 in
theorem lifted (os:Os) (started:os.Started) (H:Type) (enc:TypeId×Value→H) (F:Stop.Interp):
  ReturnsInHanded {} Tryz.checked os 3 .any ((OpenSpec.ofChange Rows.fnReadJournalSpec).preRow enc Tryz.prog Tryz.f3 Rows.fnReadJournalRow.domain false Rows.fnReadJournalRow.laid) (((OpenSpec.ofChange Rows.fnReadJournalSpec).at F).post enc Tryz.prog Tryz.f3 false true false false):=by
 obtain⟨places,hx⟩:=reads os enc
 refine returnsInHanded_of_row (C:=Tryz.checked) (s:=OpenSpec.ofChange Rows.fnReadJournalSpec) own started (by kernel_rfl) Tryz.func3
  (witness_row_atRef (enc:=enc) (C:=Tryz.checked) false (laidWorld os) #[Value.slice none 0 0,Value.slice none 0 0] rfl (by kernel_rfl) (by kernel_rfl) (by kernel_rfl)
   (OpenSpec.preRow_of_cond 8 hx (by kernel_rfl) (fun k hk=>by cases hk) (by kernel_rfl) (laid_met os))) ?_
 intro W base args ds gs before hval hW _ _ _ hL _ _
 exact contract H enc W base args ds gs before hval hW hL
theorem said:Rows.FnReadJournalSaid:=
 OpenClaim.holds_of_cond 3 Tryz.f3 rfl rfl rfl rfl rfl rfl rfl ⟨rfl,rfl,rfl,rfl,rfl⟩ rfl rfl rfl rfl rfl (by kernel_rfl) Tryz.func3 (by kernel_rfl)
  (of_decide_eq_true (by kernel_rfl)) (by unfold Func.isWrapper;first|(rw[if_pos (by decide+kernel)];kernel_rfl)|(rw[if_neg (by decide+kernel)];exact⟨rfl,rfl⟩))
  (fun os started H enc _ F=>by rw[OpenClaim.pre_eq_preRow];exact lifted os started H enc F)
theorem noStand: ∀t∈ [22,22],Tryz.prog.wantsStandIn t=false:=by
 intro t ht
 simp only[List.mem_cons,List.not_mem_nil,or_false] at ht
 rcases ht with rfl|rfl
 ·exact(show Tryz.prog.wantsStandIn 22=false by kernel_rfl)
 ·exact(show Tryz.prog.wantsStandIn 22=false by kernel_rfl)
theorem plain (f:FuncId) (fn:Func) (hf:Tryz.pinned.checked.prog.funcNamed "loop.example/headtrees/laws.FnReadJournal" =some f) (hfn:Tryz.pinned.checked.prog.funcs[f]? =some fn):
  true=Tryz.pinned.checked.prog.looks []∧ ∀(j:Nat) t,fn.params[j]? =some t→Tryz.pinned.checked.prog.wantsStandIn t=false:=by
 obtain rfl:f=3:=Option.some.inj ((show Tryz.prog.funcNamed "loop.example/headtrees/laws.FnReadJournal" =some 3 by kernel_rfl).symm.trans hf)|>.symm
 obtain rfl:fn=Tryz.f3:=(Option.some.inj (Tryz.func3.symm.trans hfn)).symm
 refine⟨by kernel_rfl,fun j t ht=> ?_⟩
 rw[Tryz.params3] at ht
 exact noStand t (by simpa using Array.mem_of_getElem? ht)
theorem proved:Rows.FnReadJournalCardSaid:=
 Claim7.holds_tied_plain_at .later [] _ _ _ _ said (fun _ h=>by cases h) (by kernel_rfl) (fun _ h=>by cases h) fnReadJournal_row_tie rfl ⟨rfl,rfl⟩ (by kernel_rfl) rfl plain (by kernel_rfl)
end Go.Proofs.YtihgceegapfngadGreatDoor.fnReadJournal
