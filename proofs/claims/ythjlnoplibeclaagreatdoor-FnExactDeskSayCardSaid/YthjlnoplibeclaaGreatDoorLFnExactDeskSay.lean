/-
  Proved: the card of the law FnExactDeskSay: it returns true for each argument and leaves it as it was. The law FnExactDeskSay,as the checked code runs it,is true of every argument: at every argument DeskSay answers as its model; it writes into no argument; the answer owns its memory. Conditions: none.
  Conditions: none beyond those of the statement itself.
-/
import Derived.Test.YthjlnoplibeclaaGreatDoorCards
import Derived.Test.YthjlnoplibeclaaGreatDoorTie
import Derived.Test.YthjlnoplibeclaaGreatDoorKFnExactDeskSay
import Derived.Test.YthjlnoplibeclaaGreatDoorFB
import Derived.Test.YthjlnoplibeclaaGreatDoorSFnExactDeskSay
import Derived.WalkKit
import Derived.ProofKit
import Derived.OpenShut
import Derived.Deep.DeepHandedRow
import Derived.Lib.LaidTab
import Derived.Deep.DeepWitnessRowRef
import Derived.Stop.LaidErr
set_option linter.all false
namespace Go.Proofs.YthjlnoplibeclaaGreatDoor.fnExactDeskSay
open Go.ChangeShapes Go.WideShapes Go.ChangeAt Go.RowKit
theorem own:ownKnob Tryz.prog.godebug=none:=by kernel_rfl
theorem laidOut:laidOutB Tryz.prog=true:=by kernel_rfl
theorem abp:Tryz.prog.globalNamed "math/bits.deBruijn32tab" =some 4:=by kernel_rfl
theorem aoV:(Tryz.prog.globals[4]?).map (·.type)=some 228:=by kernel_rfl
theorem abq:Tryz.prog.globalNamed "math/bits.deBruijn64tab" =some 5:=by kernel_rfl
theorem aoW:(Tryz.prog.globals[5]?).map (·.type)=some 229:=by kernel_rfl
theorem abs:Tryz.prog.globalNamed "internal/strconv.uint64pow10" =some 8:=by kernel_rfl
theorem aoX:(Tryz.prog.globals[8]?).map (·.type)=some 237:=by kernel_rfl
theorem aoY:Tryz.prog.globalNamed "strconv.ErrRange" =some 2:=by kernel_rfl
theorem aoZ:(Tryz.prog.globals[2]?).map (·.type)=some 90:=by kernel_rfl
theorem ao0:Tryz.prog.globalNamed "strconv.ErrSyntax" =some 1:=by kernel_rfl
theorem ao1:(Tryz.prog.globals[1]?).map (·.type)=some 90:=by kernel_rfl
theorem abt:Tryz.prog.globalNamed "loop.example/headtrees/impl.deedWords" =some 0:=by kernel_rfl
theorem abu:(Tryz.prog.globals[0]?).map (·.type)=some 120:=by kernel_rfl
theorem abv:Tryz.prog.cellsOf 5=1:=by kernel_rfl
theorem ao2:Tryz.prog.cellsOf 9=1:=by kernel_rfl
theorem ao3:Tryz.prog.cellsOf 120=6:=by kernel_rfl
theorem ao4:Tryz.prog.cellsOf 147=1:=by kernel_rfl
theorem ao5:Tryz.prog.cellsOf 228=32:=by kernel_rfl
theorem ao6:Tryz.prog.cellsOf 229=64:=by kernel_rfl
theorem ao7:Tryz.prog.cellsOf 237=20:=by kernel_rfl
theorem tables {W:World} (h:laidMetH Tryz.prog Rows.fnExactDeskSayRow.laid W):Rv.gY W (Rv.S0 W):=by
 have l0:laidMet Tryz.prog [("math/bits.deBruijn32tab",Rows.laid_math_bits_deBruijn32tab),("math/bits.deBruijn64tab",Rows.laid_math_bits_deBruijn64tab),("internal/strconv.uint64pow10",Rows.laid_internal_strconv_uint64pow10),("unicode/utf8.acceptRanges",Rows.laid_unicode_utf8_acceptRanges),("strconv.ErrRange",Rows.laid_strconv_ErrRange),("strconv.ErrSyntax",Rows.laid_strconv_ErrSyntax),("loop.example/headtrees/impl.deedWords",Rows.laid_loop_example_headtrees_impl_deedWords),("unicode/utf8.first",Rows.laid_unicode_utf8_first)] W:=h
 have t0:Lib.TabIs Tryz.prog W "math/bits.deBruijn32tab" .u8 Rv.Mm:=Lib.tabIs_of_head abp aoV Tryz.underlying228 Tryz.underlying5 abv ao5 l0
 have l1:=l0.tail
 have t1:Lib.TabIs Tryz.prog W "math/bits.deBruijn64tab" .u8 Rv.uN:=Lib.tabIs_of_head abq aoW Tryz.underlying229 Tryz.underlying5 abv ao6 l1
 have l2:=l1.tail
 have t2:Lib.TabIs Tryz.prog W "internal/strconv.uint64pow10" .u64 Rv.Mo:=Lib.tabIs_of_head abs aoX Tryz.underlying237 Tryz.underlying147 ao4 ao7 l2
 have l3:=l2.tail
 have l4:=l3.tail
 have t4:=Rv.N9 aoY aoZ Tryz.underlying90 l4
 have l5:=l4.tail
 have t5:=Rv.N9 ao0 ao1 Tryz.underlying90 l5
 have l6:=l5.tail
 have t6:=Rv.aex (zs:=Rv.cF) abt abu Tryz.underlying120 Tryz.underlying9 ao2 ao3 l6 (by decide)
 have l7:=l6.tail
 intro g t xs hg
 unfold Rv.jR at hg
 split at hg
 ·cases hg;exact t6
 ·cases hg;exact t5
 ·cases hg;exact t4
 ·cases hg;exact Rv.Dn t0 abp (by decide)
 ·cases hg;exact Rv.Dn t1 abq (by decide)
 ·cases hg;exact Rv.Dn t2 abs (by decide)
 ·cases hg
set_option maxRecDepth 100000 in
theorem ao8 (H:Type) (enc:TypeId×Value→H) (W:World) (base:Nat) (args:Array Value) (ds gs:List (DataW H)) (before:List MemPlace)
  (hval0: ∀(j:Nat) t v,Tryz.f6.params[j]? =some t→args[j]? =some v→Value.okWide Tryz.prog W .any base t v)
  (hW:DataW.Whole enc Tryz.prog Tryz.f6.params.toList Rows.fnExactDeskSaySpec.vars false W args.toList ds gs before) (hL:laidMetH Tryz.prog Rows.fnExactDeskSayRow.laid W):
  Calls Tryz.prog 6 args W fun e W'=> ∃v,e= .returned v∧Rows.fnExactDeskSaySpec.post enc Tryz.prog Tryz.f6 false true false false W args v W':=by
 have hval: ∀(j:Nat) t v,Tryz.f6.params[j]? =some t→args[j]? =some v→Value.okWide Tryz.prog W .any base t v:=hval0
 have hW':=hW
 obtain⟨p,q,hA0,hV,rfl,hfz,hnd⟩:=hW
 have hA:DataW.TrodAll enc Tryz.prog W 0 (fun _=>true) true Tryz.f6.params.toList args.toList ds p:=hA0
 rw[Tryz.params6] at hA hval
 obtain⟨v0,vs0,d0,ds0,p0,q0,hargs,rfl,rfl,h0,r0⟩:=trodAll_cons hA
 obtain⟨v1,vs1,d1,ds1,p1,q1,rfl,rfl,rfl,h1,r1⟩:=trodAll_cons r0
 obtain⟨rfl,rfl,rfl⟩:=trodAll_nil r1
 obtain rfl:args= #[v0,v1]:=by cases args;simp_all
 obtain⟨g0,rfl⟩:=Rv.aeu hV
 obtain⟨x0,w0,a0⟩:=Rv.aeq (a:=(.list (.int .i64))) (b:=(.pair (.list (.list (.int .i64))) .unit)) Tryz.underlying40 ⟨_,_,_,Tryz.underlying40,(by kernel_rfl),rfl,rfl,(by kernel_rfl),⟨3,Tryz.underlying23,(by kernel_rfl),(by decide),Tryz.underlying3⟩,⟨_,_,rfl,rfl,(by kernel_rfl),⟨23,Tryz.underlying24,(by kernel_rfl),(by decide),⟨3,Tryz.underlying23,(by kernel_rfl),(by decide),Tryz.underlying3⟩⟩,rfl⟩⟩ (hval 0 40 v0 rfl rfl) h0
 obtain⟨x1,w1,a1⟩:=Rv.apd Tryz.underlying34 (u:= .str) ⟨9,Tryz.underlying34,(by kernel_rfl),(by decide),Tryz.underlying9⟩ (hval 1 34 v1 rfl rfl) h1
 clear hA0 hval0
 simp only[List.append_nil] at hW'
 have hlt: ∀p∈((p0:List MemPlace)++((p1:List MemPlace)++([])))++q,p.block<W.heap.size:=fun x hx=>hW'.lt x (by first|(simp at hx;done)|simpa using hx)
 refine(Rv.aes Rv.apU (avs:=[.agg [.aa (.list (.int .i64)) x0.1,.aa (.list (.list (.int .i64))) x0.2.1],.aa (.list .str) x1]) (by
   (show(Rv.ad.mk _ (Rv.n6 x0.1 x0.2.1 x1) _ _ _).run=_)
   rw[show Rv.n6 x0.1 x0.2.1 x1=Rv.k1 x0.1 x0.2.1 x1 from by unfold Rv.k1;rfl]
   rw[Rv.ap4 x0 w0 x1 w1]
   rfl) (tables hL) (args:=[v0,v1]) (by
   refine⟨_,_,rfl,?_,?_⟩
   ·exact a0 _
   refine⟨_,_,rfl,?_,?_⟩
   ·exact a1 _
   exact rfl)).mono fun e W' ⟨he,hg,hk⟩=> ?_
 subst he
 exact⟨_,rfl,Rv.aet (pa:=(p0:List MemPlace)++((p1:List MemPlace)++([]))) (pv:=q) hW' (fun _ _ _=>(trodAll_cons_mk (shut_bool Tryz.underlying4 _) trodAll_mk0))
  (fun sp hsp=>trodAll_cons_mk (Rv.stays laidOut (by kernel_rfl) (of_decide_eq_true (by kernel_rfl)) h0 (fun x hx=>hlt x (by simp[hx])) hk (fun x hx=>hsp x (by simp[hx]))) (trodAll_cons_mk (Rv.stays laidOut (by kernel_rfl) (of_decide_eq_true (by kernel_rfl)) h1 (fun x hx=>hlt x (by simp[hx])) hk (fun x hx=>hsp x (by simp[hx]))) (trodAll_mk0))) (fun sp hsp=>Rv.aev abt abu laidOut (by kernel_rfl) (of_decide_eq_true (by kernel_rfl)) hk hV (fun x hx=>hlt x (by simp[hx])) (fun x hx=>hsp x (by simp[hx]))) (by simp)
  hg (ok_one (by kernel_rfl) rfl (okWide_bool_mk Tryz.underlying4 _))⟩
noncomputable def low:Nat:=(World.holding Tryz.prog default ⟨#[],#[],[]⟩).heap.size
noncomputable def abw (os:Os):World:=
 {World.holding Tryz.prog os ⟨#[.cells #[.string ⟨#[118,97,108,117,101,32,111,117,116,32,111,102,32,114,97,110,103,101]⟩] 205,.cells #[.string ⟨#[105,110,118,97,108,105,100,32,115,121,110,116,97,120]⟩] 205],#[],[]⟩ with heap:=(World.holding Tryz.prog os ⟨#[.cells #[.string ⟨#[118,97,108,117,101,32,111,117,116,32,111,102,32,114,97,110,103,101]⟩] 205,.cells #[.string ⟨#[105,110,118,97,108,105,100,32,115,121,110,116,97,120]⟩] 205],#[],[]⟩).heap.modify 4 fun
   | .cells _ t frozen=> .cells #[.int .u8 0,.int .u8 1,.int .u8 28,.int .u8 2,.int .u8 29,.int .u8 14,.int .u8 24,.int .u8 3,.int .u8 30,.int .u8 22,.int .u8 20,.int .u8 15,.int .u8 25,.int .u8 17,.int .u8 4,.int .u8 8,.int .u8 31,.int .u8 27,.int .u8 13,.int .u8 23,.int .u8 21,.int .u8 19,.int .u8 16,.int .u8 7,.int .u8 26,.int .u8 12,.int .u8 18,.int .u8 6,.int .u8 11,.int .u8 5,.int .u8 10,.int .u8 9] t frozen
   |o=>o}
noncomputable def abx (os:Os):World:=
 {abw os with heap:=(abw os).heap.modify 5 fun
   | .cells _ t frozen=> .cells #[.int .u8 0,.int .u8 1,.int .u8 56,.int .u8 2,.int .u8 57,.int .u8 49,.int .u8 28,.int .u8 3,.int .u8 61,.int .u8 58,.int .u8 42,.int .u8 50,.int .u8 38,.int .u8 29,.int .u8 17,.int .u8 4,.int .u8 62,.int .u8 47,.int .u8 59,.int .u8 36,.int .u8 45,.int .u8 43,.int .u8 51,.int .u8 22,.int .u8 53,.int .u8 39,.int .u8 33,.int .u8 30,.int .u8 24,.int .u8 18,.int .u8 12,.int .u8 5,.int .u8 63,.int .u8 55,.int .u8 48,.int .u8 27,.int .u8 60,.int .u8 41,.int .u8 37,.int .u8 16,.int .u8 46,.int .u8 35,.int .u8 44,.int .u8 21,.int .u8 52,.int .u8 32,.int .u8 23,.int .u8 11,.int .u8 54,.int .u8 26,.int .u8 40,.int .u8 15,.int .u8 34,.int .u8 20,.int .u8 31,.int .u8 10,.int .u8 25,.int .u8 14,.int .u8 19,.int .u8 9,.int .u8 13,.int .u8 8,.int .u8 7,.int .u8 6] t frozen
   |o=>o}
noncomputable def aby (os:Os):World:=
 {abx os with heap:=(abx os).heap.modify 8 fun
   | .cells _ t frozen=> .cells #[.int .u64 1,.int .u64 10,.int .u64 100,.int .u64 1000,.int .u64 10000,.int .u64 100000,.int .u64 1000000,.int .u64 10000000,.int .u64 100000000,.int .u64 1000000000,.int .u64 10000000000,.int .u64 100000000000,.int .u64 1000000000000,.int .u64 10000000000000,.int .u64 100000000000000,.int .u64 1000000000000000,.int .u64 10000000000000000,.int .u64 100000000000000000,.int .u64 1000000000000000000,.int .u64 10000000000000000000] t frozen
   |o=>o}
noncomputable def abz (os:Os):World:=
 {aby os with heap:=(aby os).heap.modify 7 fun
   | .cells _ t frozen=> .cells #[.int .u8 128,.int .u8 191,.int .u8 160,.int .u8 191,.int .u8 128,.int .u8 159,.int .u8 144,.int .u8 191,.int .u8 128,.int .u8 143,.int .u8 0,.int .u8 0,.int .u8 0,.int .u8 0,.int .u8 0,.int .u8 0,.int .u8 0,.int .u8 0,.int .u8 0,.int .u8 0,.int .u8 0,.int .u8 0,.int .u8 0,.int .u8 0,.int .u8 0,.int .u8 0,.int .u8 0,.int .u8 0,.int .u8 0,.int .u8 0,.int .u8 0,.int .u8 0] t frozen
   |o=>o}
noncomputable def abA (os:Os):World:=
 {abz os with heap:=(abz os).heap.modify 2 fun
   | .cells _ t frozen=> .cells #[.iface 203 (.pointer (some ⟨low+0,0,none⟩))] t frozen
   |o=>o}
noncomputable def abB (os:Os):World:=
 {abA os with heap:=(abA os).heap.modify 1 fun
   | .cells _ t frozen=> .cells #[.iface 203 (.pointer (some ⟨low+1,0,none⟩))] t frozen
   |o=>o}
noncomputable def abC (os:Os):World:=
 {abB os with heap:=(abB os).heap.modify 0 fun
   | .cells _ t frozen=> .cells #[.string ⟨#[104,101,97,100]⟩,.string ⟨#[97,100,100]⟩,.string ⟨#[100,114,111,112]⟩,.string ⟨#[116,117,114,110]⟩,.string ⟨#[102,108,97,116]⟩,.string ⟨#[98,97,99,107]⟩] t frozen
   |o=>o}
noncomputable def Mk (os:Os):World:=
 {abC os with heap:=(abC os).heap.modify 6 fun
   | .cells _ t frozen=> .cells #[.int .u8 240,.int .u8 240,.int .u8 240,.int .u8 240,.int .u8 240,.int .u8 240,.int .u8 240,.int .u8 240,.int .u8 240,.int .u8 240,.int .u8 240,.int .u8 240,.int .u8 240,.int .u8 240,.int .u8 240,.int .u8 240,.int .u8 240,.int .u8 240,.int .u8 240,.int .u8 240,.int .u8 240,.int .u8 240,.int .u8 240,.int .u8 240,.int .u8 240,.int .u8 240,.int .u8 240,.int .u8 240,.int .u8 240,.int .u8 240,.int .u8 240,.int .u8 240,.int .u8 240,.int .u8 240,.int .u8 240,.int .u8 240,.int .u8 240,.int .u8 240,.int .u8 240,.int .u8 240,.int .u8 240,.int .u8 240,.int .u8 240,.int .u8 240,.int .u8 240,.int .u8 240,.int .u8 240,.int .u8 240,.int .u8 240,.int .u8 240,.int .u8 240,.int .u8 240,.int .u8 240,.int .u8 240,.int .u8 240,.int .u8 240,.int .u8 240,.int .u8 240,.int .u8 240,.int .u8 240,.int .u8 240,.int .u8 240,.int .u8 240,.int .u8 240,.int .u8 240,.int .u8 240,.int .u8 240,.int .u8 240,.int .u8 240,.int .u8 240,.int .u8 240,.int .u8 240,.int .u8 240,.int .u8 240,.int .u8 240,.int .u8 240,.int .u8 240,.int .u8 240,.int .u8 240,.int .u8 240,.int .u8 240,.int .u8 240,.int .u8 240,.int .u8 240,.int .u8 240,.int .u8 240,.int .u8 240,.int .u8 240,.int .u8 240,.int .u8 240,.int .u8 240,.int .u8 240,.int .u8 240,.int .u8 240,.int .u8 240,.int .u8 240,.int .u8 240,.int .u8 240,.int .u8 240,.int .u8 240,.int .u8 240,.int .u8 240,.int .u8 240,.int .u8 240,.int .u8 240,.int .u8 240,.int .u8 240,.int .u8 240,.int .u8 240,.int .u8 240,.int .u8 240,.int .u8 240,.int .u8 240,.int .u8 240,.int .u8 240,.int .u8 240,.int .u8 240,.int .u8 240,.int .u8 240,.int .u8 240,.int .u8 240,.int .u8 240,.int .u8 240,.int .u8 240,.int .u8 240,.int .u8 240,.int .u8 240,.int .u8 240,.int .u8 241,.int .u8 241,.int .u8 241,.int .u8 241,.int .u8 241,.int .u8 241,.int .u8 241,.int .u8 241,.int .u8 241,.int .u8 241,.int .u8 241,.int .u8 241,.int .u8 241,.int .u8 241,.int .u8 241,.int .u8 241,.int .u8 241,.int .u8 241,.int .u8 241,.int .u8 241,.int .u8 241,.int .u8 241,.int .u8 241,.int .u8 241,.int .u8 241,.int .u8 241,.int .u8 241,.int .u8 241,.int .u8 241,.int .u8 241,.int .u8 241,.int .u8 241,.int .u8 241,.int .u8 241,.int .u8 241,.int .u8 241,.int .u8 241,.int .u8 241,.int .u8 241,.int .u8 241,.int .u8 241,.int .u8 241,.int .u8 241,.int .u8 241,.int .u8 241,.int .u8 241,.int .u8 241,.int .u8 241,.int .u8 241,.int .u8 241,.int .u8 241,.int .u8 241,.int .u8 241,.int .u8 241,.int .u8 241,.int .u8 241,.int .u8 241,.int .u8 241,.int .u8 241,.int .u8 241,.int .u8 241,.int .u8 241,.int .u8 241,.int .u8 241,.int .u8 241,.int .u8 241,.int .u8 2,.int .u8 2,.int .u8 2,.int .u8 2,.int .u8 2,.int .u8 2,.int .u8 2,.int .u8 2,.int .u8 2,.int .u8 2,.int .u8 2,.int .u8 2,.int .u8 2,.int .u8 2,.int .u8 2,.int .u8 2,.int .u8 2,.int .u8 2,.int .u8 2,.int .u8 2,.int .u8 2,.int .u8 2,.int .u8 2,.int .u8 2,.int .u8 2,.int .u8 2,.int .u8 2,.int .u8 2,.int .u8 2,.int .u8 2,.int .u8 19,.int .u8 3,.int .u8 3,.int .u8 3,.int .u8 3,.int .u8 3,.int .u8 3,.int .u8 3,.int .u8 3,.int .u8 3,.int .u8 3,.int .u8 3,.int .u8 3,.int .u8 35,.int .u8 3,.int .u8 3,.int .u8 52,.int .u8 4,.int .u8 4,.int .u8 4,.int .u8 68,.int .u8 241,.int .u8 241,.int .u8 241,.int .u8 241,.int .u8 241,.int .u8 241,.int .u8 241,.int .u8 241,.int .u8 241,.int .u8 241,.int .u8 241] t frozen
   |o=>o}
theorem ao9 (os:Os):laidMet Tryz.prog Rows.fnExactDeskSayRow.laid ((Mk os).forCall (fun _ _=>0) ⟨#[],#[Value.agg #[Value.slice none 0 0,Value.slice none 0 0],Value.slice none 0 0],[]⟩).memory:=
 laidMet_of_run' 8 (by kernel_rfl) (by kernel_rfl)
theorem reads (os:Os) {H:Type} (enc:TypeId×Value→H): ∃places,DataW.whole enc Tryz.prog ((Mk os).forCall (fun _ _=>0) ⟨#[],#[Value.agg #[Value.slice none 0 0,Value.slice none 0 0],Value.slice none 0 0],[]⟩).memory Tryz.f6.params.toList Rows.fnExactDeskSaySpec.vars false #[Value.agg #[Value.slice none 0 0,Value.slice none 0 0],Value.slice none 0 0].toList 8=some ([.agg [.nil,.nil],.nil],[Rows.laid_loop_example_headtrees_impl_deedWords],places):=
 ⟨MemPlace.row ⟨0,0,none⟩ 6,by kernel_rfl⟩
set_option maxRecDepth 100000 in
theorem lifted (os:Os) (started:os.Started) (H:Type) (enc:TypeId×Value→H) (F:Stop.Interp):
  ReturnsInHanded {} Tryz.checked os 6 .any ((OpenSpec.ofChange Rows.fnExactDeskSaySpec).preRow enc Tryz.prog Tryz.f6 Rows.fnExactDeskSayRow.domain false Rows.fnExactDeskSayRow.laid) (((OpenSpec.ofChange Rows.fnExactDeskSaySpec).at F).post enc Tryz.prog Tryz.f6 false true false false):=by
 obtain⟨places,hx⟩:=reads os enc
 refine returnsInHanded_of_row (C:=Tryz.checked) (s:=OpenSpec.ofChange Rows.fnExactDeskSaySpec) own started (by kernel_rfl) Tryz.func6
  (witness_row_atRef (enc:=enc) (C:=Tryz.checked) false (Mk os) #[Value.agg #[Value.slice none 0 0,Value.slice none 0 0],Value.slice none 0 0] rfl (by kernel_rfl) (by kernel_rfl) (by kernel_rfl)
   (OpenSpec.preRow_of_cond 8 hx (by kernel_rfl) (fun k hk=>by cases hk) (by kernel_rfl) (ao9 os))) ?_
 intro W base args ds gs before hval hW _ _ _ hL _ _
 exact ao8 H enc W base args ds gs before hval hW hL
set_option maxHeartbeats 4000000 in
theorem said:Rows.FnExactDeskSaySaid:=
 OpenClaim.holds_of_cond 6 Tryz.f6 rfl rfl rfl rfl rfl rfl rfl ⟨rfl,rfl,rfl,rfl,rfl⟩ rfl rfl rfl rfl rfl (by kernel_rfl) Tryz.func6 (by
   unfold joinedFacts
   simp only[Bool.and_eq_true]
   repeat' refine And.intro ?_ ?_
   all_goals as_aux_lemma=>kernel_rfl)
  (of_decide_eq_true (by kernel_rfl)) (by unfold Func.isWrapper;first|(rw[if_pos (by decide+kernel)];kernel_rfl)|(rw[if_neg (by decide+kernel)];exact⟨rfl,rfl⟩))
  (fun os started H enc _ F=>by rw[OpenClaim.pre_eq_preRow];exact lifted os started H enc F)
theorem apa: ∀t∈ [40,34],Tryz.prog.wantsStandIn t=false:=by
 intro t ht
 simp only[List.mem_cons,List.not_mem_nil,or_false] at ht
 rcases ht with rfl|rfl
 ·exact(show Tryz.prog.wantsStandIn 40=false by kernel_rfl)
 ·exact(show Tryz.prog.wantsStandIn 34=false by kernel_rfl)
theorem plain (f:FuncId) (fn:Func) (hf:Tryz.pinned.checked.prog.funcNamed "loop.example/headtrees/laws.FnExactDeskSay" =some f) (hfn:Tryz.pinned.checked.prog.funcs[f]? =some fn):
  true=Tryz.pinned.checked.prog.looks []∧ ∀(j:Nat) t,fn.params[j]? =some t→Tryz.pinned.checked.prog.wantsStandIn t=false:=by
 obtain rfl:f=6:=Option.some.inj ((show Tryz.prog.funcNamed "loop.example/headtrees/laws.FnExactDeskSay" =some 6 by kernel_rfl).symm.trans hf)|>.symm
 obtain rfl:fn=Tryz.f6:=(Option.some.inj (Tryz.func6.symm.trans hfn)).symm
 refine⟨by kernel_rfl,fun j t ht=> ?_⟩
 rw[Tryz.params6] at ht
 exact apa t (by simpa using Array.mem_of_getElem? ht)
theorem proved:Rows.FnExactDeskSayCardSaid:=
 Claim7.holds_tied_plain_at .later [] _ _ _ _ said (fun _ h=>by cases h) (by kernel_rfl) (fun _ h=>by cases h) fnExactDeskSay_row_tie rfl ⟨rfl,rfl⟩ (by kernel_rfl) rfl plain (by kernel_rfl)
end Go.Proofs.YthjlnoplibeclaaGreatDoor.fnExactDeskSay
