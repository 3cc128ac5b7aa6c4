/-
  The checked code answers as the plain functions do; written by program. Conditions: none.
-/
import Derived.Test.YthjlnoplibeclaaGreatDoorKFnDeskLinea
import Derived.Test.YthjlnoplibeclaaGreatDoorFB
import Derived.Test.YthjlnoplibeclaaGreatDoorFB
import Derived.Test.YthjlnoplibeclaaGreatDoorFB
import Derived.Test.YthjlnoplibeclaaGreatDoorFB
import Derived.Test.YthjlnoplibeclaaGreatDoorProg
set_option maxRecDepth 100000
set_option linter.all false
namespace Go.Rv
open Go.Proofs
def ajw:af Tryz.prog:=ak sq Tryz.func9 Tryz.call9 [Ke,WL,aiM,WP,aiN,aiO,Kh,Kg,⟨43,nJ,Aq,Tryz.call43⟩,aiR,aiX,aiZ,ai0,ai3,ai5,AC,ai7,aja,ajc,ajf,aju,XA,XB,ajv] true [(1,.d [5,6,7] []),(9,.d [2] []),(33,.d [2,3] []),(36,.d [2,3] []),(39,.d [2,3] []),(42,.d [2,3] []),(45,.d [2,3] []),(48,.d [2,3] []),(51,.d [2,3] []),(54,.d [2,3] []),(57,.d [2,3] []),(60,.d [2,3] []),(63,.d [2,3] []),(66,.d [2] []),(82,.t [⟨0,4,false,some 0,some ((.int .i64))⟩,⟨0,4,true,some 1,some ((.int .i64))⟩])] fun
 |[.agg [.aa (.list (.int .i64)) e,.aa (.list (.list (.int .i64))) m],.aa .str c],[]=>⟨ad.a (Ae e m c) fun t=>(.aW [.agg [.ab 1,.ab 2],dS t.1],[some (.box [.ab 1,.ab 2]),some (sI t.2.1),some (.nest (.int .i64) t.2.2 0 [])]),by refine eu (fun t=> [(4,.ptr 0 0),(5,dS t.1)]) ?_ (.group 5 (.aN (fun _=>rfl) (fun b=>([(1,dS c),(4,.ptr 0 0),(6,.ptr 1 0),(11,dL e)],[some (.box [.aI,.aI]),some (.box [.ab 2,.ab 3]),some (sI b.1),some (.nest (.int .i64) b.2 0 [])])) (.ch ?_) fun b=>(.aN (fun _=>rfl) (fun k=>([(1,dS c),(4,.ptr 0 0),(6,.ptr 1 0),(11,dL e)],[some (.box [.aI,.aI]),some (.box [.ab 2,.ab 3]),some (sI b.1),some (.nest (.int .i64) b.2 0 [])])) (.seq (fun l=>([(1,dS c),(4,.ptr 0 0),(6,.ptr 1 0),(11,dL e),(42,dS c)],[some (.box [.aI,.aI]),some (.box [.ab 2,.ab 3]),some (sI b.1),some (.nest (.int .i64) b.2 0 [])])) (.ch ?_) fun l=>(.block (fun _=>false) (bm (fun _=>rfl) (fun _=>rfl)) (.seq (fun f=>([(1,dS c),(4,.ptr 0 0),(6,.ptr 1 0),(11,dL e),(42,dS c),(43,dB f)],[some (.box [.aI,.aI]),some (.box [.ab 2,.ab 3]),some (sI b.1),some (.nest (.int .i64) b.2 0 [])])) (.ch ?_) fun f=>(.cond ?_ (.map (.ch ?_)) (.seq (fun g=>([(1,dS c),(4,.ptr 0 0),(6,.ptr 1 0),(11,dL e),(42,dS c),(48,dB g)],[some (.box [.aI,.aI]),some (.box [.ab 2,.ab 3]),some (sI b.1),some (.nest (.int .i64) b.2 0 [])])) (.ch ?_) fun g=>(.cond ?_ (.map (.ch ?_)) (.seq (fun h=>([(1,dS c),(4,.ptr 0 0),(6,.ptr 1 0),(11,dL e),(42,dS c),(54,dB h)],[some (.box [.aI,.aI]),some (.box [.ab 2,.ab 3]),some (sI b.1),some (.nest (.int .i64) b.2 0 [])])) (.ch ?_) fun h=>(.cond ?_ (.map (.ch ?_)) (.seq (fun i=>([(1,dS c),(4,.ptr 0 0),(6,.ptr 1 0),(11,dL e),(42,dS c),(60,dB i)],[some (.box [.aI,.aI]),some (.box [.ab 2,.ab 3]),some (sI b.1),some (.nest (.int .i64) b.2 0 [])])) (.ch ?_) fun i=>(.cond ?_ (.map (.ch ?_)) (.seq (fun j=>([(1,dS c),(4,.ptr 0 0),(6,.ptr 1 0),(11,dL e),(42,dS c),(66,dB j)],[some (.box [.aI,.aI]),some (.box [.ab 2,.ab 3]),some (sI b.1),some (.nest (.int .i64) b.2 0 [])])) (.ch ?_) fun j=>(.cond ?_ (.map (.ch ?_)) (.ch ?_))))))))))))) fun k=>(.ch ?_))))<;>first|(intro K;simp only[JR,JS,JT,JU,JV,JW,JX,JY,JZ,J0,J1,J2,J3,Ad,ae];kernel_rfl)|kernel_rfl⟩
 |_,_=>aj
def AF:af Tryz.prog:=ak sq Tryz.func60 Tryz.call60 [] false [] fun
 |[.aa (.list (.int .i64)) b,.aa (.list (.int .i64)) c],[]=>⟨ad.a (Ag b c) fun t=>(dB t,[]),by refine ao ?_ (.group 1 (.aN (fun _=>rfl) (fun e=>([(0,dL b),(1,dL c)],[])) (.ch ?_) fun e=>(.aN (fun _=>rfl) (fun f=>([],[])) (.seq (fun g=>([(0,dL b),(1,dL c),(5,dI 0)],[])) (.ch ?_) fun g=>(.block (Sum.elim (fun _=>false) (fun _=>true)) (bm (fun _=>rfl) (fun _=>rfl)) (.loop (bm (fun _=>rfl) (fun _=>rfl)) (fun d=>([(0,dL b),(1,dL c),(5,dI d)],[])) ?_ fun d=> .map (.ch ?_)))) fun f=>(.ch ?_))))<;>first|(intro K;simp only[J4,J5,tX,J6,ae];kernel_rfl)|kernel_rfl⟩
 |_,_=>aj
def Kz:af Tryz.prog:=ak sq Tryz.func61 Tryz.call61 [AF] false [(6,.d [8] [])] fun
 |[.aa (.list (.list (.int .i64))) b,.aa (.list (.list (.int .i64))) c],[]=>⟨ad.a (Ah b c) fun t=>(dB t,[]),by refine ao ?_ (.group 1 (.aN (fun _=>rfl) (fun f=>([(0,.aa (.list (.list (.int .i64))) b),(1,.aa (.list (.list (.int .i64))) c)],[])) (.ch ?_) fun f=>(.aN (fun _=>rfl) (fun g=>([],[])) (.seq (fun h=>([(0,.aa (.list (.list (.int .i64))) b),(1,.aa (.list (.list (.int .i64))) c),(5,dI 0)],[])) (.ch ?_) fun h=>(.block (Sum.elim (fun _=>false) (fun _=>true)) (bm (fun _=>rfl) (fun _=>rfl)) (.loop (bm (fun _=>rfl) (fun _=>rfl)) (fun e=>([(0,.aa (.list (.list (.int .i64))) b),(1,.aa (.list (.list (.int .i64))) c),(5,dI e)],[])) ?_ fun e=> .map (.ch ?_)))) fun g=>(.ch ?_))))<;>first|(intro K;simp only[J7,J8,tY,J9,ae];kernel_rfl)|kernel_rfl⟩
 |_,_=>aj
noncomputable def XP:bf:=fK [] Tryz.f10
noncomputable def XQ:Ctx:=⟨bs cw,cF [(60,(af.F AF)),(61,(af.F Kz))],fO,0,false,[]⟩
theorem ajx (a:List Int) (b:List (List Int)) (c:List Int) (d:List (List Int)) {r:AV} {e:Heap} (h:(ad.mk _ (kE a b c d) (fun t=>(dB t,[])) [] none).run=some (r,e)):bK XQ LL (bY Tryz.f10) XP ⟨bU 17 0 [(0,.agg [dL a,.aa (.list (.list (.int .i64))) b]),(1,.agg [dL c,.aa (.list (.list (.int .i64))) d])],[]⟩ (dh (bs cw) Tryz.f10.results.toList r e):=
 gf (Lk.go (N:=17) (n:=Ai a b c d) (fin:=(fun t=>(Exit.ret,⟨bU 17 0 [(4,dB t)],[]⟩))) (.ch fun K=>by simp only[Ai,ae];kernel_rfl) (by kernel_rfl)) (by kernel_rfl) (fun t=>es (by kernel_rfl)) h
noncomputable def ajy:bf:=fK [] Tryz.f10
noncomputable def ajz:Ctx:=⟨bs cw,cF [(60,(af.F AF)),(61,(af.F Kz))],fO,0,false,[]⟩
theorem ajA (a:List Int) (b:List (List Int)) {r:AV} {c:Heap} (h:(ad.mk _ (Ak a b) (fun t=>(dB t,[])) [] none).run=some (r,c)):bK ajz LL (bY Tryz.f10) ajy ⟨bU 17 0 [(0,.agg [dL a,.aa (.list (.list (.int .i64))) b]),(1,.agg [.aI,.aI])],[]⟩ (dh (bs cw) Tryz.f10.results.toList r c):=
 gf (Lk.go (N:=17) (n:=Aj a b) (fin:=(fun t=>(Exit.ret,⟨bU 17 0 [(4,dB t)],[]⟩))) (.ch fun K=>by simp only[Aj,ae];kernel_rfl) (by kernel_rfl)) (by kernel_rfl) (fun t=>es (by kernel_rfl)) h
def AG:be:=fun avs a=>
 match avs,a with
 |[.agg [.aa (.list (.int .i64)) b,.aa (.list (.list (.int .i64))) c],.agg [.aa (.list (.int .i64)) d,.aa (.list (.list (.int .i64))) e]],[]=>⟨_,kE b c d e,fun t=>(dB t,[]),[],none⟩
 |[.agg [.aa (.list (.int .i64)) f,.aa (.list (.list (.int .i64))) g],.agg [.aI,.aI]],[]=>⟨_,Ak f g,fun t=>(dB t,[]),[],none⟩
 |_,_=>ad.no
theorem XR:Sound Tryz.prog 10 AG:=by
 refine gg (C:=XQ) (c:=bY Tryz.f10) (ge gi (aY (af.s AF) (aY (af.s Kz) cQ)) (aY Tryz.call60 (aY Tryz.call61 cQ)) (by kernel_rfl)) Tryz.func10 (by kernel_rfl) LL XP ?_
 intro avs a r b h
 unfold AG at h
 split at h
 ·refine bK.cast ?_ ?_ ?_ (ajx _ _ _ _ h)<;>kernel_rfl
 ·refine bK.cast ?_ ?_ ?_ (ajA _ _ h)<;>kernel_rfl
 ·simp[ad.no,ad.run] at h
def ajB:af Tryz.prog:=ak sq Tryz.func12 Tryz.call12 [⟨10,AG,XR,Tryz.call10⟩] false [] fun
 |[.agg [.aa (.list (.int .i64)) b,.aa (.list (.list (.int .i64))) c]],[]=>⟨ad.a (Al b c) fun t=>(dB t,[]),by refine ao ?_ (.ch ?_)<;>first|(intro K;simp only[Al,ae];kernel_rfl)|kernel_rfl⟩
 |_,_=>aj
def ajC:af Tryz.prog:=ak sq Tryz.func13 Tryz.call13 [gj] false [] fun
 |[],[]=>⟨ad.a (Am) fun t=>(dB t,[]),by refine ao ?_ (.ch ?_)<;>first|(intro K;simp only[Am,ae];kernel_rfl)|kernel_rfl⟩
 |_,_=>aj
def XS:af Tryz.prog:=ak sq Tryz.func3 Tryz.call3 [agu,aiL,ajw,⟨10,AG,XR,Tryz.call10⟩,Ke,ajB,ajC,Ki] true [] fun
 |[.aa (.list (.int .u8)) b],[]=>⟨ad.a (An b) fun t=>(dB t,[]),by refine ao ?_ (.ch ?_)<;>first|(intro K;simp only[An,ae];kernel_rfl)|kernel_rfl⟩
 |_,_=>aj
def ajD:be:=XS.F
theorem ajE:Sound Tryz.prog 3 ajD:=XS.s
end Go.Rv
