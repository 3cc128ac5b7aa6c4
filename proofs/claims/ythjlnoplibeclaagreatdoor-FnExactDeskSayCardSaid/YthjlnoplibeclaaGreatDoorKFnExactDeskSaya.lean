/-
  The checked code answers as the plain functions do; written by program. Conditions: none.
-/
import Derived.Test.YthjlnoplibeclaaGreatDoorGFnExactDeskSay
import Derived.Test.YthjlnoplibeclaaGreatDoorFB
import Derived.Test.YthjlnoplibeclaaGreatDoorFB
import Derived.Test.YthjlnoplibeclaaGreatDoorFB
import Derived.Test.YthjlnoplibeclaaGreatDoorFB
import Derived.Test.YthjlnoplibeclaaGreatDoorFB
import Derived.Test.YthjlnoplibeclaaGreatDoorProg
set_option maxRecDepth 100000
open Go.Exit (ret normal)
open ByteArray (empty)
open List (replicate)
set_option linter.all false
namespace Go.Rv
open Go.Proofs
def cQ:List (TypeId×TI):=[(3,⟨.int .i64,1,8,some (.int .i64),[.int .i64 0],false⟩),(4,⟨.bool,1,1,some .bool,[.bool false],false⟩),(5,⟨.int .u8,1,1,some (.int .u8),[.int .u8 0],false⟩),(9,⟨.str,1,16,some .str,[.string empty],false⟩),(22,⟨.slice 5,1,24,some (.list (.int .u8)),[.slice none 0 0],false⟩),(23,⟨.slice 3,1,24,some (.list (.int .i64)),[.slice none 0 0],false⟩),(24,⟨.slice 23,1,24,some (.list (.list (.int .i64))),[.slice none 0 0],false⟩),(26,⟨.ex [(0,23),(1,24)],2,48,some (.pair (.list (.int .i64)) (.pair (.list (.list (.int .i64))) .unit)),[.slice none 0 0,.slice none 0 0],false⟩),(34,⟨.slice 9,1,24,some (.list .str),[.slice none 0 0],false⟩),(40,⟨.ex [(0,23),(1,24)],2,48,some (.pair (.list (.int .i64)) (.pair (.list (.list (.int .i64))) .unit)),[.slice none 0 0,.slice none 0 0],false⟩),(53,⟨.ex [(0,3),(1,3),(2,3)],3,24,some (.pair (.int .i64) (.pair (.int .i64) (.pair (.int .i64) .unit))),[.int .i64 0,.int .i64 0,.int .i64 0],true⟩),(75,⟨.slice 78,1,24,some (.list (.int .u64)),[.slice none 0 0],false⟩),(78,⟨.int .u64,1,8,some (.int .u64),[.int .u64 0],false⟩),(90,⟨.hA,1,16,none,[.nilIface],false⟩),(93,⟨.scalar,1,8,none,[.nilFunc],false⟩),(95,⟨.map 9 93,1,8,none,[.map none],false⟩),(100,⟨.slice 53,1,24,some (.list (.pair (.int .i64) (.pair (.int .i64) (.pair (.int .i64) .unit)))),[.slice none 0 0],false⟩),(106,⟨.slice 4,1,24,some (.list .bool),[.slice none 0 0],false⟩),(120,⟨.arr 6 9,6,96,none,[.string empty,.string empty,.string empty,.string empty,.string empty,.string empty],false⟩),(124,⟨.scalar,1,8,none,[.nilFunc],false⟩),(126,⟨.ex [(0,23),(1,3),(2,3)],3,40,some (.pair (.list (.int .i64)) (.pair (.int .i64) (.pair (.int .i64) .unit))),[.slice none 0 0,.int .i64 0,.int .i64 0],false⟩),(147,⟨.int .u64,1,8,some (.int .u64),[.int .u64 0],false⟩),(157,⟨.ex [(0,3),(1,3)],2,16,some (.pair (.int .i64) (.pair (.int .i64) .unit)),[.int .i64 0,.int .i64 0],false⟩),(158,⟨.slice 157,1,24,some (.list (.pair (.int .i64) (.pair (.int .i64) .unit))),[.slice none 0 0],false⟩),(164,⟨.arr 9 3,9,72,none,[.int .i64 0,.int .i64 0,.int .i64 0,.int .i64 0,.int .i64 0,.int .i64 0,.int .i64 0,.int .i64 0,.int .i64 0],false⟩),(168,⟨.scalar,1,8,none,[.pointer none],false⟩),(170,⟨.map 5 174,1,8,none,[.map none],false⟩),(174,⟨.scalar,1,8,none,[.nilFunc],false⟩),(175,⟨.kY [("loop.example/headtrees/impl.putNext",252)],1,8,none,[.pointer none],false⟩),(177,⟨.map 5 184,1,8,none,[.map none],false⟩),(180,⟨.ex [(0,23),(1,23),(2,3),(3,3)],4,64,some (.pair (.list (.int .i64)) (.pair (.list (.int .i64)) (.pair (.int .i64) (.pair (.int .i64) .unit)))),[.slice none 0 0,.slice none 0 0,.int .i64 0,.int .i64 0],false⟩),(182,⟨.ex [(0,180),(4,78)],5,72,some (.pair (.pair (.list (.int .i64)) (.pair (.list (.int .i64)) (.pair (.int .i64) (.pair (.int .i64) .unit)))) (.pair (.int .u64) .unit)),[.slice none 0 0,.slice none 0 0,.int .i64 0,.int .i64 0,.int .u64 0],false⟩),(184,⟨.scalar,1,8,none,[.nilFunc],false⟩),(186,⟨.ex [(0,3),(1,3)],2,16,some (.pair (.int .i64) (.pair (.int .i64) .unit)),[.int .i64 0,.int .i64 0],false⟩),(188,⟨.arr 7 3,7,56,none,[.int .i64 0,.int .i64 0,.int .i64 0,.int .i64 0,.int .i64 0,.int .i64 0,.int .i64 0],false⟩),(190,⟨.ex [(0,188),(7,188)],14,112,none,[.int .i64 0,.int .i64 0,.int .i64 0,.int .i64 0,.int .i64 0,.int .i64 0,.int .i64 0,.int .i64 0,.int .i64 0,.int .i64 0,.int .i64 0,.int .i64 0,.int .i64 0,.int .i64 0],false⟩),(223,⟨.ex [(0,188),(7,188)],14,112,none,[.int .i64 0,.int .i64 0,.int .i64 0,.int .i64 0,.int .i64 0,.int .i64 0,.int .i64 0,.int .i64 0,.int .i64 0,.int .i64 0,.int .i64 0,.int .i64 0,.int .i64 0,.int .i64 0],false⟩),(229,⟨.arr 64 5,64,64,none,[.int .u8 0,.int .u8 0,.int .u8 0,.int .u8 0,.int .u8 0,.int .u8 0,.int .u8 0,.int .u8 0,.int .u8 0,.int .u8 0,.int .u8 0,.int .u8 0,.int .u8 0,.int .u8 0,.int .u8 0,.int .u8 0,.int .u8 0,.int .u8 0,.int .u8 0,.int .u8 0,.int .u8 0,.int .u8 0,.int .u8 0,.int .u8 0,.int .u8 0,.int .u8 0,.int .u8 0,.int .u8 0,.int .u8 0,.int .u8 0,.int .u8 0,.int .u8 0,.int .u8 0,.int .u8 0,.int .u8 0,.int .u8 0,.int .u8 0,.int .u8 0,.int .u8 0,.int .u8 0,.int .u8 0,.int .u8 0,.int .u8 0,.int .u8 0,.int .u8 0,.int .u8 0,.int .u8 0,.int .u8 0,.int .u8 0,.int .u8 0,.int .u8 0,.int .u8 0,.int .u8 0,.int .u8 0,.int .u8 0,.int .u8 0,.int .u8 0,.int .u8 0,.int .u8 0,.int .u8 0,.int .u8 0,.int .u8 0,.int .u8 0,.int .u8 0],false⟩),(239,⟨.arr 9 4,9,9,none,[.bool false,.bool false,.bool false,.bool false,.bool false,.bool false,.bool false,.bool false,.bool false],false⟩),(241,⟨.arr 2 3,2,16,none,[.int .i64 0,.int .i64 0],false⟩)]
theorem gK:bP Tryz.prog (bH cQ):=aen (by kernel_rfl)
def gL (f:FuncId) (i:Nat):Bool:=[(23,0),(28,0),(74,0),(75,0),(108,0),(114,0),(198,0),(239,0),(247,0),(283,0),(283,2),(298,0),(160,1000),(161,1000)].any fun p=>Nat.beq p.1 f&&Nat.beq p.2 i
def sq:rh Tryz.prog:=⟨cQ,gK,gL,by kernel_rfl⟩
def WC:af Tryz.prog:=ak sq Tryz.func68 Tryz.call68 [] false [] fun
 |[.aa (.list (.int .i64)) b,.aa (.int .i64) c],[]=>⟨ad.a (rl b c) fun t=>(dI t,[]),by refine al ?_ (.ch ?_)<;>first|(intro d;simp only[rl,ae];kernel_rfl)|kernel_rfl⟩
 |_,_=>aj
def afZ:af Tryz.prog:=ak sq Tryz.func69 Tryz.call69 [WC] false [] fun
 |[.aa (.list (.list (.int .i64))) b,.aa (.int .i64) g],[]=>⟨ad.a (wh b g) fun t=>(dI t,[]),by refine al ?_ (.group 2 (.aK (fun _=>rfl) (fun d=>([(0,.aa (.list (.list (.int .i64))) b),(1,dI d)],[])) (.ch ?_) fun d=>(.aK (fun _=>rfl) (fun e=>([(1,dI e)],[])) (.seq (fun f=>([(0,.aa (.list (.list (.int .i64))) b),(1,dI d),(5,dI 0)],[])) (.ch ?_) fun f=>(.block (Sum.elim (fun _=>false) (fun _=>true)) (bf (fun _=>rfl) (fun _=>rfl)) (.loop (bf (fun _=>rfl) (fun _=>rfl)) (fun c=>([(0,.aa (.list (.list (.int .i64))) b),(1,dI c.1),(5,dI c.2)],[])) ?_ fun c=> .map (.ch ?_)))) fun e=>(.ch ?_))))<;>first|(intro h;simp only[Dv,Dw,wg,Oj,ae];kernel_rfl)|kernel_rfl⟩
 |_,_=>aj
def af0:af Tryz.prog:=ak sq Tryz.func20 Tryz.call20 [WC,afZ] false [] fun
 |[.agg [.aa (.list (.int .i64)) b,.aa (.list (.list (.int .i64))) c],.aa (.int .i64) d],[]=>⟨ad.a (wj b c d) fun t=>(dI t,[]),by refine al ?_ (.ch ?_)<;>first|(intro e;simp only[wj,ae];kernel_rfl)|kernel_rfl⟩
 |_,_=>aj
def WD:af Tryz.prog:=ak sq Tryz.func70 Tryz.call70 [] false [] fun
 |[.aa (.list (.int .i64)) b],[]=>⟨ad.a (DB b) fun t=>(.ab 0,[some (sI t)]),by refine al ?_ (.group 1 (.seq (fun d=>([(0,dL b),(3,.ab 0)],[some (sI d)])) (.ch ?_) fun d=>(.seq (fun e=>([(3,.ab 0)],[some (sI e)])) (.seq (fun f=>([(0,dL b),(3,.ab 0),(4,dI 0)],[some (sI d)])) (.ch ?_) fun f=>(.block (fun _=>true) (fun _=>rfl) (.loop (fun _=>rfl) (fun c=>([(0,dL b),(3,.ab 0),(4,dI c.1)],[some (sI c.2)])) ?_ fun c=> .map (.ch ?_)))) fun e=>(.ch ?_))))<;>first|(intro g;simp only[Dy,Dz,rm,DA,ae];kernel_rfl)|kernel_rfl⟩
 |_,_=>aj
def af1:af Tryz.prog:=ak sq Tryz.func71 Tryz.call71 [WD] true [] fun
 |[.aa (.list (.list (.int .i64))) b],[]=>⟨ad.a (wl b) fun t=>(.ab 0,[some (.nest (.int .i64) t 0 [])]),by refine al ?_ (.group 1 (.seq (fun d=>([(0,.aa (.list (.list (.int .i64))) b),(3,.ab 0)],[some (.nest (.int .i64) d 0 [])])) (.ch ?_) fun d=>(.seq (fun e=>([(3,.ab 0)],[some (.nest (.int .i64) e 0 [])])) (.seq (fun f=>([(0,.aa (.list (.list (.int .i64))) b),(3,.ab 0),(4,dI 0)],[some (.nest (.int .i64) d 0 [])])) (.ch ?_) fun f=>(.block (fun _=>true) (fun _=>rfl) (.loop (fun _=>rfl) (fun c=>([(0,.aa (.list (.list (.int .i64))) b),(3,.ab 0),(4,dI c.1)],[some (.nest (.int .i64) c.2 0 [])])) ?_ fun c=> .map (.ch ?_)))) fun e=>(.ch ?_))))<;>first|(intro g;simp only[DC,DD,rn,DE,ae];kernel_rfl)|kernel_rfl⟩
 |_,_=>aj
def af2:af Tryz.prog:=ak sq Tryz.func21 Tryz.call21 [WD,af1] true [] fun
 |[.agg [.aa (.list (.int .i64)) b,.aa (.list (.list (.int .i64))) c]],[]=>⟨ad.a (wn b c) fun t=>(.agg [.ab 1,.ab 2],[some (.box [.ab 1,.ab 2]),some (sI t.1),some (.nest (.int .i64) t.2 0 [])]),by refine fi (fun t=> [(2,.ptr 0 0)]) ?_ (.ch ?_)<;>first|(intro d;simp only[wn,ae];kernel_rfl)|kernel_rfl⟩
 |_,_=>aj
def lR:af Tryz.prog:=ak sq Tryz.func110 Tryz.call110 [] false [] fun
 |[.aa (.int .i64) b,.aa (.int .i64) c,.aa (.int .i64) d],[]=>⟨ad.a (wo b c d) fun t=>(dB t,[]),by refine al ?_ (.ch ?_)<;>first|(intro e;simp only[wo,ae];kernel_rfl)|kernel_rfl⟩
 |_,_=>aj
def eM:af Tryz.prog:=ak sq Tryz.func62 Tryz.call62 [lR] false [] fun
 |[.aa (.list (.int .i64)) d],[]=>⟨ad.a (DN d) fun t=>(dB t,[]),by refine al ?_ (.group 3 (.aK (fun _=>rfl) (fun c=>([(0,dL d),(3,dI c),(4,dI 0)],[])) (.ch ?_) fun c=>(.aK (fun _=>rfl) (fun g=>([(4,dI g)],[])) (.seq (fun j=>([(0,dL d),(3,dI c),(4,dI 0),(5,dI 0)],[])) (.ch ?_) fun j=>(.block (Sum.elim (fun _=>false) (fun _=>true)) (bf (fun _=>rfl) (fun _=>rfl)) (.loop (bf (fun _=>rfl) (fun _=>rfl)) (fun b=>([(0,dL d),(3,dI c),(4,dI b.1),(5,dI b.2)],[])) ?_ fun b=> .map (.aK (fun _=>rfl) (fun k=>([(0,dL d),(3,dI c),(4,dI b.1),(5,dI b.2)],[])) (.ch ?_) fun k=>(.map (.aK (fun _=>rfl) (fun h=>([(0,dL d),(3,dI c),(4,dI h),(5,dI b.2)],[])) (.block (fun _=>false) (bf (fun _=>rfl) (fun _=>rfl)) (.group 2 (.aK (fun _=>rfl) (fun e=>([(0,dL d),(3,dI c),(4,dI e.1),(5,dI b.2),(6,dI e.2)],[])) (.ch ?_) fun e=>(.map (.aK (fun _=>rfl) (fun i=>([(0,dL d),(3,dI c),(4,dI e.1),(5,dI b.2),(6,dI i)],[])) (.seq (fun l=>([(0,dL d),(3,dI c),(4,dI e.1),(5,dI b.2),(6,dI e.2),(7,dI 0)],[])) (.ch ?_) fun l=>(.block (Sum.elim (fun _=>false) (fun _=>true)) (bf (fun _=>rfl) (fun _=>rfl)) (.loop (bf (fun _=>rfl) (fun _=>rfl)) (fun f=>([(0,dL d),(3,dI c),(4,dI e.1),(5,dI b.2),(6,dI f.1),(7,dI f.2)],[])) ?_ fun f=> .map (.ch ?_)))) fun i=>(.ch ?_)))))) fun h=>(.map (.ch ?_)))))))) fun g=>(.ch ?_))))<;>first|(intro m;simp only[DF,DG,wq,DH,DI,wr,DK,DL,DM,ae];kernel_rfl)|kernel_rfl⟩
 |_,_=>aj
def WE:af Tryz.prog:=ak sq Tryz.func11 Tryz.call11 [eM] false [] fun
 |[.agg [.aa (.list (.int .i64)) b,.aa (.list (.list (.int .i64))) c]],[]=>⟨ad.a (wt b c) fun t=>(dB t,[]),by refine al ?_ (.seq (fun e=>([(1,.ptr 0 0)],[some (.box [dL b,.aa (.list (.list (.int .i64))) c])])) (.ch ?_) fun e=>(.aK (fun _=>rfl) (fun f=>([(1,.ptr 0 0)],[some (.box [dL b,.aa (.list (.list (.int .i64))) c])])) (.seq (fun g=>([(1,.ptr 0 0),(3,dI 0)],[some (.box [dL b,.aa (.list (.list (.int .i64))) c])])) (.ch ?_) fun g=>(.block (Sum.elim (fun _=>false) (fun _=>true)) (bf (fun _=>rfl) (fun _=>rfl)) (.loop (bf (fun _=>rfl) (fun _=>rfl)) (fun d=>([(1,.ptr 0 0),(3,dI d)],[some (.box [dL b,.aa (.list (.list (.int .i64))) c])])) ?_ fun d=> .map (.ch ?_)))) fun f=>(.ch ?_)))<;>first|(intro h;simp only[DO,DP,pd,DQ,ae];kernel_rfl)|kernel_rfl⟩
 |_,_=>aj
def WF:af Tryz.prog:=ak sq Tryz.func37 Tryz.call37 [] true [(3,.d [8,2,100010] []),(7,.t [⟨1,3,true,some 1,some ((.int .i64))⟩])] fun
 |[.agg [.aa (.list (.int .i64)) c,.aa (.list (.list (.int .i64))) e]],[]=>⟨ad.a (wu c e) fun t=>(.agg [.ab 1,.ab 2],[some (.box [.ab 1,.ab 2]),some (sI t.1),some (.nest (.int .i64) t.2 0 [])]),by refine fi (fun t=> [(2,.ptr 0 0)]) ?_ (.group 1 (.seq (fun b=>([(1,.ptr 0 0),(2,.ptr 1 0),(3,.ptr 2 0)],[some (.box [dL c,.aa (.list (.list (.int .i64))) e]),some (.box [.aM,.aM]),some (.box [.ab 3,.aM]),some (sI b)])) (.ch ?_) fun b=>(.seq (fun g=>([(2,.ptr 0 0),(3,.ptr 1 0)],[some (.box [.aM,.aM]),some (.box [.ab 2,.ab 3]),some (sI b),some (.nest (.int .i64) g 0 [])])) (.seq (fun h=>([(1,.ptr 0 0),(2,.ptr 1 0),(3,.ptr 2 0),(4,dI 0)],[some (.box [dL c,.aa (.list (.list (.int .i64))) e]),some (.box [.aM,.aM]),some (.box [.ab 3,.ab 4]),some (sI b),some (.nest (.int .i64) ([]:List (List Int)) 0 [])])) (.ch ?_) fun h=>(.block (fun _=>true) (fun _=>rfl) (.loop (fun _=>rfl) (fun f=>([(1,.ptr 0 0),(2,.ptr 1 0),(3,.ptr 2 0),(4,dI f.1)],[some (.box [dL c,.aa (.list (.list (.int .i64))) e]),some (.box [.aM,.aM]),some (.box [.ab 3,.ab 4]),some (sI b),some (.nest (.int .i64) f.2 0 [])])) ?_ fun f=> .map (.ch ?_)))) fun g=>(.ch ?_))))<;>first|(intro i;simp only[DR,DS,rp,DT,ae];kernel_rfl)|kernel_rfl⟩
 |_,_=>aj
def WG:af Tryz.prog:=ak sq Tryz.func57 Tryz.call57 [] false [] fun
 |[.aa .str b,.aa (.int .u8) d],[]=>⟨ad.a (wv b d) fun t=>(.ab 0,[some (.seq .str t)]),by refine al ?_ (.group 2 (.seq (fun f=>([(0,dS b),(1,dU d),(5,.ab 0),(6,dI 0)],[some (.seq .str ([]:List ByteArray))])) (.ch ?_) fun f=>(.seq (fun e=>([(0,dS b),(5,.ab 0),(6,dI e.1)],[some (.seq .str e.2)])) (.seq (fun g=>([(0,dS b),(1,dU d),(5,.ab 0),(6,dI 0),(7,dI 0)],[some (.seq .str ([]:List ByteArray))])) (.ch ?_) fun g=>(.block (fun _=>true) (fun _=>rfl) (.loop (fun _=>rfl) (fun c=>([(0,dS b),(1,dU d),(5,.ab 0),(6,dI c.1),(7,dI c.2.1)],[some (.seq .str c.2.2)])) ?_ fun c=> .map (.ch ?_)))) fun e=>(.ch ?_))))<;>first|(intro h;simp only[DU,DV,pe,DW,ae];kernel_rfl)|kernel_rfl⟩
 |_,_=>aj
def WH:af Tryz.prog:=ak sq Tryz.func58 Tryz.call58 [lR] false [] fun
 |[.aa .str b],[]=>⟨ad.a (pf b) fun t=>(dI t,[]),by refine al ?_ (.group 2 (.aK (fun _=>rfl) (fun e=>([(0,dS b),(3,dI 0)],[])) (.ch ?_) fun e=>(.aK (fun _=>rfl) (fun d=>([(3,dI d)],[])) (.seq (fun f=>([(0,dS b),(3,dI 0),(4,dI 0)],[])) (.ch ?_) fun f=>(.block (Sum.elim (fun _=>false) (fun _=>true)) (bf (fun _=>rfl) (fun _=>rfl)) (.loop (bf (fun _=>rfl) (fun _=>rfl)) (fun c=>([(0,dS b),(3,dI c.1),(4,dI c.2)],[])) ?_ fun c=> .map (.ch ?_)))) fun d=>(.ch ?_))))<;>first|(intro g;simp only[ww,wx,nl,wy,ae];kernel_rfl)|kernel_rfl⟩
 |_,_=>aj
noncomputable def WI:bj:=gI [(1,.d [2,7] [0,1,3,4,5,6,7,8,2,9,10]),(4,.t [⟨5,9,false,none,none⟩])] Tryz.f43
def kw (n:Nat):bd:=fun avs a=>
 match avs,a with
 |[.aa (.int .i64) b],[]=>⟨_,ru n b,fun t=>(dS t,[]),[],none⟩
 |_,_=>ad.no
noncomputable def WJ (n:Nat):Ctx:=⟨bH cQ,cO [(43,kw n)],gL,0,false,[]⟩
theorem af3 (n:Nat) (a:Int) {r:AV} {b:Heap} (h:(ad.mk _ (ru (n+1) a) (fun t=>(dS t,[])) [] none).run=some (r,b)):bY (WJ n) LL (ct Tryz.f43) WI ⟨cu 21 0 [(0,dI a)],[]⟩ (dR (bH cQ) Tryz.f43.results.toList r b):=
 gG (Lk.go (N:=21) (n:=rt (ru n) a) (fin:=(fun t=>(ret,⟨cu 21 0 [(2,dS t)],[]⟩))) (.ch fun c=>by simp only[rt,ae];kernel_rfl) (by kernel_rfl)) (by kernel_rfl) (fun t=>fF (by kernel_rfl)) h
theorem af4 (n:Nat) (a:Sound Tryz.prog 43 (kw n)):Sound Tryz.prog 43 (kw (n+1)):=by
 refine gH (C:=WJ n) (c:=ct Tryz.f43) (gF gK (be a dd) (be Tryz.call43 dd) (by kernel_rfl)) Tryz.func43 (by kernel_rfl) LL WI ?_
 intro avs b r d h
 unfold kw at h
 split at h
 ·refine bY.cast ?_ ?_ ?_ (af3 n _ h)<;>kernel_rfl
 ·simp[ad.no,ad.run] at h
theorem af5:Sound Tryz.prog 43 (kw 0):=by
 intro avs a r b h
 unfold kw at h
 split at h
 ·simp[ru,kr,ad.run] at h
 ·simp[ad.no,ad.run] at h
theorem WK: ∀n,Sound Tryz.prog 43 (kw n)
 |0=>af5
 |n+1=>by
  have a:=WK n
  exact af4 n a
def pV:bd:=fun avs a=>
 match avs,a with
 |[.aa (.int .i64) b],[]=>⟨_,cV b,fun t=>(dS t,[]),[],none⟩
 |_,_=>ad.no
theorem J2:Sound Tryz.prog 43 pV:=by
 have e:pV=kw RR:=by
  funext avs H
  unfold pV kw
  split<;>first|rfl|(simp only[cV])
 rw[e]
 exact(WK RR)
def af6:af Tryz.prog:=ak sq Tryz.func82 Tryz.call82 [lR,⟨43,pV,J2,Tryz.call43⟩] false [(19,.d [2,7] [0,1,5,6,2,3,4,7,8,9])] fun
 |[.agg [.aa (.int .i64) b,.aa (.int .i64) c,.aa (.int .i64) e]],[]=>⟨ad.a (wA b c e) fun t=>(dS t,[]),by refine al ?_ (.seq (fun h=>([(1,.ptr 0 0)],[some (.box [dI b,dI c,dI e])])) (.ch ?_) fun h=>(.aK (fun _=>rfl) (fun i=>([],[])) (.block (fun _=>false) (bf (fun _=>rfl) (fun _=>rfl)) (.seq (fun f=>([(1,.ptr 0 0),(3,dB f)],[some (.box [dI b,dI c,dI e])])) (.ch ?_) fun f=>(.cond ?_ (.map (.ch ?_)) (.seq (fun g=>([(1,.ptr 0 0),(26,dB g)],[some (.box [dI b,dI c,dI e])])) (.ch ?_) fun g=>(.ch ?_))))) fun i=>(.ch ?_)))<;>first|(intro j;simp only[D1,D2,D3,D4,wz,OV,ae];kernel_rfl)|kernel_rfl⟩
 |_,_=>aj
def af7:af Tryz.prog:=ak sq Tryz.func38 Tryz.call38 [WG,WH,af6] false [(15,.d [4,8] [0,1,2,3,5,6,7,4,8,9,10,11,12])] fun
 |[.aa .str b],[]=>⟨ad.a (wC b) fun t=>(.ba [.agg [dI t.2.1,dI t.2.2.1,dI t.2.2.2],dB t.1],[some (.box [dI t.2.1,dI t.2.2.1,dI t.2.2.2])]),by refine fi (fun t=> [(2,.ptr 0 0),(3,dB t.1)]) ?_ (.group 2 (.seq (fun c=>([(0,dS b),(2,.ptr 0 0),(4,.ab 1),(5,.ab 2)],[some (.box [dI 0,dI 0,dI 0]),some (.seq .str c.1),some (.seq (.pair (.int .i64) (.pair (.int .i64) (.pair (.int .i64) .unit))) c.2)])) (.ch ?_) fun c=>(.seq (fun g=>([(0,dS b),(2,.ptr 0 0),(4,.ab 1),(5,.ab 2)],[some (.box [dI 0,dI 0,dI 0]),some (.seq .str c.1),some (.seq (.pair (.int .i64) (.pair (.int .i64) (.pair (.int .i64) .unit))) g)])) (.seq (fun h=>([(0,dS b),(2,.ptr 0 0),(4,.ab 1),(5,.ab 2),(16,dB h)],[some (.box [dI 0,dI 0,dI 0]),some (.seq .str c.1),some (.seq (.pair (.int .i64) (.pair (.int .i64) (.pair (.int .i64) .unit))) c.2)])) (.ch ?_) fun h=>(.cond ?_ (.map (.ch ?_)) (.map (.ch ?_)))) fun g=>(.seq (fun e=>([(0,dS b),(2,.ptr 0 0),(5,.ab 1)],[some (.box [dI 0,dI 0,dI 0]),some (.seq (.pair (.int .i64) (.pair (.int .i64) (.pair (.int .i64) .unit))) e)])) (.ch ?_) fun e=>(.aK (fun _=>rfl) (fun i=>([(2,.ptr 0 0)],[some (.box [dI 0,dI 0,dI 0])])) (.seq (fun j=>([(0,dS b),(2,.ptr 0 0),(5,.ab 1),(6,dI 0)],[some (.box [dI 0,dI 0,dI 0]),some (.seq (.pair (.int .i64) (.pair (.int .i64) (.pair (.int .i64) .unit))) e)])) (.ch ?_) fun j=>(.block (Sum.elim (fun _=>false) (fun _=>true)) (bf (fun _=>rfl) (fun _=>rfl)) (.loop (bf (fun _=>rfl) (fun _=>rfl)) (fun f=>([(0,dS b),(2,.ptr 0 0),(5,.ab 1),(6,dI f)],[some (.box [dI 0,dI 0,dI 0]),some (.seq (.pair (.int .i64) (.pair (.int .i64) (.pair (.int .i64) .unit))) e)])) ?_ fun f=> .map (.ch ?_)))) fun i=>(.ch ?_))))))<;>first|(intro k;simp only[D6,D7,D8,D9,wB,Ea,rv,Eb,ae];kernel_rfl)|kernel_rfl⟩
 |_,_=>aj
def af8:af Tryz.prog:=ak sq Tryz.func148 Tryz.call148 [eM] false [] fun
 |[.aa (.list (.int .i64)) c],[]=>⟨ad.a (wE c) fun t=>(.ab 0,[some (sI t)]),by refine al ?_ (.group 2 (.seq (fun b=>([(0,dL c),(3,.ab 0),(4,dI b)],[some (sI ([]:List Int))])) (.ch ?_) fun b=>(.seq (fun e=>([(3,.ab 0)],[some (sI e)])) (.seq (fun f=>([(0,dL c),(3,.ab 0),(4,dI b),(5,dI f)],[some (sI ([]:List Int))])) (.ch ?_) fun f=>(.block (fun _=>true) (fun _=>rfl) (.loop (fun _=>rfl) (fun d=>([(0,dL c),(3,.ab 0),(4,dI b),(5,dI d.1)],[some (sI d.2)])) ?_ fun d=> .map (.ch ?_)))) fun e=>(.ch ?_))))<;>first|(intro g;simp only[Ee,Ef,nn,Eg,ae];kernel_rfl)|kernel_rfl⟩
 |_,_=>aj
def J3:af Tryz.prog:=ak sq Tryz.func44 Tryz.call44 [eM] false [] fun
 |[.aa (.list (.int .i64)) b],[]=>⟨ad.a (Ek b) fun t=>(dI t,[]),by refine al ?_ (.seq (fun d=>([(0,dL b)],[])) (.ch ?_) fun d=>(.aK (fun _=>rfl) (fun e=>([],[])) (.seq (fun f=>([(0,dL b),(3,dI 0)],[])) (.ch ?_) fun f=>(.block (Sum.elim (fun _=>false) (fun _=>true)) (bf (fun _=>rfl) (fun _=>rfl)) (.loop (bf (fun _=>rfl) (fun _=>rfl)) (fun c=>([(0,dL b),(3,dI c)],[])) ?_ fun c=> .map (.ch ?_)))) fun e=>(.ch ?_)))<;>first|(intro g;simp only[Eh,Ei,ph,Ej,ae];kernel_rfl)|kernel_rfl⟩
 |_,_=>aj
noncomputable def WL:bj:=gI [] Tryz.f95
def kx (n:Nat):bd:=fun avs a=>
 match avs,a with
 |[.aa (.list (.int .i64)) b,.aa (.int .i64) c],[]=>⟨_,lD n b c,fun t=>(.ab 0,[some (sI t)]),[],none⟩
 |_,_=>ad.no
noncomputable def WM (n:Nat):Ctx:=⟨bH cQ,cO [(95,kx n)],gL,0,false,[]⟩
theorem af9 (n:Nat) (a:List Int) (b:Int) {r:AV} {g:Heap} (h:(ad.mk _ (lD (n+1) a b) (fun t=>(.ab 0,[some (sI t)])) [] none).run=some (r,g)):bY (WM n) LL (ct Tryz.f95) WL ⟨cu 51 0 [(0,dL a),(1,dI b)],[]⟩ (dR (bH cQ) Tryz.f95.results.toList r g):=
 gG (Lk.go (N:=51) (n:=Er (lD n) a b) (fin:=(fun t=>(ret,⟨cu 51 0 [(4,.ab 0)],[some (sI t)]⟩))) (.group 1 (.seq (fun l=>([(0,dL a),(1,dI b),(5,.ab 0)],[some (sI ([]:List Int))])) (.ch fun c=>by simp only[El,ae];kernel_rfl) fun l=>(.seq (fun i=>([(0,dL a),(1,dI b),(5,.ab 0)],[some (sI i)])) (.seq (fun m=>([(0,dL a),(1,dI b),(5,.ab 0),(6,dI 1)],[some (sI ([]:List Int))])) (.ch fun c=>by simp only[Em,ae];kernel_rfl) fun m=>(.block (fun _=>true) (fun _=>rfl) (.loop (fun _=>rfl) (fun d=>([(0,dL a),(1,dI b),(5,.ab 0),(6,dI d.1)],[some (sI d.2)])) (by kernel_rfl) fun d=> .map (.ch fun c=>by simp only[ry,ae];kernel_rfl)))) fun i=>(.seq (fun f=>([(0,dL a),(1,dI b),(5,.ab 0)],[some (sI f)])) (.ch fun c=>by simp only[En,ae];kernel_rfl) fun f=>(.seq (fun j=>([(5,.ab 0)],[some (sI j)])) (.seq (fun k=>([(0,dL a),(1,dI b),(5,.ab 0),(7,dI k)],[some (sI f)])) (.ch fun c=>by simp only[Eo,ae];kernel_rfl) fun k=>(.block (fun _=>true) (fun _=>rfl) (.loop (fun _=>rfl) (fun e=>([(0,dL a),(1,dI b),(5,.ab 0),(7,dI e.1)],[some (sI e.2)])) (by kernel_rfl) fun e=> .map (.ch fun c=>by simp only[rz,ae];kernel_rfl)))) fun j=>(.ch fun c=>by simp only[Ep,ae];kernel_rfl)))))) (by kernel_rfl)) (by kernel_rfl) (fun t=>fF (by kernel_rfl)) h
theorem aga (n:Nat) (a:Sound Tryz.prog 95 (kx n)):Sound Tryz.prog 95 (kx (n+1)):=by
 refine gH (C:=WM n) (c:=ct Tryz.f95) (gF gK (be a dd) (be Tryz.call95 dd) (by kernel_rfl)) Tryz.func95 (by kernel_rfl) LL WL ?_
 intro avs b r d h
 unfold kx at h
 split at h
 ·refine bY.cast ?_ ?_ ?_ (af9 n _ _ h)<;>kernel_rfl
 ·simp[ad.no,ad.run] at h
theorem agb:Sound Tryz.prog 95 (kx 0):=by
 intro avs a r b h
 unfold kx at h
 split at h
 ·simp[lD,np,ad.run] at h
 ·simp[ad.no,ad.run] at h
theorem WN: ∀n,Sound Tryz.prog 95 (kx n)
 |0=>agb
 |n+1=>by
  have a:=WN n
  exact aga n a
def z8:bd:=fun avs a=>
 match avs,a with
 |[.aa (.list (.int .i64)) b,.aa (.int .i64) c],[]=>⟨_,rA b c,fun t=>(.ab 0,[some (sI t)]),[],none⟩
 |_,_=>ad.no
theorem agc:Sound Tryz.prog 95 z8:=by
 have e:z8=kx RR:=by
  funext avs H
  unfold z8 kx
  split<;>first|rfl|(simp only[rA])
 rw[e]
 exact(WN RR)
def J4:af Tryz.prog:=ak sq Tryz.func42 Tryz.call42 [eM,J3,⟨95,z8,agc,Tryz.call95⟩] false [] fun
 |[.aa (.list (.int .i64)) b],[]=>⟨ad.a (wF b) fun t=>(.ab 0,[some (sI t)]),by refine al ?_ (.ch ?_)<;>first|(intro c;simp only[wF,ae];kernel_rfl)|kernel_rfl⟩
 |_,_=>aj
def WO:af Tryz.prog:=ak sq Tryz.func151 Tryz.call151 [lR] false [] fun
 |[.aa (.list (.int .i64)) b,.aa (.int .i64) c],[]=>⟨ad.a (EB b c) fun t=>(dB t,[]),by refine al ?_ (.seq (fun f=>([(0,dL b),(1,dI c)],[])) (.ch ?_) fun f=>(.aK (fun _=>rfl) (fun g=>([(0,dL b),(1,dI c)],[])) (.seq (fun h=>([(0,dL b),(1,dI c),(5,dI 0)],[])) (.ch ?_) fun h=>(.block (Sum.elim (fun _=>false) (fun _=>true)) (bf (fun _=>rfl) (fun _=>rfl)) (.loop (bf (fun _=>rfl) (fun _=>rfl)) (fun d=>([(0,dL b),(1,dI c),(5,dI d)],[])) ?_ fun d=> .map (.aK (fun _=>rfl) (fun i=>([(0,dL b),(1,dI c),(5,dI d)],[])) (.ch ?_) fun i=>(.map (.aK (fun _=>rfl) (fun j=>([(0,dL b),(1,dI c),(5,dI d)],[])) (.block (fun _=>false) (bf (fun _=>rfl) (fun _=>rfl)) (.group 1 (.aK (fun _=>rfl) (fun k=>([(0,dL b),(1,dI c),(5,dI d),(6,dI 0)],[])) (.ch ?_) fun k=>(.block (Sum.elim (fun _=>false) (fun _=>true)) (bf (fun _=>rfl) (fun _=>rfl)) (.loop (bf (fun _=>rfl) (fun _=>rfl)) (fun e=>([(0,dL b),(1,dI c),(5,dI d),(6,dI e)],[])) ?_ fun e=> .map (.ch ?_)))))) fun j=>(.map (.ch ?_)))))))) fun g=>(.ch ?_)))<;>first|(intro l;simp only[Et,Eu,Ev,Ew,wG,Ey,EA,ae];kernel_rfl)|kernel_rfl⟩
 |_,_=>aj
def agd:af Tryz.prog:=ak sq Tryz.func117 Tryz.call117 [eM,WO] false [] fun
 |[.aa (.list (.int .i64)) b,.aa (.list (.int .i64)) c],[]=>⟨ad.a (EH b c) fun t=>(.ba [.ab 0,dB t.1],[some (sI t.2)]),by refine al ?_ (.group 2 (.aK (fun _=>rfl) (fun g=>([(0,dL b),(1,dL c),(6,.ab 0)],[some (sI g)])) (.ch ?_) fun g=>(.seq (fun d=>([(0,dL b),(1,dL c),(6,.ab 0)],[some (sI d)])) (.seq (fun i=>([(0,dL b),(1,dL c),(6,.ab 0),(7,dI 0)],[some (sI g)])) (.ch ?_) fun i=>(.block (fun _=>true) (fun _=>rfl) (.loop (fun _=>rfl) (fun e=>([(0,dL b),(1,dL c),(6,.ab 0),(7,dI e.1)],[some (sI e.2)])) ?_ fun e=> .map (.ch ?_)))) fun d=>(.seq (fun j=>([(0,dL b),(1,dL c),(6,.ab 0),(8,.ab 1)],[some (sI d),some (sI ([]:List Int))])) (.ch ?_) fun j=>(.seq (fun h=>([(8,.ab 0)],[some (sI h)])) (.seq (fun k=>([(0,dL b),(1,dL c),(6,.ab 0),(8,.ab 1),(9,dI 0)],[some (sI d),some (sI ([]:List Int))])) (.ch ?_) fun k=>(.block (fun _=>true) (fun _=>rfl) (.loop (fun _=>rfl) (fun f=>([(0,dL b),(1,dL c),(6,.ab 0),(8,.ab 1),(9,dI f.1)],[some (sI d),some (sI f.2)])) ?_ fun f=> .map (.ch ?_)))) fun h=>(.ch ?_))))))<;>first|(intro l;simp only[EC,ED,rC,EE,EF,wI,EG,ae];kernel_rfl)|kernel_rfl⟩
 |_,_=>aj
def age:af Tryz.prog:=ak sq Tryz.func149 Tryz.call149 [J4,agd] false [] fun
 |[.aa (.list (.int .i64)) b],[]=>⟨ad.a (wJ b) fun t=>(.ab 0,[some (sI t)]),by refine al ?_ (.ch ?_)<;>first|(intro c;simp only[wJ,ae];kernel_rfl)|kernel_rfl⟩
 |_,_=>aj
def agf:af Tryz.prog:=ak sq Tryz.func94 Tryz.call94 [lR,af8,age] false [(0,.t [⟨0,4,true,none,none⟩]),(3,.t [⟨0,4,true,none,none⟩]),(6,.t [⟨0,4,true,none,none⟩]),(12,.t [⟨0,4,true,none,none⟩]),(15,.t [⟨0,4,true,none,none⟩])] fun
 |[.aa (.list (.int .i64)) b,.agg [.aa (.int .i64) c,.aa (.int .i64) d,.aa (.int .i64) e]],[]=>⟨ad.a (rE b c d e) fun t=>(.win 0 0 t.1,[some (sI t.2)]),by refine al ?_ (.ch ?_)<;>first|(intro f;simp only[rE,ae];kernel_rfl)|kernel_rfl⟩
 |_,_=>aj
def agh:af Tryz.prog:=ak sq Tryz.func39 Tryz.call39 [WE,WF,agf,eM] true [(28,.t [⟨0,4,false,some 0,some ((.int .i64))⟩,⟨0,4,true,some 1,some ((.int .i64))⟩])] fun
 |[.agg [.aa (.list (.int .i64)) c,.aa (.list (.list (.int .i64))) d],.agg [.aa (.int .i64) h,.aa (.int .i64) i,.aa (.int .i64) j]],[]=>⟨ad.a (wK c d h i j) fun t=>(.ba [.agg [.ab 1,.ab 2],dB t.1],[some (.box [.ab 1,.ab 2]),some (sI t.2.1),some (.nest (.int .i64) t.2.2 0 [])]),by refine fi (fun t=> [(4,.ptr 0 0),(5,dB t.1)]) ?_ (.group 5 (.aK (fun _=>rfl) (fun b=>([(2,.ptr 0 0),(4,.ptr 1 0),(6,.ptr 2 0),(8,.win 3 0 b.1),(9,dB b.2.1)],[some (.box [dL c,.aa (.list (.list (.int .i64))) d]),some (.box [.aM,.aM]),some (.box [.ab 4,.ab 5]),some (sI b.2.2.1),some (sI b.2.2.2.1),some (.nest (.int .i64) b.2.2.2.2 0 [])])) (.ch ?_) fun b=>(.seq (fun f=>([(4,.ptr 0 0),(6,.ptr 1 0),(8,.win 2 0 b.1),(9,dB f)],[some (.box [.aM,.aM]),some (.box [.ab 3,.ab 4]),some (sI b.2.2.1),some (sI b.2.2.2.1),some (.nest (.int .i64) b.2.2.2.2 0 [])])) (.seq (fun g=>([(2,.ptr 0 0),(4,.ptr 1 0),(6,.ptr 2 0),(8,.win 3 0 b.1),(9,dB b.2.1),(10,dI 0)],[some (.box [dL c,.aa (.list (.list (.int .i64))) d]),some (.box [.aM,.aM]),some (.box [.ab 4,.ab 5]),some (sI b.2.2.1),some (sI b.2.2.2.1),some (.nest (.int .i64) b.2.2.2.2 0 [])])) (.ch ?_) fun g=>(.block (fun _=>true) (fun _=>rfl) (.loop (fun _=>rfl) (fun e=>([(2,.ptr 0 0),(4,.ptr 1 0),(6,.ptr 2 0),(8,.win 3 0 b.1),(9,dB e.1),(10,dI e.2)],[some (.box [dL c,.aa (.list (.list (.int .i64))) d]),some (.box [.aM,.aM]),some (.box [.ab 4,.ab 5]),some (sI b.2.2.1),some (sI b.2.2.2.1),some (.nest (.int .i64) b.2.2.2.2 0 [])])) ?_ fun e=> .map (.ch ?_)))) fun f=>(.ch ?_))))<;>first|(intro k;simp only[EJ,EL,pj,EN,ae];kernel_rfl)|kernel_rfl⟩
 |_,_=>aj
def agi:af Tryz.prog:=ak sq Tryz.func40 Tryz.call40 [⟨43,pV,J2,Tryz.call43⟩] false [] fun
 |[.aa (.list (.int .i64)) b],[]=>⟨ad.a (wM b) fun t=>(dS t,[]),by refine al ?_ (.group 1 (.seq (fun e=>([(0,dL b),(3,dS empty)],[])) (.ch ?_) fun e=>(.seq (fun d=>([(0,dL b),(3,dS d)],[])) (.seq (fun f=>([(0,dL b),(3,dS empty),(4,dI 0)],[])) (.ch ?_) fun f=>(.block (fun _=>true) (fun _=>rfl) (.loop (fun _=>rfl) (fun c=>([(0,dL b),(3,dS c.1),(4,dI c.2)],[])) ?_ fun c=> .map (.ch ?_)))) fun d=>(.ch ?_))))<;>first|(intro g;simp only[EQ,ER,rF,ES,ae];kernel_rfl)|kernel_rfl⟩
 |_,_=>aj
def agj:af Tryz.prog:=ak sq Tryz.func41 Tryz.call41 [eM] false [] fun
 |[.aa (.list (.int .i64)) c],[]=>⟨ad.a (E1 c) fun t=>(.ab 0,[some (sI t)]),by refine al ?_ (.group 1 (.seq (fun i=>([(0,dL c),(3,.ab 0)],[some (sI ([]:List Int))])) (.ch ?_) fun i=>(.seq (fun e=>([(3,.ab 0)],[some (sI e)])) (.seq (fun j=>([(0,dL c),(3,.ab 0),(4,dI 0)],[some (sI ([]:List Int))])) (.ch ?_) fun j=>(.block (fun _=>true) (fun _=>rfl) (.loop (fun _=>rfl) (fun b=>([(0,dL c),(3,.ab 0),(4,dI b.1)],[some (sI b.2)])) ?_ fun b=> .map (.aK (fun _=>rfl) (fun k=>([(0,dL c),(3,.ab 0),(4,dI b.1)],[some (sI b.2)])) (.ch ?_) fun k=>(.map (.seq (fun f=>([(0,dL c),(3,.ab 0),(4,dI b.1)],[some (sI f)])) (.block (fun _=>false) (fun _=>rfl) (.seq (fun l=>([(0,dL c),(3,.ab 0),(4,dI b.1),(5,dI 0)],[some (sI b.2)])) (.ch ?_) fun l=>(.seq (fun g=>([(0,dL c),(3,.ab 0),(4,dI b.1),(5,dI g)],[some (sI b.2)])) (.seq (fun h=>([(0,dL c),(3,.ab 0),(4,dI b.1),(5,dI 0),(6,dI h)],[some (sI b.2)])) (.ch ?_) fun h=>(.block (fun _=>true) (fun _=>rfl) (.loop (fun _=>rfl) (fun d=>([(0,dL c),(3,.ab 0),(4,dI b.1),(5,dI d.1),(6,dI d.2)],[some (sI b.2)])) ?_ fun d=> .map (.ch ?_)))) fun g=>(.ch ?_)))) fun f=>(.map (.ch ?_)))))))) fun e=>(.ch ?_))))<;>first|(intro m;simp only[ET,EU,wN,EV,EW,wO,EY,EZ,E0,ae];kernel_rfl)|kernel_rfl⟩
 |_,_=>aj
def agk:af Tryz.prog:=ak sq Tryz.func96 Tryz.call96 [] false [(4,.d [15] [])] fun
 |[.aa (.list (.int .i64)) b],[]=>⟨ad.a (wP b) fun t=>(.ab 0,[some (.seq (.list (.int .i64)) t)]),by refine al ?_ (.group 1 (.seq (fun f=>([(0,dL b),(3,.ab 0)],[some (.seq (.list (.int .i64)) ([]:List (List Int)))])) (.ch ?_) fun f=>(.seq (fun e=>([(3,.ab 0)],[some (.seq (.list (.int .i64)) e)])) (.seq (fun g=>([(0,dL b),(3,.ab 0),(4,dI 0)],[some (.seq (.list (.int .i64)) ([]:List (List Int)))])) (.ch ?_) fun g=>(.block (fun _=>true) (fun _=>rfl) (.loop (fun _=>rfl) (fun c=>([(0,dL b),(3,.ab 0),(4,dI c.1)],[some (.seq (.list (.int .i64)) c.2)])) ?_ fun c=> .map (.ch ?_)))) fun e=>(.ch ?_))))<;>first|(intro h;simp only[E3,E4,rH,E5,ae];kernel_rfl)|kernel_rfl⟩
 |_,_=>aj
def agl:af Tryz.prog:=ak sq Tryz.func97 Tryz.call97 [] false [] fun
 |[.aa (.int .i64) c,.aa (.int .i64) d,.aa (.int .i64) e,.aa (.int .i64) f],[]=>⟨ad.a (E8 c d e f) fun t=>(dB t,[]),by refine al ?_ (.group 5 (.aK (fun _=>rfl) (fun b=>([(9,dI b.1),(10,dI b.2.1),(11,dI b.2.2.1),(12,dI b.2.2.2)],[])) (.ch ?_) fun b=>(.ch ?_)))<;>first|(intro g;simp only[E6,E7,ae];kernel_rfl)|kernel_rfl⟩
 |_,_=>aj
def agm:af Tryz.prog:=ak sq Tryz.func45 Tryz.call45 [eM,agk,agl] false [(6,.d [24] [])] fun
 |[.aa (.list (.int .i64)) k],[]=>⟨ad.a (wT k) fun t=>(dI t,[]),by refine al ?_ (.group 3 (.aK (fun _=>rfl) (fun c=>([(3,dI 0),(4,.ab 0)],[some (.seq (.list (.int .i64)) c)])) (.ch ?_) fun c=>(.seq (fun f=>([(3,dI f)],[])) (.seq (fun h=>([(3,dI 0),(4,.ab 0),(5,dI 0)],[some (.seq (.list (.int .i64)) c)])) (.ch ?_) fun h=>(.block (fun _=>true) (fun _=>rfl) (.loop (fun _=>rfl) (fun b=>([(3,dI b.1),(4,.ab 0),(5,dI b.2)],[some (.seq (.list (.int .i64)) c)])) ?_ fun b=> .map (.aK (fun _=>rfl) (fun i=>([(3,dI b.1),(4,.ab 0),(5,dI b.2)],[some (.seq (.list (.int .i64)) c)])) (.ch ?_) fun i=>(.map (.seq (fun g=>([(3,dI g),(4,.ab 0),(5,dI b.2)],[some (.seq (.list (.int .i64)) c)])) (.block (fun _=>false) (fun _=>rfl) (.seq (fun j=>([(3,dI b.1),(4,.ab 0),(5,dI b.2),(6,dI 0)],[some (.seq (.list (.int .i64)) c)])) (.ch ?_) fun j=>(.block (fun _=>true) (fun _=>rfl) (.loop (fun _=>rfl) (fun e=>([(3,dI e.1),(4,.ab 0),(5,dI b.2),(6,dI e.2)],[some (.seq (.list (.int .i64)) c)])) ?_ fun e=> .map (.ch ?_))))) fun g=>(.map (.ch ?_)))))))) fun f=>(.ch ?_))))<;>first|(intro l;simp only[Fa,Fb,wR,Fc,rI,Ff,Fg,ae];kernel_rfl)|kernel_rfl⟩
 |_,_=>aj
noncomputable def WP:bj:=gI [] Tryz.f104
def ky (n:Nat):bd:=fun avs a=>
 match avs,a with
 |[.aa (.list (.int .i64)) b,.aa (.int .i64) c],[]=>⟨_,pk n b c,fun t=>(dI t,[]),[],none⟩
 |_,_=>ad.no
noncomputable def WQ (n:Nat):Ctx:=⟨bH cQ,cO [(104,ky n)],gL,0,false,[]⟩
theorem agn (n:Nat) (a:List Int) (b:Int) {r:AV} {f:Heap} (h:(ad.mk _ (pk (n+1) a b) (fun t=>(dI t,[])) [] none).run=some (r,f)):bY (WQ n) LL (ct Tryz.f104) WP ⟨cu 29 0 [(0,dL a),(1,dI b)],[]⟩ (dR (bH cQ) Tryz.f104.results.toList r f):=
 gG (Lk.go (N:=29) (n:=Fk (pk n) a b) (fin:=(fun t=>(ret,⟨cu 29 0 [(4,dI t)],[]⟩))) (.group 1 (.seq (fun e=>([(0,dL a),(1,dI b),(5,dI e)],[])) (.ch fun c=>by simp only[Fh,ae];kernel_rfl) fun e=>(.seq (fun g=>([(5,dI g)],[])) (.seq (fun i=>([(0,dL a),(1,dI b),(5,dI e),(6,dI 0)],[])) (.ch fun c=>by simp only[Fi,ae];kernel_rfl) fun i=>(.block (fun _=>true) (fun _=>rfl) (.loop (fun _=>rfl) (fun d=>([(0,dL a),(1,dI b),(5,dI d.1),(6,dI d.2)],[])) (by kernel_rfl) fun d=> .map (.ch fun c=>by simp only[rJ,ae];kernel_rfl)))) fun g=>(.ch fun c=>by simp only[Fj,ae];kernel_rfl)))) (by kernel_rfl)) (by kernel_rfl) (fun t=>fF (by kernel_rfl)) h
theorem ago (n:Nat) (a:Sound Tryz.prog 104 (ky n)):Sound Tryz.prog 104 (ky (n+1)):=by
 refine gH (C:=WQ n) (c:=ct Tryz.f104) (gF gK (be a dd) (be Tryz.call104 dd) (by kernel_rfl)) Tryz.func104 (by kernel_rfl) LL WP ?_
 intro avs b r d h
 unfold ky at h
 split at h
 ·refine bY.cast ?_ ?_ ?_ (agn n _ _ h)<;>kernel_rfl
 ·simp[ad.no,ad.run] at h
theorem agp:Sound Tryz.prog 104 (ky 0):=by
 intro avs a r b h
 unfold ky at h
 split at h
 ·simp[pk,lF,ad.run] at h
 ·simp[ad.no,ad.run] at h
theorem WR: ∀n,Sound Tryz.prog 104 (ky n)
 |0=>agp
 |n+1=>by
  have a:=WR n
  exact ago n a
def kz:bd:=fun avs a=>
 match avs,a with
 |[.aa (.list (.int .i64)) b,.aa (.int .i64) c],[]=>⟨_,hL b c,fun t=>(dI t,[]),[],none⟩
 |_,_=>ad.no
theorem pW:Sound Tryz.prog 104 kz:=by
 have e:kz=ky RR:=by
  funext avs H
  unfold kz ky
  split<;>first|rfl|(simp only[hL])
 rw[e]
 exact(WR RR)
def agq:af Tryz.prog:=ak sq Tryz.func150 Tryz.call150 [] false [] fun
 |[.aa (.int .i64) d],[]=>⟨ad.a (Qd d) fun t=>(dI t,[]),by refine al ?_ (.group 1 (.seq (fun e=>([(0,dI d),(3,dI 0)],[])) (.ch ?_) fun e=>(.seq (fun c=>([(3,dI c)],[])) (.block (fun _=>true) (fun _=>rfl) (.loop (fun _=>rfl) (fun b=>([(0,dI b.1),(3,dI b.2)],[])) ?_ fun b=> .map (.ch ?_))) fun c=>(.ch ?_))))<;>first|(intro f;simp only[Qa,Qb,Qc,ae];kernel_rfl)|kernel_rfl⟩
 |_,_=>aj
def agr:af Tryz.prog:=ak sq Tryz.func98 Tryz.call98 [eM,lR,⟨104,kz,pW,Tryz.call104⟩,agq] false [] fun
 |[.aa (.list (.int .i64)) b,.aa (.int .i64) c],[]=>⟨ad.a (rK b c) fun t=>(dI t,[]),by refine al ?_ (.ch ?_)<;>first|(intro d;simp only[rK,ae];kernel_rfl)|kernel_rfl⟩
 |_,_=>aj
def ags:af Tryz.prog:=ak sq Tryz.func46 Tryz.call46 [eM,agr] false [] fun
 |[.aa (.list (.int .i64)) b],[]=>⟨ad.a (wW b) fun t=>(dI t,[]),by refine al ?_ (.group 1 (.seq (fun e=>([(0,dL b),(3,dI (-1))],[])) (.ch ?_) fun e=>(.seq (fun d=>([(3,dI d)],[])) (.seq (fun f=>([(0,dL b),(3,dI (-1)),(4,dI 1)],[])) (.ch ?_) fun f=>(.block (fun _=>true) (fun _=>rfl) (.loop (fun _=>rfl) (fun c=>([(0,dL b),(3,dI c.1),(4,dI c.2)],[])) ?_ fun c=> .map (.ch ?_)))) fun d=>(.ch ?_))))<;>first|(intro g;simp only[Fm,Fo,nq,Qh,ae];kernel_rfl)|kernel_rfl⟩
 |_,_=>aj
def agt:af Tryz.prog:=ak sq Tryz.func99 Tryz.call99 [WO] false [] fun
 |[.aa (.list (.int .i64)) c],[]=>⟨ad.a (w2 c) fun t=>(dI t,[]),by refine al ?_ (.group 2 (.aK (fun _=>rfl) (fun g=>([(0,dL c),(3,dI 0)],[])) (.ch ?_) fun g=>(.seq (fun e=>([(3,dI e)],[])) (.seq (fun h=>([(0,dL c),(3,dI 0),(4,dI 0)],[])) (.ch ?_) fun h=>(.block (fun _=>true) (fun _=>rfl) (.loop (fun _=>rfl) (fun b=>([(0,dL c),(3,dI b.1),(4,dI b.2)],[])) ?_ fun b=> .map (.aK (fun _=>rfl) (fun i=>([(0,dL c),(3,dI b.1),(4,dI b.2)],[])) (.ch ?_) fun i=>(.map (.seq (fun f=>([(0,dL c),(3,dI f),(4,dI b.2)],[])) (.block (fun _=>false) (fun _=>rfl) (.seq (fun j=>([(0,dL c),(3,dI b.1),(4,dI b.2),(5,dI 0)],[])) (.ch ?_) fun j=>(.block (fun _=>true) (fun _=>rfl) (.loop (fun _=>rfl) (fun d=>([(0,dL c),(3,dI d.1),(4,dI b.2),(5,dI d.2)],[])) ?_ fun d=> .map (.ch ?_))))) fun f=>(.map (.ch ?_)))))))) fun e=>(.ch ?_))))<;>first|(intro k;simp only[Fp,Fq,wY,Fr,rL,Ft,Fu,ae];kernel_rfl)|kernel_rfl⟩
 |_,_=>aj
def agu:af Tryz.prog:=ak sq Tryz.func47 Tryz.call47 [eM,J4,agt] false [] fun
 |[.aa (.list (.int .i64)) b],[]=>⟨ad.a (w4 b) fun t=>(dI t,[]),by refine al ?_ (.ch ?_)<;>first|(intro c;simp only[w4,ae];kernel_rfl)|kernel_rfl⟩
 |_,_=>aj
def agv:af Tryz.prog:=ak sq Tryz.func48 Tryz.call48 [eM] false [] fun
 |[.aa (.list (.int .i64)) b],[]=>⟨ad.a (w5 b) fun t=>(dI t,[]),by refine al ?_ (.group 2 (.aK (fun _=>rfl) (fun e=>([(0,dL b),(3,dI 0)],[])) (.ch ?_) fun e=>(.seq (fun d=>([(3,dI d)],[])) (.seq (fun f=>([(0,dL b),(3,dI 0),(4,dI 0)],[])) (.ch ?_) fun f=>(.block (fun _=>true) (fun _=>rfl) (.loop (fun _=>rfl) (fun c=>([(0,dL b),(3,dI c.1),(4,dI c.2)],[])) ?_ fun c=> .map (.ch ?_)))) fun d=>(.ch ?_))))<;>first|(intro g;simp only[Fw,Fx,rM,Qu,ae];kernel_rfl)|kernel_rfl⟩
 |_,_=>aj
def WS:af Tryz.prog:=ak sq Tryz.func111 Tryz.call111 [] false [] fun
 |[.aa (.int .i64) b],[]=>⟨ad.a (QA b) fun t=>(.ab 0,[some (sI t)]),by refine al ?_ (.group 1 (.seq (fun e=>([(0,dI b),(3,.ab 0)],[some (sI ([]:List Int))])) (.ch ?_) fun e=>(.seq (fun d=>([(3,.ab 0)],[some (sI d)])) (.seq (fun f=>([(0,dI b),(3,.ab 0),(4,dI 0)],[some (sI ([]:List Int))])) (.ch ?_) fun f=>(.block (fun _=>true) (fun _=>rfl) (.loop (fun _=>rfl) (fun c=>([(0,dI b),(3,.ab 0),(4,dI c.1)],[some (sI c.2)])) ?_ fun c=> .map (.ch ?_)))) fun d=>(.ch ?_))))<;>first|(intro g;simp only[Qw,Qx,Qy,Qz,ae];kernel_rfl)|kernel_rfl⟩
 |_,_=>aj
def agw:af Tryz.prog:=ak sq Tryz.func101 Tryz.call101 [⟨104,kz,pW,Tryz.call104⟩,WS] false [] fun
 |[.aa (.list (.int .i64)) c,.aa (.int .i64) d],[]=>⟨ad.a (xa c d) fun t=>(.ab 0,[some (sI t)]),by refine al ?_ (.group 1 (.seq (fun j=>([(0,dL c),(1,dI d),(5,.ab 0)],[some (sI ([]:List Int))])) (.ch ?_) fun j=>(.seq (fun g=>([(5,.ab 0)],[some (sI g)])) (.seq (fun k=>([(0,dL c),(1,dI d),(5,.ab 0),(6,dI 0)],[some (sI ([]:List Int))])) (.ch ?_) fun k=>(.block (fun _=>true) (fun _=>rfl) (.loop (fun _=>rfl) (fun b=>([(0,dL c),(1,dI d),(5,.ab 0),(6,dI b.1)],[some (sI b.2)])) ?_ fun b=> .map (.aK (fun _=>rfl) (fun l=>([(0,dL c),(1,dI d),(5,.ab 0),(6,dI b.1)],[some (sI b.2)])) (.ch ?_) fun l=>(.map (.seq (fun h=>([(0,dL c),(1,dI d),(5,.ab 0),(6,dI b.1)],[some (sI h)])) (.block (Sum.elim (fun _=>false) (fun _=>true)) (bf (fun _=>rfl) (fun _=>rfl)) (.group 2 (.aK (fun _=>rfl) (fun e=>([(0,dL c),(1,dI d),(5,.ab 0),(6,dI b.1),(7,dI e),(8,dI 0)],[some (sI b.2)])) (.ch ?_) fun e=>(.map (.seq (fun i=>([(0,dL c),(1,dI d),(5,.ab 0),(6,dI b.1),(7,dI e),(8,dI i)],[some (sI b.2)])) (.block (fun _=>true) (fun _=>rfl) (.loop (fun _=>rfl) (fun f=>([(0,dL c),(1,dI d),(5,.ab 0),(6,dI b.1),(7,dI e),(8,dI f)],[some (sI b.2)])) ?_ fun f=> .map (.ch ?_))) fun i=>(.ch ?_)))))) fun h=>(.map (.ch ?_)))))))) fun g=>(.ch ?_))))<;>first|(intro m;simp only[Fy,Fz,w8,FA,rN,FC,FE,FF,ae];kernel_rfl)|kernel_rfl⟩
 |_,_=>aj
def agx:af Tryz.prog:=ak sq Tryz.func100 Tryz.call100 [] false [] fun
 |[.aa (.list (.int .i64)) c,.aa .bool d],[]=>⟨ad.a (xg c d) fun t=>(dI t,[]),by refine al ?_ (.group 1 (.seq (fun l=>([(0,dL c),(1,dB d),(5,dI (-1))],[])) (.ch ?_) fun l=>(.seq (fun g=>([(5,dI g)],[])) (.seq (fun m=>([(0,dL c),(1,dB d),(5,dI (-1)),(6,dI 0)],[])) (.ch ?_) fun m=>(.block (fun _=>true) (fun _=>rfl) (.loop (fun _=>rfl) (fun b=>([(0,dL c),(1,dB d),(5,dI b.1),(6,dI b.2)],[])) ?_ fun b=> .map (.aK (fun _=>rfl) (fun n=>([(0,dL c),(1,dB d),(5,dI b.1),(6,dI b.2)],[])) (.ch ?_) fun n=>(.map (.seq (fun h=>([(0,dL c),(1,dB d),(5,dI h),(6,dI b.2)],[])) (.block (fun _=>false) (fun _=>rfl) (.seq (fun o=>([(0,dL c),(1,dB d),(5,dI b.1),(6,dI b.2),(7,dI 0)],[])) (.ch ?_) fun o=>(.seq (fun i=>([(0,dL c),(1,dB d),(5,dI b.1),(6,dI b.2),(7,dI i)],[])) (.seq (fun p=>([(0,dL c),(1,dB d),(5,dI b.1),(6,dI b.2),(7,dI 0),(8,dI 0)],[])) (.ch ?_) fun p=>(.block (fun _=>true) (fun _=>rfl) (.loop (fun _=>rfl) (fun e=>([(0,dL c),(1,dB d),(5,dI b.1),(6,dI b.2),(7,dI e.1),(8,dI e.2)],[])) ?_ fun e=> .map (.aK (fun _=>rfl) (fun q=>([(0,dL c),(1,dB d),(5,dI b.1),(6,dI b.2),(7,dI e.1),(8,dI e.2)],[])) (.ch ?_) fun q=>(.map (.seq (fun j=>([(0,dL c),(1,dB d),(5,dI b.1),(6,dI b.2),(7,dI j),(8,dI e.2)],[])) (.block (fun _=>false) (fun _=>rfl) (.group 1 (.seq (fun k=>([(0,dL c),(1,dB d),(5,dI b.1),(6,dI b.2),(7,dI e.1),(8,dI e.2),(9,dI 0),(10,dI k)],[])) (.ch ?_) fun k=>(.block (fun _=>true) (fun _=>rfl) (.loop (fun _=>rfl) (fun f=>([(0,dL c),(1,dB d),(5,dI b.1),(6,dI b.2),(7,dI f.1),(8,dI e.2),(9,dI f.2.1),(10,dI f.2.2)],[])) ?_ fun f=> .map (.ch ?_)))))) fun j=>(.map (.ch ?_)))))))) fun i=>(.ch ?_)))) fun h=>(.map (.ch ?_)))))))) fun g=>(.ch ?_))))<;>first|(intro r;simp only[FG,FH,xc,FI,FJ,xd,FK,rO,FM,FO,FP,FQ,ae];kernel_rfl)|kernel_rfl⟩
 |_,_=>aj
def agy:af Tryz.prog:=ak sq Tryz.func49 Tryz.call49 [eM,agw,agx] false [(3,.d [3,10] [0,1,2,4,5,6,7,8,9,3,10,11,12])] fun
 |[.aa (.list (.int .i64)) b],[]=>⟨ad.a (xi b) fun t=>(dI t,[]),by refine al ?_ (.group 2 (.aK (fun _=>rfl) (fun e=>([(0,dL b),(3,dI e)],[])) (.ch ?_) fun e=>(.seq (fun f=>([(3,dI f)],[])) (.seq (fun g=>([(0,dL b),(3,dI e),(4,dI 1)],[])) (.ch ?_) fun g=>(.block (fun _=>true) (fun _=>rfl) (.loop (fun _=>rfl) (fun c=>([(0,dL b),(3,dI c.1),(4,dI c.2)],[])) ?_ fun c=> .map (.ch ?_)))) fun f=>(.ch ?_))))<;>first|(intro h;simp only[FR,FT,rP,Q0,ae];kernel_rfl)|kernel_rfl⟩
 |_,_=>aj
def agz:af Tryz.prog:=ak sq Tryz.func102 Tryz.call102 [eM] false [] fun
 |[.aa (.list (.int .i64)) c],[]=>⟨ad.a (xm c) fun t=>(.ab 0,[some (sI t)]),by refine al ?_ (.group 1 (.seq (fun i=>([(0,dL c),(3,.ab 0)],[some (sI ([]:List Int))])) (.ch ?_) fun i=>(.seq (fun f=>([(3,.ab 0)],[some (sI f)])) (.seq (fun j=>([(0,dL c),(3,.ab 0),(4,dI 0)],[some (sI ([]:List Int))])) (.ch ?_) fun j=>(.block (fun _=>true) (fun _=>rfl) (.loop (fun _=>rfl) (fun b=>([(0,dL c),(3,.ab 0),(4,dI b.1)],[some (sI b.2)])) ?_ fun b=> .map (.aK (fun _=>rfl) (fun k=>([(0,dL c),(3,.ab 0),(4,dI b.1)],[some (sI b.2)])) (.ch ?_) fun k=>(.map (.seq (fun g=>([(0,dL c),(3,.ab 0),(4,dI b.1)],[some (sI g)])) (.block (fun _=>false) (fun _=>rfl) (.group 1 (.seq (fun e=>([(0,dL c),(3,.ab 0),(4,dI b.1),(5,dI e)],[some (sI b.2)])) (.ch ?_) fun e=>(.seq (fun h=>([(0,dL c),(3,.ab 0),(4,dI b.1),(5,dI h)],[some (sI b.2)])) (.seq (fun l=>([(0,dL c),(3,.ab 0),(4,dI b.1),(5,dI e),(6,dI 0)],[some (sI b.2)])) (.ch ?_) fun l=>(.block (fun _=>true) (fun _=>rfl) (.loop (fun _=>rfl) (fun d=>([(0,dL c),(3,.ab 0),(4,dI b.1),(5,dI d.1),(6,dI d.2)],[some (sI b.2)])) ?_ fun d=> .map (.ch ?_)))) fun h=>(.ch ?_))))) fun g=>(.map (.ch ?_)))))))) fun f=>(.ch ?_))))<;>first|(intro m;simp only[FU,FV,rQ,FW,FX,rR,xl,FY,FZ,ae];kernel_rfl)|kernel_rfl⟩
 |_,_=>aj
def agA:af Tryz.prog:=ak sq Tryz.func50 Tryz.call50 [eM,agz] false [] fun
 |[.aa (.list (.int .i64)) f],[]=>⟨ad.a (xo f) fun t=>(dI t,[]),by refine al ?_ (.group 3 (.aK (fun _=>rfl) (fun b=>([(3,dI b.1),(4,.ab 0)],[some (sI b.2)])) (.ch ?_) fun b=>(.seq (fun d=>([(3,dI d)],[])) (.seq (fun e=>([(3,dI b.1),(4,.ab 0),(5,dI 0)],[some (sI b.2)])) (.ch ?_) fun e=>(.block (fun _=>true) (fun _=>rfl) (.loop (fun _=>rfl) (fun c=>([(3,dI c.1),(4,.ab 0),(5,dI c.2)],[some (sI b.2)])) ?_ fun c=> .map (.ch ?_)))) fun d=>(.ch ?_))))<;>first|(intro g;simp only[F0,F1,rS,F2,ae];kernel_rfl)|kernel_rfl⟩
 |_,_=>aj
def agB:af Tryz.prog:=ak sq Tryz.func103 Tryz.call103 [] false [] fun
 |[.aa (.int .i64) d],[]=>⟨ad.a (Rj d) fun t=>(dB t,[]),by refine al ?_ (.seq (fun e=>([(0,dI d)],[])) (.ch ?_) fun e=>(.seq (fun c=>([(0,dI c)],[])) (.block (fun _=>true) (fun _=>rfl) (.loop (fun _=>rfl) (fun b=>([(0,dI b)],[])) ?_ fun b=> .map (.ch ?_))) fun c=>(.ch ?_)))<;>first|(intro f;simp only[Rg,Rh,Ri,ae];kernel_rfl)|kernel_rfl⟩
 |_,_=>aj
def Aa:af Tryz.prog:=ak sq Tryz.func52 Tryz.call52 [eM,⟨104,kz,pW,Tryz.call104⟩,agB] false [] fun
 |[.aa (.list (.int .i64)) b],[]=>⟨ad.a (xq b) fun t=>(dB t,[]),by refine al ?_ (.seq (fun d=>([(0,dL b)],[])) (.ch ?_) fun d=>(.aK (fun _=>rfl) (fun e=>([(0,dL b)],[])) (.seq (fun f=>([(0,dL b),(3,dI 1)],[])) (.ch ?_) fun f=>(.block (Sum.elim (fun _=>false) (fun _=>true)) (bf (fun _=>rfl) (fun _=>rfl)) (.loop (bf (fun _=>rfl) (fun _=>rfl)) (fun c=>([(0,dL b),(3,dI c)],[])) ?_ fun c=> .map (.ch ?_)))) fun e=>(.ch ?_)))<;>first|(intro g;simp only[F4,F5,lG,F6,ae];kernel_rfl)|kernel_rfl⟩
 |_,_=>aj
def agC:af Tryz.prog:=ak sq Tryz.func51 Tryz.call51 [] false [] fun
 |[.aa .bool b],[]=>⟨ad.a (rT b) fun t=>(dS t,[]),by refine al ?_ (.ch ?_)<;>first|(intro c;simp only[rT,ae];kernel_rfl)|kernel_rfl⟩
 |_,_=>aj
def agD:af Tryz.prog:=ak sq Tryz.func152 Tryz.call152 [] false [] fun
 |[.aa (.int .i64) c,.aa (.int .i64) d],[]=>⟨ad.a (xu c d) fun t=>(dB t,[]),by refine al ?_ (.group 2 (.seq (fun f=>([(0,dI c),(1,dI d),(5,dI 0),(6,dI 0)],[])) (.ch ?_) fun f=>(.seq (fun e=>([(6,dI e)],[])) (.seq (fun g=>([(0,dI c),(1,dI d),(5,dI 0),(6,dI 0),(7,dI 0)],[])) (.ch ?_) fun g=>(.block (fun _=>true) (fun _=>rfl) (.loop (fun _=>rfl) (fun b=>([(0,dI c),(1,dI d),(5,dI b.1),(6,dI b.2.1),(7,dI b.2.2)],[])) ?_ fun b=> .map (.ch ?_)))) fun e=>(.ch ?_))))<;>first|(intro h;simp only[F7,F8,xt,F9,ae];kernel_rfl)|kernel_rfl⟩
 |_,_=>aj
def agE:af Tryz.prog:=ak sq Tryz.func105 Tryz.call105 [eM,lR,⟨104,kz,pW,Tryz.call104⟩,agD] false [] fun
 |[.aa (.list (.int .i64)) b,.aa (.int .i64) c,.aa (.int .i64) d],[]=>⟨ad.a (rU b c d) fun t=>(dB t,[]),by refine al ?_ (.ch ?_)<;>first|(intro e;simp only[rU,ae];kernel_rfl)|kernel_rfl⟩
 |_,_=>aj
def agF:af Tryz.prog:=ak sq Tryz.func53 Tryz.call53 [agE,eM] false [] fun
 |[.aa (.list (.int .i64)) b],[]=>⟨ad.a (xy b) fun t=>(dB t,[]),by refine al ?_ (.seq (fun e=>([(0,dL b)],[])) (.ch ?_) fun e=>(.aK (fun _=>rfl) (fun f=>([(0,dL b)],[])) (.seq (fun g=>([(0,dL b),(3,dI 1)],[])) (.ch ?_) fun g=>(.block (Sum.elim (fun _=>false) (fun _=>true)) (bf (fun _=>rfl) (fun _=>rfl)) (.loop (bf (fun _=>rfl) (fun _=>rfl)) (fun c=>([(0,dL b),(3,dI c)],[])) ?_ fun c=> .map (.aK (fun _=>rfl) (fun h=>([(0,dL b),(3,dI c)],[])) (.ch ?_) fun h=>(.map (.aK (fun _=>rfl) (fun i=>([(0,dL b),(3,dI c)],[])) (.block (fun _=>false) (bf (fun _=>rfl) (fun _=>rfl)) (.seq (fun j=>([(0,dL b),(3,dI c),(4,dI 1)],[])) (.ch ?_) fun j=>(.block (Sum.elim (fun _=>false) (fun _=>true)) (bf (fun _=>rfl) (fun _=>rfl)) (.loop (bf (fun _=>rfl) (fun _=>rfl)) (fun d=>([(0,dL b),(3,dI c),(4,dI d)],[])) ?_ fun d=> .map (.ch ?_))))) fun i=>(.map (.ch ?_)))))))) fun f=>(.ch ?_)))<;>first|(intro k;simp only[Ga,Gb,rV,xx,pn,Gg,Gi,ae];kernel_rfl)|kernel_rfl⟩
 |_,_=>aj
def agG:af Tryz.prog:=ak sq Tryz.func106 Tryz.call106 [] false [] fun
 |[.aa (.list (.int .i64)) b,.aa (.int .i64) c,.aa (.list .bool) d],[]=>⟨ad.a (xA b c d) fun t=>(dB t,[]),by refine al ?_ (.seq (fun f=>([(0,dL b),(1,dI c),(2,.aa (.list .bool) d)],[])) (.ch ?_) fun f=>(.aK (fun _=>rfl) (fun g=>([],[])) (.seq (fun h=>([(0,dL b),(1,dI c),(2,.aa (.list .bool) d),(7,dI 0)],[])) (.ch ?_) fun h=>(.block (Sum.elim (fun _=>false) (fun _=>true)) (bf (fun _=>rfl) (fun _=>rfl)) (.loop (bf (fun _=>rfl) (fun _=>rfl)) (fun e=>([(0,dL b),(1,dI c),(2,.aa (.list .bool) d),(7,dI e)],[])) ?_ fun e=> .map (.ch ?_)))) fun g=>(.ch ?_)))<;>first|(intro i;simp only[Gj,Gk,po,Gl,ae];kernel_rfl)|kernel_rfl⟩
 |_,_=>aj
def agH:af Tryz.prog:=ak sq Tryz.func54 Tryz.call54 [Aa,agG] false [(8,.d [25] []),(9,.d [5,0,10] [0,1,2,3,4,6,7,8,9,10,5,11,12]),(12,.d [26] [])] fun
 |[.aa (.list (.int .i64)) c],[]=>⟨ad.a (rY c) fun t=>(.ba [dS t.1,dB t.2],[]),by refine al ?_ (.group 5 (.aK (fun _=>rfl) (fun e=>([(0,dL c),(4,.ab 0),(5,.ab 1),(6,dS empty),(7,dI 1)],[some (.seq .bool e),some (sI ([]:List Int))])) (.ch ?_) fun e=>(.seq (fun f=>([(6,dS f)],[])) (.block (fun _=>true) (fun _=>rfl) (.loop (fun _=>rfl) (fun b=>([(0,dL c),(4,.ab 0),(5,.ab 1),(6,dS b.1),(7,dI b.2.1)],[some (.seq .bool b.2.2.1),some (sI b.2.2.2)])) ?_ fun b=> .map (.aK (fun _=>rfl) (fun g=>([(0,dL c),(4,.ab 0),(5,.ab 1),(6,dS b.1),(7,dI b.2.1)],[some (.seq .bool b.2.2.1),some (sI b.2.2.2)])) (.ch ?_) fun g=>(.map (.ch ?_))))) fun f=>(.ch ?_))))<;>first|(intro h;simp only[xB,rX,xC,Gm,ae];kernel_rfl)|kernel_rfl⟩
 |_,_=>aj
def agI:af Tryz.prog:=ak sq Tryz.func107 Tryz.call107 [] false [] fun
 |[.aa (.list (.int .i64)) c,.aa (.list (.int .i64)) d,.aa (.int .i64) e],[]=>⟨ad.a (xE c d e) fun t=>(dS t,[]),by refine al ?_ (.group 4 (.aK (fun _=>rfl) (fun b=>([(0,dL c),(1,dL d),(2,dI e),(7,dI b)],[])) (.ch ?_) fun b=>(.aK (fun _=>rfl) (fun g=>([],[])) (.seq (fun h=>([(0,dL c),(1,dL d),(2,dI e),(7,dI b),(9,dI 0)],[])) (.ch ?_) fun h=>(.block (Sum.elim (fun _=>false) (fun _=>true)) (bf (fun _=>rfl) (fun _=>rfl)) (.loop (bf (fun _=>rfl) (fun _=>rfl)) (fun f=>([(0,dL c),(1,dL d),(2,dI e),(7,dI b),(9,dI f)],[])) ?_ fun f=> .map (.ch ?_)))) fun g=>(.ch ?_))))<;>first|(intro i;simp only[Gn,Gp,pp,RH,ae];kernel_rfl)|kernel_rfl⟩
 |_,_=>aj
def agJ:af Tryz.prog:=ak sq Tryz.func108 Tryz.call108 [] false [(3,.t [⟨0,8,false,none,none⟩]),(6,.t [⟨0,8,false,none,none⟩]),(10,.t [⟨0,8,false,none,none⟩]),(14,.t [⟨0,8,false,none,none⟩])] fun
 |[.ab 0,.aa (.list (.int .i64)) b,.aa (.int .i64) c,.aa (.int .u8) f],[some (.seq (.int .i64) d)]=>⟨ad.a (Gw b c f d) fun t=>(.ba [dL t.1,dI t.2.1,dB t.2.2.1],[some (sI t.2.2.2)]),by refine al ?_ (.group 1 (.seq (fun e=>([(0,.ab 0),(1,dL b),(2,dI c),(3,dU f),(11,dI e)],[some (sI d)])) (.ch ?_) fun e=>(.aK (fun _=>rfl) (fun i=>([(1,dL b),(2,dI c)],[some (sI d)])) (.block (fun _=>false) (bf (fun _=>rfl) (fun _=>rfl)) (.seq (fun g=>([(0,.ab 0),(1,dL b),(2,dI c),(3,dU f),(11,dI e),(15,dB g)],[some (sI d)])) (.ch ?_) fun g=>(.cond ?_ (.map (.ch ?_)) (.seq (fun h=>([(0,.ab 0),(1,dL b),(2,dI c),(3,dU f),(11,dI e),(32,dB h)],[some (sI d)])) (.ch ?_) fun h=>(.ch ?_))))) fun i=>(.ch ?_))))<;>first|(intro j;simp only[Gq,Gr,Gs,Gt,Gu,Gv,ae];kernel_rfl)|kernel_rfl⟩
 |_,_=>aj
def agK:af Tryz.prog:=ak sq Tryz.func55 Tryz.call55 [Aa,agI,agJ] false [(9,.t [⟨5,37,false,none,none⟩]),(14,.t [⟨1,6,false,none,none⟩])] fun
 |[.aa (.list (.int .i64)) b],[]=>⟨ad.a (r1 b) fun t=>(.ba [dS t.1,dB t.2],[]),by refine al ?_ (.group 2 (.aK (fun _=>rfl) (fun g=>([(0,dL b),(4,.ab 0)],[some (sI ([]:List Int))])) (.ch ?_) fun g=>(.seq (fun e=>([(0,dL b),(4,.ab 0)],[some (sI e)])) (.seq (fun h=>([(0,dL b),(4,.ab 0),(5,dI 0)],[some (sI ([]:List Int))])) (.ch ?_) fun h=>(.block (fun _=>true) (fun _=>rfl) (.loop (fun _=>rfl) (fun d=>([(0,dL b),(4,.ab 0),(5,dI d.1)],[some (sI d.2)])) ?_ fun d=> .map (.ch ?_)))) fun e=>(.group 2 (.seq (fun i=>([(0,dL b),(4,.ab 0),(6,dL ([]:List Int)),(7,dS empty),(8,dI 1)],[some (sI e)])) (.ch ?_) fun i=>(.aK (fun _=>rfl) (fun f=>([(7,dS f)],[])) (.block (Sum.elim (fun _=>false) (fun _=>true)) (bf (fun _=>rfl) (fun _=>rfl)) (.loop (bf (fun _=>rfl) (fun _=>rfl)) (fun c=>([(0,dL b),(4,.ab 0),(6,dL c.1),(7,dS c.2.1),(8,dI c.2.2.1)],[some (sI c.2.2.2)])) ?_ fun c=> .map (.ch ?_))) fun f=>(.ch ?_)))))))<;>first|(intro j;simp only[xG,Gy,rZ,Gz,r0,GA,ae];kernel_rfl)|kernel_rfl⟩
 |_,_=>aj
noncomputable def WT:bj:=gI [] Tryz.f153
noncomputable def WU:bj:=gI [] Tryz.f187
def iD (n:Nat):bd:=fun avs a=>
 match avs,a with
 |[.aa (.int .i64) b],[]=>⟨_,pq n b,fun t=>(dI t,[]),[],none⟩
 |_,_=>ad.no
def ju (n:Nat):bd:=fun avs a=>
 match avs,a with
 |[.aa (.int .i64) b],[]=>⟨_,pr n b,fun t=>(dI t,[]),[],none⟩
 |_,_=>ad.no
noncomputable def WV (n:Nat):Ctx:=⟨bH cQ,cO [(187,ju n),(153,iD n)],gL,0,false,[]⟩
noncomputable def WW (n:Nat):Ctx:=⟨bH cQ,cO [(153,iD n)],gL,0,false,[]⟩
theorem agL (n:Nat) (a:Int) {r:AV} {d:Heap} (h:(ad.mk _ (pq (n+1) a) (fun t=>(dI t,[])) [] none).run=some (r,d)):bY (WV n) LL (ct Tryz.f153) WT ⟨cu 22 0 [(0,dI a)],[]⟩ (dR (bH cQ) Tryz.f153.results.toList r d):=
 gG (Lk.go (N:=22) (n:=R4 (pq n) (pr n) a) (fin:=(fun t=>(ret,⟨cu 22 0 [(2,dI t)],[]⟩))) (.group 2 (.aK (fun _=>rfl) (fun f=>([(0,dI a),(3,dI 0)],[])) (.ch fun b=>by simp only[RY,ae];kernel_rfl) fun f=>(.seq (fun e=>([(3,dI e)],[])) (.seq (fun g=>([(0,dI a),(3,dI 0),(4,dI 1)],[])) (.ch fun b=>by simp only[RZ,ae];kernel_rfl) fun g=>(.block (fun _=>true) (fun _=>rfl) (.loop (fun _=>rfl) (fun c=>([(0,dI a),(3,dI c.1),(4,dI c.2)],[])) (by kernel_rfl) fun c=> .map (.ch fun b=>by simp only[R2,ae];kernel_rfl)))) fun e=>(.ch fun b=>by simp only[R3,ae];kernel_rfl)))) (by kernel_rfl)) (by kernel_rfl) (fun t=>fF (by kernel_rfl)) h
theorem agM (n:Nat) (a:Int) {r:AV} {d:Heap} (h:(ad.mk _ (pr (n+1) a) (fun t=>(dI t,[])) [] none).run=some (r,d)):bY (WW n) LL (ct Tryz.f187) WU ⟨cu 21 0 [(0,dI a)],[]⟩ (dR (bH cQ) Tryz.f187.results.toList r d):=
 gG (Lk.go (N:=21) (n:=R9 (pq n) (pr n) a) (fin:=(fun t=>(ret,⟨cu 21 0 [(2,dI t)],[]⟩))) (.group 1 (.seq (fun f=>([(0,dI a),(3,dI 0)],[])) (.ch fun b=>by simp only[R5,ae];kernel_rfl) fun f=>(.seq (fun e=>([(3,dI e)],[])) (.seq (fun g=>([(0,dI a),(3,dI 0),(4,dI 0)],[])) (.ch fun b=>by simp only[R6,ae];kernel_rfl) fun g=>(.block (fun _=>true) (fun _=>rfl) (.loop (fun _=>rfl) (fun c=>([(0,dI a),(3,dI c.1),(4,dI c.2)],[])) (by kernel_rfl) fun c=> .map (.ch fun b=>by simp only[R7,ae];kernel_rfl)))) fun e=>(.ch fun b=>by simp only[R8,ae];kernel_rfl)))) (by kernel_rfl)) (by kernel_rfl) (fun t=>fF (by kernel_rfl)) h
theorem agN (n:Nat) (a:Sound Tryz.prog 153 (iD n)) (b:Sound Tryz.prog 187 (ju n)):Sound Tryz.prog 153 (iD (n+1)):=by
 refine gH (C:=WV n) (c:=ct Tryz.f153) (gF gK (be b (be a dd)) (be Tryz.call187 (be Tryz.call153 dd)) (by kernel_rfl)) Tryz.func153 (by kernel_rfl) LL WT ?_
 intro avs d r e h
 unfold iD at h
 split at h
 ·refine bY.cast ?_ ?_ ?_ (agL n _ h)<;>kernel_rfl
 ·simp[ad.no,ad.run] at h
theorem agO:Sound Tryz.prog 153 (iD 0):=by
 intro avs a r b h
 unfold iD at h
 split at h
 ·simp[pq,lI,ad.run] at h
 ·simp[ad.no,ad.run] at h
theorem agP (n:Nat) (a:Sound Tryz.prog 153 (iD n)) (e:Sound Tryz.prog 187 (ju n)):Sound Tryz.prog 187 (ju (n+1)):=by
 refine gH (C:=WW n) (c:=ct Tryz.f187) (gF gK (be a dd) (be Tryz.call153 dd) (by kernel_rfl)) Tryz.func187 (by kernel_rfl) LL WU ?_
 intro avs b r d h
 unfold ju at h
 split at h
 ·refine bY.cast ?_ ?_ ?_ (agM n _ h)<;>kernel_rfl
 ·simp[ad.no,ad.run] at h
theorem agQ:Sound Tryz.prog 187 (ju 0):=by
 intro avs a r b h
 unfold ju at h
 split at h
 ·simp[pr,lI,ad.run] at h
 ·simp[ad.no,ad.run] at h
theorem J5: ∀n,Sound Tryz.prog 153 (iD n)/\Sound Tryz.prog 187 (ju n)
 |0=>⟨agO,agQ⟩
 |n+1=>by
  obtain⟨a,b⟩:=J5 n
  exact⟨agN n a b,agP n a b⟩
def tK:bd:=fun avs a=>
 match avs,a with
 |[.aa (.int .i64) b],[]=>⟨_,lJ b,fun t=>(dI t,[]),[],none⟩
 |_,_=>ad.no
theorem WX:Sound Tryz.prog 153 tK:=by
 have e:tK=iD RR:=by
  funext avs H
  unfold tK iD
  split<;>first|rfl|(simp only[lJ])
 rw[e]
 exact(J5 RR).1
def Ab:bd:=fun avs a=>
 match avs,a with
 |[.aa (.int .i64) b],[]=>⟨_,xH b,fun t=>(dI t,[]),[],none⟩
 |_,_=>ad.no
theorem agR:Sound Tryz.prog 187 Ab:=by
 have e:Ab=ju RR:=by
  funext avs H
  unfold Ab ju
  split<;>first|rfl|(simp only[xH])
 rw[e]
 exact(J5 RR).2
noncomputable def WY:bj:=gI [] Tryz.f109
noncomputable def WZ:bj:=gI [] Tryz.f154
def jv (n:Nat):bd:=fun avs a=>
 match avs,a with
 |[.aa (.list (.int .i64)) b,.aa (.int .i64) c,.aa (.int .i64) d,.aa (.int .i64) e],[]=>⟨_,ps n b c d e,fun t=>(dI t,[]),[],none⟩
 |_,_=>ad.no
def iE (n:Nat):bd:=fun avs a=>
 match avs,a with
 |[.aa (.list (.int .i64)) b,.aa (.int .i64) c,.aa (.int .i64) d,.aa (.int .i64) e],[]=>⟨_,pt n b c d e,fun t=>(dI t,[]),[],none⟩
 |_,_=>ad.no
noncomputable def W0 (n:Nat):Ctx:=⟨bH cQ,cO [(153,tK),(154,iE n)],gL,0,false,[]⟩
noncomputable def W1 (n:Nat):Ctx:=⟨bH cQ,cO [(104,kz),(187,Ab),(153,tK),(109,jv n),(154,iE n)],gL,0,false,[]⟩
theorem agS (n:Nat) (b:List Int) (a:Int) (c:Int) (d:Int) {r:AV} {g:Heap} (h:(ad.mk _ (ps (n+1) b a c d) (fun t=>(dI t,[])) [] none).run=some (r,g)):bY (W0 n) LL (ct Tryz.f109) WY ⟨cu 48 0 [(0,dL b),(1,dI a),(2,dI c),(3,dI d)],[]⟩ (dR (bH cQ) Tryz.f109.results.toList r g):=
 gG (Lk.go (N:=48) (n:=GD (ps n) (pt n) b a c d) (fin:=(fun t=>(ret,⟨cu 48 0 [(8,dI t)],[]⟩))) (.group 1 (.seq (fun j=>([(0,dL b),(1,dI a),(2,dI c),(3,dI d),(9,dI 0)],[])) (.ch fun e=>by simp only[Sa,ae];kernel_rfl) fun j=>(.seq (fun i=>([(0,dL b),(1,dI a),(2,dI c),(3,dI d),(9,dI i)],[])) (.seq (fun k=>([(0,dL b),(1,dI a),(2,dI c),(3,dI d),(9,dI 0),(10,dI a)],[])) (.ch fun e=>by simp only[Sb,ae];kernel_rfl) fun k=>(.block (fun _=>true) (fun _=>rfl) (.loop (fun _=>rfl) (fun f=>([(0,dL b),(1,dI a),(2,dI c),(3,dI d),(9,dI f.1),(10,dI f.2)],[])) (by kernel_rfl) fun f=> .map (.ch fun e=>by simp only[GB,ae];kernel_rfl)))) fun i=>(.ch fun e=>by simp only[GC,ae];kernel_rfl)))) (by kernel_rfl)) (by kernel_rfl) (fun t=>fF (by kernel_rfl)) h
theorem agT (n:Nat) (b:List Int) (a:Int) (c:Int) (d:Int) {r:AV} {j:Heap} (h:(ad.mk _ (pt (n+1) b a c d) (fun t=>(dI t,[])) [] none).run=some (r,j)):bY (W1 n) LL (ct Tryz.f154) WZ ⟨cu 78 0 [(0,dL b),(1,dI a),(2,dI c),(3,dI d)],[]⟩ (dR (bH cQ) Tryz.f154.results.toList r j):=
 gG (Lk.go (N:=78) (n:=GH (ps n) (pt n) b a c d) (fin:=(fun t=>(ret,⟨cu 78 0 [(8,dI t)],[]⟩))) (.group 2 (.aK (fun _=>rfl) (fun o=>([(0,dL b),(1,dI a),(2,dI c),(3,dI d),(9,dI a)],[])) (.ch fun f=>by simp only[Sg,ae];kernel_rfl) fun o=>(.seq (fun e=>([(0,dL b),(1,dI a),(2,dI c),(3,dI d),(9,dI e)],[])) (.block (fun _=>true) (fun _=>rfl) (.loop (fun _=>rfl) (fun k=>([(0,dL b),(1,dI a),(2,dI c),(3,dI d),(9,dI k)],[])) (by kernel_rfl) fun k=> .map (.ch fun f=>by simp only[Sh,ae];kernel_rfl))) fun e=>(.seq (fun p=>([(0,dL b),(1,dI a),(2,dI c),(3,dI d),(9,dI e),(10,dI a)],[])) (.ch fun f=>by simp only[Si,ae];kernel_rfl) fun p=>(.seq (fun g=>([(0,dL b),(1,dI a),(2,dI c),(3,dI d),(9,dI e),(10,dI g)],[])) (.block (fun _=>true) (fun _=>rfl) (.loop (fun _=>rfl) (fun l=>([(0,dL b),(1,dI a),(2,dI c),(3,dI d),(9,dI e),(10,dI l)],[])) (by kernel_rfl) fun l=> .map (.ch fun f=>by simp only[Sj,ae];kernel_rfl))) fun g=>(.seq (fun q=>([(0,dL b),(1,dI a),(2,dI c),(3,dI d),(9,dI e),(10,dI g),(11,dI 0)],[])) (.ch fun f=>by simp only[Sk,ae];kernel_rfl) fun q=>(.seq (fun m=>([(0,dL b),(1,dI a),(2,dI c),(3,dI d),(9,dI e),(10,dI g),(11,dI m)],[])) (.seq (fun s=>([(0,dL b),(1,dI a),(2,dI c),(3,dI d),(9,dI e),(10,dI g),(11,dI 0),(12,dI a)],[])) (.ch fun f=>by simp only[Sl,ae];kernel_rfl) fun s=>(.block (fun _=>true) (fun _=>rfl) (.loop (fun _=>rfl) (fun i=>([(0,dL b),(1,dI a),(2,dI c),(3,dI d),(9,dI e),(10,dI g),(11,dI i.1),(12,dI i.2)],[])) (by kernel_rfl) fun i=> .map (.ch fun f=>by simp only[GF,ae];kernel_rfl)))) fun m=>(.ch fun f=>by simp only[GG,ae];kernel_rfl)))))))) (by kernel_rfl)) (by kernel_rfl) (fun t=>fF (by kernel_rfl)) h
theorem agU (n:Nat) (e:Sound Tryz.prog 109 (jv n)) (a:Sound Tryz.prog 154 (iE n)):Sound Tryz.prog 109 (jv (n+1)):=by
 refine gH (C:=W0 n) (c:=ct Tryz.f109) (gF gK (be WX (be a dd)) (be Tryz.call153 (be Tryz.call154 dd)) (by kernel_rfl)) Tryz.func109 (by kernel_rfl) LL WY ?_
 intro avs b r d h
 unfold jv at h
 split at h
 ·refine bY.cast ?_ ?_ ?_ (agS n _ _ _ _ h)<;>kernel_rfl
 ·simp[ad.no,ad.run] at h
theorem agV:Sound Tryz.prog 109 (jv 0):=by
 intro avs a r b h
 unfold jv at h
 split at h
 ·simp[ps,he,ad.run] at h
 ·simp[ad.no,ad.run] at h
theorem agW (n:Nat) (a:Sound Tryz.prog 109 (jv n)) (b:Sound Tryz.prog 154 (iE n)):Sound Tryz.prog 154 (iE (n+1)):=by
 refine gH (C:=W1 n) (c:=ct Tryz.f154) (gF gK (be pW (be agR (be WX (be a (be b dd))))) (be Tryz.call104 (be Tryz.call187 (be Tryz.call153 (be Tryz.call109 (be Tryz.call154 dd))))) (by kernel_rfl)) Tryz.func154 (by kernel_rfl) LL WZ ?_
 intro avs d r e h
 unfold iE at h
 split at h
 ·refine bY.cast ?_ ?_ ?_ (agT n _ _ _ _ h)<;>kernel_rfl
 ·simp[ad.no,ad.run] at h
theorem agX:Sound Tryz.prog 154 (iE 0):=by
 intro avs a r b h
 unfold iE at h
 split at h
 ·simp[pt,he,ad.run] at h
 ·simp[ad.no,ad.run] at h
theorem J6: ∀n,Sound Tryz.prog 109 (jv n)/\Sound Tryz.prog 154 (iE n)
 |0=>⟨agV,agX⟩
 |n+1=>by
  obtain⟨a,b⟩:=J6 n
  exact⟨agU n a b,agW n a b⟩
def Ac:bd:=fun avs a=>
 match avs,a with
 |[.aa (.list (.int .i64)) b,.aa (.int .i64) c,.aa (.int .i64) d,.aa (.int .i64) e],[]=>⟨_,r2 b c d e,fun t=>(dI t,[]),[],none⟩
 |_,_=>ad.no
theorem agY:Sound Tryz.prog 109 Ac:=by
 have e:Ac=jv RR:=by
  funext avs H
  unfold Ac jv
  split<;>first|rfl|(simp only[r2])
 rw[e]
 exact(J6 RR).1
def J7:bd:=fun avs a=>
 match avs,a with
 |[.aa (.list (.int .i64)) b,.aa (.int .i64) c,.aa (.int .i64) d,.aa (.int .i64) e],[]=>⟨_,Sv b c d e,fun t=>(dI t,[]),[],none⟩
 |_,_=>ad.no
theorem apf:Sound Tryz.prog 154 J7:=by
 have e:J7=iE RR:=by
  funext avs H
  unfold J7 iE
  split<;>first|rfl|(simp only[Sv])
 rw[e]
 exact(J6 RR).2
def agZ:af Tryz.prog:=ak sq Tryz.func56 Tryz.call56 [Aa,J3,⟨109,Ac,agY,Tryz.call109⟩] false [] fun
 |[.aa (.list (.int .i64)) b],[]=>⟨ad.a (xK b) fun t=>(dI t,[]),by refine al ?_ (.ch ?_)<;>first|(intro c;simp only[xK,ae];kernel_rfl)|kernel_rfl⟩
 |_,_=>aj
def ag0:af Tryz.prog:=ak sq Tryz.func59 Tryz.call59 [eM,lR,⟨104,kz,pW,Tryz.call104⟩,WS] false [] fun
 |[.aa (.list (.int .i64)) b,.aa (.int .i64) c],[]=>⟨ad.a (r3 b c) fun t=>(.ab 0,[some (sI t)]),by refine al ?_ (.ch ?_)<;>first|(intro d;simp only[r3,ae];kernel_rfl)|kernel_rfl⟩
 |_,_=>aj
def ag1:af Tryz.prog:=ak sq Tryz.func9 Tryz.call9 [WE,WF,af7,agh,agi,agj,J4,J3,⟨43,pV,J2,Tryz.call43⟩,agm,ags,agu,agv,agy,agA,Aa,agC,agF,agH,agK,agZ,WG,WH,ag0] true [(1,.d [5,6,7] []),(9,.d [2] []),(33,.d [2,3] []),(36,.d [2,3] []),(39,.d [2,3] []),(42,.d [2,3] []),(45,.d [2,3] []),(48,.d [2,3] []),(51,.d [2,3] []),(54,.d [2,3] []),(57,.d [2,3] []),(60,.d [2,3] []),(63,.d [2,3] []),(66,.d [2] []),(82,.t [⟨0,4,false,some 0,some ((.int .i64))⟩,⟨0,4,true,some 1,some ((.int .i64))⟩])] fun
 |[.agg [.aa (.list (.int .i64)) e,.aa (.list (.list (.int .i64))) m],.aa .str c],[]=>⟨ad.a (xN e m c) fun t=>(.ba [.agg [.ab 1,.ab 2],dS t.1],[some (.box [.ab 1,.ab 2]),some (sI t.2.1),some (.nest (.int .i64) t.2.2 0 [])]),by refine fi (fun t=> [(4,.ptr 0 0),(5,dS t.1)]) ?_ (.group 5 (.aK (fun _=>rfl) (fun b=>([(1,dS c),(4,.ptr 0 0),(6,.ptr 1 0),(11,dL e)],[some (.box [.aM,.aM]),some (.box [.ab 2,.ab 3]),some (sI b.1),some (.nest (.int .i64) b.2 0 [])])) (.ch ?_) fun b=>(.aK (fun _=>rfl) (fun k=>([(1,dS c),(4,.ptr 0 0),(6,.ptr 1 0),(11,dL e)],[some (.box [.aM,.aM]),some (.box [.ab 2,.ab 3]),some (sI b.1),some (.nest (.int .i64) b.2 0 [])])) (.seq (fun l=>([(1,dS c),(4,.ptr 0 0),(6,.ptr 1 0),(11,dL e),(42,dS c)],[some (.box [.aM,.aM]),some (.box [.ab 2,.ab 3]),some (sI b.1),some (.nest (.int .i64) b.2 0 [])])) (.ch ?_) fun l=>(.block (fun _=>false) (bf (fun _=>rfl) (fun _=>rfl)) (.seq (fun f=>([(1,dS c),(4,.ptr 0 0),(6,.ptr 1 0),(11,dL e),(42,dS c),(43,dB f)],[some (.box [.aM,.aM]),some (.box [.ab 2,.ab 3]),some (sI b.1),some (.nest (.int .i64) b.2 0 [])])) (.ch ?_) fun f=>(.cond ?_ (.map (.ch ?_)) (.seq (fun g=>([(1,dS c),(4,.ptr 0 0),(6,.ptr 1 0),(11,dL e),(42,dS c),(48,dB g)],[some (.box [.aM,.aM]),some (.box [.ab 2,.ab 3]),some (sI b.1),some (.nest (.int .i64) b.2 0 [])])) (.ch ?_) fun g=>(.cond ?_ (.map (.ch ?_)) (.seq (fun h=>([(1,dS c),(4,.ptr 0 0),(6,.ptr 1 0),(11,dL e),(42,dS c),(54,dB h)],[some (.box [.aM,.aM]),some (.box [.ab 2,.ab 3]),some (sI b.1),some (.nest (.int .i64) b.2 0 [])])) (.ch ?_) fun h=>(.cond ?_ (.map (.ch ?_)) (.seq (fun i=>([(1,dS c),(4,.ptr 0 0),(6,.ptr 1 0),(11,dL e),(42,dS c),(60,dB i)],[some (.box [.aM,.aM]),some (.box [.ab 2,.ab 3]),some (sI b.1),some (.nest (.int .i64) b.2 0 [])])) (.ch ?_) fun i=>(.cond ?_ (.map (.ch ?_)) (.seq (fun j=>([(1,dS c),(4,.ptr 0 0),(6,.ptr 1 0),(11,dL e),(42,dS c),(66,dB j)],[some (.box [.aM,.aM]),some (.box [.ab 2,.ab 3]),some (sI b.1),some (.nest (.int .i64) b.2 0 [])])) (.ch ?_) fun j=>(.cond ?_ (.map (.ch ?_)) (.ch ?_))))))))))))) fun k=>(.ch ?_))))<;>first|(intro n;simp only[GJ,GK,GL,GM,GN,GO,GP,GQ,GR,GS,GU,GV,GW,xM,ae];kernel_rfl)|kernel_rfl⟩
 |_,_=>aj
def ag2:af Tryz.prog:=ak sq Tryz.func112 Tryz.call112 [] false [] fun
 |[.aa (.list (.int .i64)) b],[]=>⟨ad.a (G0 b) fun t=>(dB t,[]),by refine al ?_ (.group 1 (.seq (fun f=>([(0,dL b),(3,dI 0)],[])) (.ch ?_) fun f=>(.aK (fun _=>rfl) (fun e=>([(3,dI e)],[])) (.seq (fun d=>([(0,dL b),(3,dI 0),(6,dL b),(7,dI d),(8,dI 0)],[])) (.ch ?_) fun d=>(.block (Sum.elim (fun _=>false) (fun _=>true)) (bf (fun _=>rfl) (fun _=>rfl)) (.loop (bf (fun _=>rfl) (fun _=>rfl)) (fun c=>([(0,dL b),(3,dI c.1),(6,dL b),(7,dI d),(8,dI c.2)],[])) ?_ fun c=> .map (.ch ?_)))) fun e=>(.ch ?_))))<;>first|(intro g;simp only[GX,GY,r4,GZ,ae];kernel_rfl)|kernel_rfl⟩
 |_,_=>aj
def W2:af Tryz.prog:=ak sq Tryz.func155 Tryz.call155 [] false [] fun
 |[.ptr 0 0],[some (.box [.aa (.list (.int .i64)) b,.aa (.int .i64) c,.aa (.int .i64) d])]=>⟨ad.a (xP b c d) fun t=>(dB t.1,[some (.box [dL b,dI t.2.1,dI t.2.2])]),by refine al ?_ (.ch ?_)<;>first|(intro e;simp only[xP,ae];kernel_rfl)|kernel_rfl⟩
 |_,_=>aj
def W3:af Tryz.prog:=ak sq Tryz.func113 Tryz.call113 [W2] false [] fun
 |[.aa (.list (.int .i64)) b,.aa (.int .i64) e],[]=>⟨ad.a (G4 b e) fun t=>(.ba [dI t.1,dB t.2],[]),by refine al ?_ (.group 1 (.seq (fun f=>([(0,dL b),(6,.ptr 0 0)],[some (.box [dL b,dI e,dI 0])])) (.ch ?_) fun f=>(.aK (fun _=>rfl) (fun d=>([(6,.ptr 0 0)],[some (.box [dL b,dI d.1,dI d.2])])) (.block (Sum.elim (fun _=>false) (fun _=>true)) (bf (fun _=>rfl) (fun _=>rfl)) (.loop (bf (fun _=>rfl) (fun _=>rfl)) (fun c=>([(0,dL b),(6,.ptr 0 0)],[some (.box [dL b,dI c.1,dI c.2])])) ?_ fun c=> .map (.ch ?_))) fun d=>(.ch ?_))))<;>first|(intro g;simp only[G2,xR,G3,ae];kernel_rfl)|kernel_rfl⟩
 |_,_=>aj
def gq:af Tryz.prog:=ak sq Tryz.func63 Tryz.call63 [ag2,W3] false [] fun
 |[.aa (.list (.int .i64)) b],[]=>⟨ad.a (G7 b) fun t=>(dB t,[]),by refine al ?_ (.group 1 (.aK (fun _=>rfl) (fun e=>([(0,dL b)],[])) (.ch ?_) fun e=>(.aK (fun _=>rfl) (fun f=>([],[])) (.seq (fun c=>([(0,dL b),(20,dI c),(21,dI 0)],[])) (.ch ?_) fun c=>(.block (Sum.elim (fun _=>false) (fun _=>true)) (bf (fun _=>rfl) (fun _=>rfl)) (.loop (bf (fun _=>rfl) (fun _=>rfl)) (fun d=>([(0,dL b),(20,dI c),(21,dI d)],[])) ?_ fun d=> .map (.ch ?_)))) fun f=>(.ch ?_))))<;>first|(intro g;simp only[G5,G6,r5,SU,ae];kernel_rfl)|kernel_rfl⟩
 |_,_=>aj
def W4:af Tryz.prog:=ak sq Tryz.func14 Tryz.call14 [gq] false [] fun
 |[.agg [.aa (.list (.int .i64)) e,.aa (.list (.list (.int .i64))) b]],[]=>⟨ad.a (xT e b) fun t=>(dB t,[]),by refine al ?_ (.group 1 (.aK (fun _=>rfl) (fun f=>([(1,.ptr 0 0)],[some (.box [dL e,.aa (.list (.list (.int .i64))) b])])) (.ch ?_) fun f=>(.aK (fun _=>rfl) (fun g=>([],[])) (.seq (fun c=>([(16,.aa (.list (.list (.int .i64))) b),(17,dI c),(18,dI 0)],[])) (.ch ?_) fun c=>(.block (Sum.elim (fun _=>false) (fun _=>true)) (bf (fun _=>rfl) (fun _=>rfl)) (.loop (bf (fun _=>rfl) (fun _=>rfl)) (fun d=>([(16,.aa (.list (.list (.int .i64))) b),(17,dI c),(18,dI d)],[])) ?_ fun d=> .map (.ch ?_)))) fun g=>(.ch ?_))))<;>first|(intro h;simp only[G8,G9,pu,SZ,ae];kernel_rfl)|kernel_rfl⟩
 |_,_=>aj
def ag3:Go.Shelf.Ren:=⟨fun|217=>228|219=>193|224=>230|225=>229|266=>275|267=>231|314=>276|n=>n,fun|3=>3|4=>4|5=>5|9=>9|46=>77|51=>198|146=>234|n=>n,fun|1=>3|n=>n⟩
theorem ag4:Lays.n219 Tryz.prog ag3:={
 mixed:=by kernel_rfl
 f217:=Tryz.func228.trans (aR some (by kernel_rfl))
 f219:=Tryz.func193.trans (aR some (by kernel_rfl))
 f224:=Tryz.func230.trans (aR some (by kernel_rfl))
 f225:=Tryz.func229.trans (aR some (by kernel_rfl))
 f266:=Tryz.func275.trans (aR some (by kernel_rfl))
 f267:=Tryz.func231.trans (aR some (by kernel_rfl))
 f314:=Tryz.func276.trans (aR some (by kernel_rfl))
 t3:=Tryz.underlying3
 a3:=Tryz.isAgg3
 z3:=Tryz.sizeOf3
 v3:=Tryz.zeroValue3
 t4:=Tryz.underlying4
 a4:=Tryz.isAgg4
 z4:=Tryz.sizeOf4
 v4:=Tryz.zeroValue4
 t5:=Tryz.underlying5
 a5:=Tryz.isAgg5
 z5:=Tryz.sizeOf5
 v5:=Tryz.zeroValue5
 t9:=Tryz.underlying9
 a9:=Tryz.isAgg9
 z9:=Tryz.sizeOf9
 v9:=Tryz.zeroValue9
 t46:=Tryz.underlying77
 a46:=Tryz.isAgg77
 z46:=Tryz.sizeOf77
 v46:=Tryz.zeroValue77
 t51:=Tryz.underlying198
 a51:=Tryz.isAgg198
 z51:=Tryz.sizeOf198
 v51:=Tryz.zeroValue198
 t146:=Tryz.underlying234
 a146:=Tryz.isAgg234
 z146:=Tryz.sizeOf234
 v146:=Tryz.zeroValue234
 g1:=by kernel_rfl}
def W5:bd:=Dq
theorem ag5:Sound Tryz.prog 193 W5:=aeA ag4
def ag6:af Tryz.prog:=ak sq Tryz.func162 Tryz.call162 [⟨193,W5,ag5,Tryz.call193⟩] false [] fun
 |[.aa .str b,.aa .str c],[]=>⟨ad.a (xU b c) fun t=>(dI t,[]),by refine al ?_ (.ch ?_)<;>first|(intro d;simp only[xU,ae];kernel_rfl)|kernel_rfl⟩
 |_,_=>aj
def ag7:af Tryz.prog:=ak sq Tryz.func120 Tryz.call120 [ag6] false [(25,.t [⟨0,8,true,none,none⟩])] fun
 |[.aa .str g,.aa .str e,.aa (.int .i64) f,.aa (.int .i64) h],[]=>⟨ad.a (xW g e f h) fun t=>(.win 0 0 t.1,[some (.seq .str t.2)]),by refine al ?_ (.group 7 (.aK (fun _=>rfl) (fun c=>([(0,dS g),(1,dS e),(2,dI f),(3,dI c.1),(9,.ab 0),(10,dI 0)],[some (.seq .str c.2)])) (.ch ?_) fun c=>(.seq (fun d=>([(0,dS d.1),(9,.ab 0),(10,dI d.2.1)],[some (.seq .str d.2.2)])) (.block (fun _=>true) (fun _=>rfl) (.loop (fun _=>rfl) (fun b=>([(0,dS b.1),(1,dS e),(2,dI f),(3,dI c.1),(9,.ab 0),(10,dI b.2.1)],[some (.seq .str b.2.2)])) ?_ fun b=> .map (.ch ?_))) fun d=>(.ch ?_))))<;>first|(intro i;simp only[Hb,pw,xV,ae];kernel_rfl)|kernel_rfl⟩
 |_,_=>aj
def ag8:af Tryz.prog:=ak sq Tryz.func83 Tryz.call83 [ag7] false [] fun
 |[.aa .str b,.aa .str c,.aa (.int .i64) d],[]=>⟨ad.a (r7 b c d) fun t=>(.win 0 0 t.1,[some (.seq .str t.2)]),by refine al ?_ (.ch ?_)<;>first|(intro e;simp only[r7,ae];kernel_rfl)|kernel_rfl⟩
 |_,_=>aj
def ag9:af Tryz.prog:=ak sq Tryz.func84 Tryz.call84 [] false [] fun
 |[.aa .str c],[]=>⟨ad.a (xZ c) fun t=>(dI t,[]),by refine al ?_ (.seq (fun e=>([(0,dS c)],[])) (.ch ?_) fun e=>(.aK (fun _=>rfl) (fun f=>([],[])) (.seq (fun b=>([(0,dS c),(5,.agg [dS b.1,dS b.2.1,dS b.2.2.1,dS b.2.2.2.1,dS b.2.2.2.2.1,dS b.2.2.2.2.2]),(6,dI 0)],[])) (.ch ?_) fun b=>(.block (Sum.elim (fun _=>false) (fun _=>true)) (bf (fun _=>rfl) (fun _=>rfl)) (.loop (bf (fun _=>rfl) (fun _=>rfl)) (fun d=>([(0,dS c),(5,.agg [dS b.1,dS b.2.1,dS b.2.2.1,dS b.2.2.2.1,dS b.2.2.2.2.1,dS b.2.2.2.2.2]),(6,dI d)],[])) ?_ fun d=> .map (.ch ?_)))) fun f=>(.ch ?_)))<;>first|(intro g;simp only[Hd,He,xY,Hf,ae];kernel_rfl)|kernel_rfl⟩
 |_,_=>aj
def aha:Go.Shelf.Ren:=⟨fun|129=>278|171=>125|172=>85|205=>196|243=>168|244=>121|245=>122|246=>197|247=>163|279=>164|280=>165|281=>166|282=>167|283=>234|284=>235|285=>236|286=>237|287=>194|316=>195|317=>277|318=>279|319=>280|320=>189|321=>232|322=>233|337=>225|338=>226|n=>n,fun|0=>0|2=>2|3=>3|4=>4|5=>5|9=>9|20=>20|21=>21|37=>22|46=>77|51=>198|53=>147|75=>90|76=>91|80=>122|85=>134|127=>202|143=>203|145=>205|167=>133|168=>136|171=>206|173=>208|175=>148|210=>151|212=>237|213=>238|232=>228|233=>229|n=>n,fun|15=>1|16=>2|17=>8|18=>4|19=>5|n=>n⟩
theorem ahb:LaysC.n172 Tryz.prog aha:={
 mixed:=by kernel_rfl
 f129:=Tryz.func278.trans (aR some (by kernel_rfl))
 f171:=Tryz.func125.trans (aR some (by kernel_rfl))
 f172:=Tryz.func85.trans (aR some (by kernel_rfl))
 f205:=Tryz.func196.trans (aR some (by kernel_rfl))
 f243:=Tryz.func168.trans (aR some (by kernel_rfl))
 f244:=Tryz.func121.trans (aR some (by kernel_rfl))
 f245:=Tryz.func122.trans (aR some (by kernel_rfl))
 f246:=Tryz.func197.trans (aR some (by kernel_rfl))
 f247:=Tryz.func163.trans (aR some (by kernel_rfl))
 f279:=Tryz.func164.trans (aR some (by kernel_rfl))
 f280:=Tryz.func165.trans (aR some (by kernel_rfl))
 f281:=Tryz.func166.trans (aR some (by kernel_rfl))
 f282:=Tryz.func167.trans (aR some (by kernel_rfl))
 f283:=Tryz.func234.trans (aR some (by kernel_rfl))
 f284:=Tryz.func235.trans (aR some (by kernel_rfl))
 f285:=Tryz.func236.trans (aR some (by kernel_rfl))
 f286:=Tryz.func237.trans (aR some (by kernel_rfl))
 f287:=Tryz.func194.trans (aR some (by kernel_rfl))
 f316:=Tryz.func195.trans (aR some (by kernel_rfl))
 f317:=Tryz.func277.trans (aR some (by kernel_rfl))
 f318:=Tryz.func279.trans (aR some (by kernel_rfl))
 f319:=Tryz.func280.trans (aR some (by kernel_rfl))
 f320:=Tryz.func189.trans (aR some (by kernel_rfl))
 f321:=Tryz.func232.trans (aR some (by kernel_rfl))
 f322:=Tryz.func233.trans (aR some (by kernel_rfl))
 f337:=Tryz.func225.trans (aR some (by kernel_rfl))
 f338:=Tryz.func226.trans (aR some (by kernel_rfl))
 t0:=Tryz.underlying0
 a0:=Tryz.isAgg0
 z0:=Tryz.sizeOf0
 v0:=Tryz.zeroValue0
 t2:=Tryz.underlying2
 a2:=Tryz.isAgg2
 z2:=Tryz.sizeOf2
 v2:=Tryz.zeroValue2
 t3:=Tryz.underlying3
 a3:=Tryz.isAgg3
 z3:=Tryz.sizeOf3
 v3:=Tryz.zeroValue3
 t4:=Tryz.underlying4
 a4:=Tryz.isAgg4
 z4:=Tryz.sizeOf4
 v4:=Tryz.zeroValue4
 t5:=Tryz.underlying5
 a5:=Tryz.isAgg5
 z5:=Tryz.sizeOf5
 v5:=Tryz.zeroValue5
 t9:=Tryz.underlying9
 a9:=Tryz.isAgg9
 z9:=Tryz.sizeOf9
 v9:=Tryz.zeroValue9
 t20:=Tryz.underlying20
 a20:=Tryz.isAgg20
 z20:=Tryz.sizeOf20
 v20:=Tryz.zeroValue20
 t21:=Tryz.underlying21
 a21:=Tryz.isAgg21
 z21:=Tryz.sizeOf21
 v21:=Tryz.zeroValue21
 t37:=Tryz.underlying22
 a37:=Tryz.isAgg22
 z37:=Tryz.sizeOf22
 v37:=Tryz.zeroValue22
 t46:=Tryz.underlying77
 a46:=Tryz.isAgg77
 z46:=Tryz.sizeOf77
 v46:=Tryz.zeroValue77
 t51:=Tryz.underlying198
 a51:=Tryz.isAgg198
 z51:=Tryz.sizeOf198
 v51:=Tryz.zeroValue198
 t53:=Tryz.underlying147
 a53:=Tryz.isAgg147
 z53:=Tryz.sizeOf147
 v53:=Tryz.zeroValue147
 t75:=Tryz.underlying90
 a75:=Tryz.isAgg90
 z75:=Tryz.sizeOf90
 v75:=Tryz.zeroValue90
 t76:=Tryz.underlying91
 a76:=Tryz.isAgg91
 z76:=Tryz.sizeOf91
 v76:=Tryz.zeroValue91
 t85:=Tryz.underlying134
 a85:=Tryz.isAgg134
 z85:=Tryz.sizeOf134
 v85:=Tryz.zeroValue134
 t127:=Tryz.underlying202
 a127:=Tryz.isAgg202
 z127:=Tryz.sizeOf202
 v127:=Tryz.zeroValue202
 t143:=Tryz.underlying203
 a143:=Tryz.isAgg203
 z143:=Tryz.sizeOf203
 v143:=Tryz.zeroValue203
 t145:=Tryz.underlying205
 a145:=Tryz.isAgg205
 z145:=Tryz.sizeOf205
 v145:=Tryz.zeroValue205
 t167:=Tryz.underlying133
 a167:=Tryz.isAgg133
 z167:=Tryz.sizeOf133
 v167:=Tryz.zeroValue133
 t168:=Tryz.underlying136
 a168:=Tryz.isAgg136
 z168:=Tryz.sizeOf136
 v168:=Tryz.zeroValue136
 t171:=Tryz.underlying206
 a171:=Tryz.isAgg206
 z171:=Tryz.sizeOf206
 v171:=Tryz.zeroValue206
 t173:=Tryz.underlying208
 a173:=Tryz.isAgg208
 z173:=Tryz.sizeOf208
 v173:=Tryz.zeroValue208
 t175:=Tryz.underlying148
 a175:=Tryz.isAgg148
 z175:=Tryz.sizeOf148
 v175:=Tryz.zeroValue148
 t210:=Tryz.underlying151
 a210:=Tryz.isAgg151
 z210:=Tryz.sizeOf151
 v210:=Tryz.zeroValue151
 t212:=Tryz.underlying237
 a212:=Tryz.isAgg237
 z212:=Tryz.sizeOf237
 v212:=Tryz.zeroValue237
 t213:=Tryz.underlying238
 a213:=Tryz.isAgg238
 z213:=Tryz.sizeOf238
 t232:=Tryz.underlying228
 a232:=Tryz.isAgg228
 z232:=Tryz.sizeOf228
 v232:=Tryz.zeroValue228
 t233:=Tryz.underlying229
 a233:=Tryz.isAgg229
 z233:=Tryz.sizeOf229
 v233:=Tryz.zeroValue229
 g15:=by kernel_rfl
 g16:=by kernel_rfl
 g17:=by kernel_rfl
 g18:=by kernel_rfl
 g19:=by kernel_rfl
 t80:=Tryz.underlying122
 a80:=Tryz.isAgg122
 z80:=Tryz.sizeOf122
 v80:=Tryz.zeroValue122
 i0:=by kernel_rfl
 i2:=by kernel_rfl
 i3:=by kernel_rfl
 i4:=by kernel_rfl
 i5:=by kernel_rfl
 i9:=by kernel_rfl
 i20:=by kernel_rfl
 i21:=by kernel_rfl
 i37:=by kernel_rfl
 i46:=by kernel_rfl
 i51:=by kernel_rfl
 i53:=by kernel_rfl
 i75:=by kernel_rfl
 i76:=by kernel_rfl
 i80:=by kernel_rfl
 i85:=by kernel_rfl
 i127:=by kernel_rfl
 i143:=by kernel_rfl
 i145:=by kernel_rfl
 i167:=by kernel_rfl
 i168:=by kernel_rfl
 i171:=by kernel_rfl
 i173:=by kernel_rfl
 i175:=by kernel_rfl
 i210:=by kernel_rfl
 i212:=by kernel_rfl
 i232:=by kernel_rfl
 i233:=by kernel_rfl
 m15:=by kernel_rfl
 m16:=by kernel_rfl
 m17:=by kernel_rfl
 m18:=by kernel_rfl
 m19:=by kernel_rfl
 c0:=by kernel_rfl
 c2:=by kernel_rfl
 c3:=by kernel_rfl
 c4:=by kernel_rfl
 c5:=by kernel_rfl
 c9:=by kernel_rfl
 c20:=by kernel_rfl
 c21:=by kernel_rfl
 c37:=by kernel_rfl
 c46:=by kernel_rfl
 c51:=by kernel_rfl
 c53:=by kernel_rfl
 c75:=by kernel_rfl
 c76:=by kernel_rfl
 c80:=by kernel_rfl
 c85:=by kernel_rfl
 c127:=by kernel_rfl
 c143:=by kernel_rfl
 c145:=by kernel_rfl
 c167:=by kernel_rfl
 c168:=by kernel_rfl
 c171:=by kernel_rfl
 c173:=by kernel_rfl
 c175:=by kernel_rfl
 c210:=by kernel_rfl
 c212:=by kernel_rfl
 c213:=by kernel_rfl
 c232:=by kernel_rfl
 c233:=by kernel_rfl}
def J8:bd:=Dr
theorem W6:Sound Tryz.prog 85 J8:=aeB ahb rfl rfl
def W7:af Tryz.prog:=ak sq Tryz.func124 Tryz.call124 [] false [] fun
 |[.aa (.int .i64) b],[]=>⟨ad.a (r8 b) fun t=>(dI t,[]),by refine al ?_ (.ch ?_)<;>first|(intro c;simp only[r8,ae];kernel_rfl)|kernel_rfl⟩
 |_,_=>aj
def W8:af Tryz.prog:=ak sq Tryz.func91 Tryz.call91 [W7] false [] fun
 |[.agg [.aa (.int .i64) b,.aa (.int .i64) c,.aa (.int .i64) d]],[]=>⟨ad.a (x0 b c d) fun t=>(dB t,[]),by refine al ?_ (.ch ?_)<;>first|(intro e;simp only[x0,ae];kernel_rfl)|kernel_rfl⟩
 |_,_=>aj
def ahc:af Tryz.prog:=ak sq Tryz.func123 Tryz.call123 [W8] false [] fun
 |[.agg [.aa (.int .i64) b,.aa (.int .i64) c,.aa (.int .i64) d]],[]=>⟨ad.a (x2 b c d) fun t=>(dB t,[]),by refine al ?_ (.ch ?_)<;>first|(intro e;simp only[x2,ae];kernel_rfl)|kernel_rfl⟩
 |_,_=>aj
def ahd:Go.Shelf.Ren:=⟨fun|129=>278|171=>125|243=>168|246=>197|283=>234|284=>235|285=>236|286=>237|317=>277|318=>279|319=>280|320=>189|337=>225|338=>226|n=>n,fun|0=>0|2=>2|3=>3|4=>4|5=>5|9=>9|20=>20|37=>22|46=>77|51=>198|53=>147|171=>206|173=>208|212=>237|213=>238|232=>228|233=>229|n=>n,fun|17=>8|18=>4|19=>5|n=>n⟩
theorem ahe:LaysM.n171 Tryz.prog ahd:={
 mixed:=by kernel_rfl
 f129:=Tryz.func278.trans (aR some (by kernel_rfl))
 f171:=Tryz.func125.trans (aR some (by kernel_rfl))
 f243:=Tryz.func168.trans (aR some (by kernel_rfl))
 f246:=Tryz.func197.trans (aR some (by kernel_rfl))
 f283:=Tryz.func234.trans (aR some (by kernel_rfl))
 f284:=Tryz.func235.trans (aR some (by kernel_rfl))
 f285:=Tryz.func236.trans (aR some (by kernel_rfl))
 f286:=Tryz.func237.trans (aR some (by kernel_rfl))
 f317:=Tryz.func277.trans (aR some (by kernel_rfl))
 f318:=Tryz.func279.trans (aR some (by kernel_rfl))
 f319:=Tryz.func280.trans (aR some (by kernel_rfl))
 f320:=Tryz.func189.trans (aR some (by kernel_rfl))
 f337:=Tryz.func225.trans (aR some (by kernel_rfl))
 f338:=Tryz.func226.trans (aR some (by kernel_rfl))
 t0:=Tryz.underlying0
 a0:=Tryz.isAgg0
 z0:=Tryz.sizeOf0
 v0:=Tryz.zeroValue0
 t2:=Tryz.underlying2
 a2:=Tryz.isAgg2
 z2:=Tryz.sizeOf2
 v2:=Tryz.zeroValue2
 t3:=Tryz.underlying3
 a3:=Tryz.isAgg3
 z3:=Tryz.sizeOf3
 v3:=Tryz.zeroValue3
 t4:=Tryz.underlying4
 a4:=Tryz.isAgg4
 z4:=Tryz.sizeOf4
 v4:=Tryz.zeroValue4
 t5:=Tryz.underlying5
 a5:=Tryz.isAgg5
 z5:=Tryz.sizeOf5
 v5:=Tryz.zeroValue5
 t9:=Tryz.underlying9
 a9:=Tryz.isAgg9
 z9:=Tryz.sizeOf9
 v9:=Tryz.zeroValue9
 t20:=Tryz.underlying20
 a20:=Tryz.isAgg20
 z20:=Tryz.sizeOf20
 v20:=Tryz.zeroValue20
 t37:=Tryz.underlying22
 a37:=Tryz.isAgg22
 z37:=Tryz.sizeOf22
 v37:=Tryz.zeroValue22
 t46:=Tryz.underlying77
 a46:=Tryz.isAgg77
 z46:=Tryz.sizeOf77
 v46:=Tryz.zeroValue77
 t51:=Tryz.underlying198
 a51:=Tryz.isAgg198
 z51:=Tryz.sizeOf198
 v51:=Tryz.zeroValue198
 t53:=Tryz.underlying147
 a53:=Tryz.isAgg147
 z53:=Tryz.sizeOf147
 v53:=Tryz.zeroValue147
 t171:=Tryz.underlying206
 a171:=Tryz.isAgg206
 z171:=Tryz.sizeOf206
 v171:=Tryz.zeroValue206
 t173:=Tryz.underlying208
 a173:=Tryz.isAgg208
 z173:=Tryz.sizeOf208
 v173:=Tryz.zeroValue208
 t212:=Tryz.underlying237
 a212:=Tryz.isAgg237
 z212:=Tryz.sizeOf237
 v212:=Tryz.zeroValue237
 t213:=Tryz.underlying238
 a213:=Tryz.isAgg238
 z213:=Tryz.sizeOf238
 t232:=Tryz.underlying228
 a232:=Tryz.isAgg228
 z232:=Tryz.sizeOf228
 v232:=Tryz.zeroValue228
 t233:=Tryz.underlying229
 a233:=Tryz.isAgg229
 z233:=Tryz.sizeOf229
 v233:=Tryz.zeroValue229
 g17:=by kernel_rfl
 g18:=by kernel_rfl
 g19:=by kernel_rfl
 i0:=by kernel_rfl
 i2:=by kernel_rfl
 i3:=by kernel_rfl
 i4:=by kernel_rfl
 i5:=by kernel_rfl
 i9:=by kernel_rfl
 i20:=by kernel_rfl
 i37:=by kernel_rfl
 i46:=by kernel_rfl
 i51:=by kernel_rfl
 i53:=by kernel_rfl
 i171:=by kernel_rfl
 i173:=by kernel_rfl
 i212:=by kernel_rfl
 i232:=by kernel_rfl
 i233:=by kernel_rfl
 m17:=by kernel_rfl
 m18:=by kernel_rfl
 m19:=by kernel_rfl}
def hM:bd:=Ds
theorem iF:Sound Tryz.prog 125 hM:=aeD ahe (by kernel_rfl) (by kernel_rfl)
def ahf:af Tryz.prog:=ak sq Tryz.func86 Tryz.call86 [ahc,W7,⟨125,hM,iF,Tryz.call125⟩] false [(8,.d [7,4] [0,1,2,3,4,5,6,10,7,8,9])] fun
 |[.agg [.aa (.int .i64) g,.aa (.int .i64) h,.aa (.int .i64) i]],[]=>⟨ad.a (x7 g h i) fun t=>(dS t,[]),by refine al ?_ (.group 2 (.aK (fun _=>rfl) (fun e=>([(1,.ptr 0 0),(3,dS e)],[some (.box [dI g,dI h,dI i])])) (.ch ?_) fun e=>(.seq (fun f=>([(3,dS f)],[])) (.seq (fun b=>([(3,dS e),(21,dL b.1),(22,dI b.2),(23,dI 0)],[])) (.ch ?_) fun b=>(.block (fun _=>true) (fun _=>rfl) (.loop (fun _=>rfl) (fun c=>([(3,dS c.1),(21,dL b.1),(22,dI b.2),(23,dI c.2)],[])) ?_ fun c=> .map (.ch ?_)))) fun f=>(.ch ?_))))<;>first|(intro j;simp only[Hh,r9,sa,sb,ae];kernel_rfl)|kernel_rfl⟩
 |_,_=>aj
def ahg:af Tryz.prog:=ak sq Tryz.func33 Tryz.call33 [ag8,ag9,⟨85,J8,W6,Tryz.call85⟩,ahf] false [] fun
 |[.aa .str b],[]=>⟨ad.a (sc b) fun t=>(.ba [.agg [dI t.2.1,dI t.2.2.1,dI t.2.2.2],dB t.1],[some (.box [dI t.2.1,dI t.2.2.1,dI t.2.2.2])]),by refine fi (fun t=> [(2,.ptr 0 0),(3,dB t.1)]) ?_ (.ch ?_)<;>first|(intro c;simp only[sc,ae];kernel_rfl)|kernel_rfl⟩
 |_,_=>aj
def ahh:Go.Shelf.Ren:=⟨fun|41=>87|n=>n,fun|4=>4|22=>23|23=>3|n=>n,fun n=>n⟩
theorem ahi:SlLaysE0.n41 Tryz.prog ahh:={
 mixed:=by kernel_rfl
 f41:=⟨Tryz.f87.name,by kernel_rfl,Tryz.func87.trans (aR some (by kernel_rfl))⟩
 t4:=Tryz.underlying4
 a4:=Tryz.isAgg4
 z4:=Tryz.sizeOf4
 v4:=Tryz.zeroValue4
 t22:=Tryz.underlying23
 a22:=Tryz.isAgg23
 z22:=Tryz.sizeOf23
 v22:=Tryz.zeroValue23}
def J9:bd:=wd
theorem W9:Sound Tryz.prog 87 J9:=Of ahi (NN (Tryz.prog.info? 3)) (.int .i64 0) 8 (by kernel_rfl) (by kernel_rfl) (by kernel_rfl) (by kernel_rfl) (by kernel_rfl) (by decide) Tryz.sizeOf3
def Ad:af Tryz.prog:=ak sq Tryz.func34 Tryz.call34 [⟨87,J9,W9,Tryz.call87⟩] true [(3,.d [3,100005] []),(8,.t [⟨3,5,true,some 1,some ((.int .i64))⟩])] fun
 |[.aa (.list (.int .i64)) h,.aa (.list (.list (.int .i64))) c],[]=>⟨ad.a (x8 h c) fun t=>(.agg [.ab 1,.ab 2],[some (.box [.ab 1,.ab 2]),some (sI t.1),some (.nest (.int .i64) t.2 0 [])]),by refine fi (fun t=> [(4,.ptr 0 0)]) ?_ (.group 1 (.seq (fun b=>([(1,.aa (.list (.list (.int .i64))) c),(4,.ptr 0 0),(5,.ptr 1 0)],[some (.box [.aM,.aM]),some (.box [.ab 2,.aM]),some (sI b)])) (.ch ?_) fun b=>(.seq (fun g=>([(4,.ptr 0 0),(5,.ptr 1 0)],[some (.box [.aM,.aM]),some (.box [.ab 2,.ab 3]),some (sI b),some (.nest (.int .i64) g 0 [])])) (.seq (fun f=>([(4,.ptr 0 0),(5,.ptr 1 0),(11,.aa (.list (.list (.int .i64))) c),(12,dI f),(13,dI 0)],[some (.box [.aM,.aM]),some (.box [.ab 2,.ab 3]),some (sI b),some (.nest (.int .i64) ([]:List (List Int)) 0 [])])) (.ch ?_) fun f=>(.block (fun _=>true) (fun _=>rfl) (.loop (fun _=>rfl) (fun e=>([(4,.ptr 0 0),(5,.ptr 1 0),(11,.aa (.list (.list (.int .i64))) c),(12,dI f),(13,dI e.1)],[some (.box [.aM,.aM]),some (.box [.ab 2,.ab 3]),some (sI b),some (.nest (.int .i64) e.2 0 [])])) ?_ fun e=> .map (.ch ?_)))) fun g=>(.ch ?_))))<;>first|(intro i;simp only[Hi,Hj,se,Hk,ae];kernel_rfl)|kernel_rfl⟩
 |_,_=>aj
def Xa:bd:=rc [(.string ⟨⟨[104,101,97,100,115]⟩⟩,.func 126),(.string ⟨⟨[100,101,112,116,104,115]⟩⟩,.func 127),(.string ⟨⟨[111,114,100,101,114]⟩⟩,.func 128),(.string ⟨⟨[114,111,111,116]⟩⟩,.func 129),(.string ⟨⟨[99,114,111,115,115,105,110,103,115]⟩⟩,.func 130),(.string ⟨⟨[103,97,112,115]⟩⟩,.func 131),(.string ⟨⟨[101,120,99,104,97,110,103,101,115]⟩⟩,.func 132),(.string ⟨⟨[108,101,110,103,116,104]⟩⟩,.func 133),(.string ⟨⟨[108,101,97,115,116]⟩⟩,.func 134),(.string ⟨⟨[97,112,97,114,116]⟩⟩,.func 135),(.string ⟨⟨[112,114,111,106,101,99,116,105,118,101]⟩⟩,.func 136),(.string ⟨⟨[110,101,115,116,101,100]⟩⟩,.func 137),(.string ⟨⟨[109,111,118,101,115]⟩⟩,.func 138),(.string ⟨⟨[101,97,103,101,114]⟩⟩,.func 139),(.string ⟨⟨[112,108,97,99,101]⟩⟩,.func 140)]
theorem ahj:Sound Tryz.prog 88 Xa:=
 Db (mt:=95) (kt:=9) (et:=93) (d:= .string) Tryz.func88 (by kernel_rfl) (by kernel_rfl) (by kernel_rfl) (by kernel_rfl) (by kernel_rfl)
def Xb:Go.Shelf.Ren:=⟨fun|156=>183|165=>219|166=>220|169=>221|240=>268|241=>269|276=>291|277=>292|n=>n,fun|0=>0|3=>3|4=>4|5=>5|9=>9|20=>20|31=>34|37=>22|70=>193|72=>195|75=>90|76=>91|80=>122|127=>202|164=>246|n=>n,fun|n=>n⟩
theorem ahk:Lays.n156 Tryz.prog Xb:={
 mixed:=by kernel_rfl
 f156:=Tryz.func183.trans (aR some (by kernel_rfl))
 f165:=Tryz.func219.trans (aR some (by kernel_rfl))
 f166:=Tryz.func220.trans (aR some (by kernel_rfl))
 f169:=Tryz.func221.trans (aR some (by kernel_rfl))
 f240:=Tryz.func268.trans (aR some (by kernel_rfl))
 f241:=Tryz.func269.trans (aR some (by kernel_rfl))
 f276:=Tryz.func291.trans (aR some (by kernel_rfl))
 f277:=Tryz.func292.trans (aR some (by kernel_rfl))
 t0:=Tryz.underlying0
 a0:=Tryz.isAgg0
 z0:=Tryz.sizeOf0
 v0:=Tryz.zeroValue0
 t3:=Tryz.underlying3
 a3:=Tryz.isAgg3
 z3:=Tryz.sizeOf3
 v3:=Tryz.zeroValue3
 t4:=Tryz.underlying4
 a4:=Tryz.isAgg4
 z4:=Tryz.sizeOf4
 v4:=Tryz.zeroValue4
 t9:=Tryz.underlying9
 a9:=Tryz.isAgg9
 z9:=Tryz.sizeOf9
 v9:=Tryz.zeroValue9
 t20:=Tryz.underlying20
 a20:=Tryz.isAgg20
 z20:=Tryz.sizeOf20
 v20:=Tryz.zeroValue20
 t31:=Tryz.underlying34
 a31:=Tryz.isAgg34
 z31:=Tryz.sizeOf34
 v31:=Tryz.zeroValue34
 t37:=Tryz.underlying22
 a37:=Tryz.isAgg22
 z37:=Tryz.sizeOf22
 v37:=Tryz.zeroValue22
 t70:=Tryz.underlying193
 a70:=Tryz.isAgg193
 z70:=Tryz.sizeOf193
 v70:=Tryz.zeroValue193
 t72:=Tryz.underlying195
 a72:=Tryz.isAgg195
 z72:=Tryz.sizeOf195
 v72:=Tryz.zeroValue195
 t75:=Tryz.underlying90
 a75:=Tryz.isAgg90
 z75:=Tryz.sizeOf90
 v75:=Tryz.zeroValue90
 t76:=Tryz.underlying91
 a76:=Tryz.isAgg91
 z76:=Tryz.sizeOf91
 v76:=Tryz.zeroValue91
 t127:=Tryz.underlying202
 a127:=Tryz.isAgg202
 z127:=Tryz.sizeOf202
 v127:=Tryz.zeroValue202
 t164:=Tryz.underlying246
 a164:=Tryz.isAgg246
 z164:=Tryz.sizeOf246
 v164:=Tryz.zeroValue246}
theorem ahl:Builder.Extra Tryz.prog Xb:={
 sizeBuilder:=by kernel_rfl
 liesBuilder:=by kernel_rfl
 t5:=Tryz.underlying5
 a5:=Tryz.isAgg5
 z5:=Tryz.sizeOf5
 v5:=Tryz.zeroValue5
 infoByte:=by kernel_rfl
 cellsByte:=by kernel_rfl
 sizeByte:=by kernel_rfl
 neB5:=by decide}
def Xc:bd:=Dt
theorem ahm:Sound Tryz.prog 183 Xc:=aeE ahk ahl
def Ae:af Tryz.prog:=ak sq Tryz.func143 Tryz.call143 [⟨125,hM,iF,Tryz.call125⟩,⟨183,Xc,ahm,Tryz.call183⟩] false [] fun
 |[.aa (.list (.int .i64)) b],[]=>⟨ad.a (x9 b) fun t=>(dS t,[]),by refine al ?_ (.group 1 (.seq (fun d=>([(0,dL b),(3,.ab 0)],[some (.seq .str d)])) (.ch ?_) fun d=>(.seq (fun f=>([(3,.ab 0)],[some (.seq .str f)])) (.seq (fun e=>([(3,.ab 0),(9,dL b),(10,dI e),(11,dI 0)],[some (.seq .str d)])) (.ch ?_) fun e=>(.block (fun _=>true) (fun _=>rfl) (.loop (fun _=>rfl) (fun c=>([(3,.ab 0),(9,dL b),(10,dI e),(11,dI c.1)],[some (.seq .str c.2)])) ?_ fun c=> .map (.ch ?_)))) fun f=>(.ch ?_))))<;>first|(intro g;simp only[Hm,Hn,sf,Ho,ae];kernel_rfl)|kernel_rfl⟩
 |_,_=>aj
def ahn:af Tryz.prog:=ak sq Tryz.func126 Tryz.call126 [Ae] false [] fun
 |[.agg [.aa (.list (.int .i64)) b,.aa (.list (.list (.int .i64))) d]],[]=>⟨ad.a (ya b) fun t=>(dS t,[]),by refine al ?_ (.ch ?_)<;>first|(intro c;simp only[ya,ae];kernel_rfl)|kernel_rfl⟩
 |_,_=>aj
def aho:af Tryz.prog:=ak sq Tryz.func169 Tryz.call169 [gq,W3] false [] fun
 |[.aa (.list (.int .i64)) b],[]=>⟨ad.a (Ht b) fun t=>(.ab 0,[some (sI t)]),by refine al ?_ (.group 2 (.aK (fun _=>rfl) (fun d=>([(0,dL b),(3,.ab 0)],[some (sI d)])) (.ch ?_) fun d=>(.seq (fun f=>([(3,.ab 0)],[some (sI f)])) (.seq (fun e=>([(0,dL b),(3,.ab 0),(12,dI e),(13,dI 0)],[some (sI d)])) (.ch ?_) fun e=>(.block (fun _=>true) (fun _=>rfl) (.loop (fun _=>rfl) (fun c=>([(0,dL b),(3,.ab 0),(12,dI e),(13,dI c.1)],[some (sI c.2)])) ?_ fun c=> .map (.ch ?_)))) fun f=>(.ch ?_))))<;>first|(intro g;simp only[Hq,Hr,sg,Hs,ae];kernel_rfl)|kernel_rfl⟩
 |_,_=>aj
def ahp:af Tryz.prog:=ak sq Tryz.func127 Tryz.call127 [aho,Ae] false [] fun
 |[.agg [.aa (.list (.int .i64)) b,.aa (.list (.list (.int .i64))) d]],[]=>⟨ad.a (sh b) fun t=>(dS t,[]),by refine al ?_ (.ch ?_)<;>first|(intro c;simp only[sh,ae];kernel_rfl)|kernel_rfl⟩
 |_,_=>aj
def Af:af Tryz.prog:=ak sq Tryz.func115 Tryz.call115 [gq,W2] false [] fun
 |[.aa (.list (.int .i64)) b],[]=>⟨ad.a (Hy b) fun t=>(dI t,[]),by refine al ?_ (.group 2 (.aK (fun _=>rfl) (fun e=>([(3,.ptr 0 0)],[some (.box [dL b,dI 1,dI 0])])) (.ch ?_) fun e=>(.seq (fun d=>([(3,.ptr 0 0)],[some (.box [dL b,dI d.1,dI d.2])])) (.block (fun _=>true) (fun _=>rfl) (.loop (fun _=>rfl) (fun c=>([(3,.ptr 0 0)],[some (.box [dL b,dI c.1,dI c.2])])) ?_ fun c=> .map (.ch ?_))) fun d=>(.ch ?_))))<;>first|(intro f;simp only[Hv,yc,Hw,ae];kernel_rfl)|kernel_rfl⟩
 |_,_=>aj
def pX:af Tryz.prog:=ak sq Tryz.func156 Tryz.call156 [] false [] fun
 |[.aa (.int .i64) b],[]=>⟨ad.a (Hz b) fun t=>(dW t,[]),by refine al ?_ (.ch ?_)<;>first|(intro c;simp only[Hz,ae];kernel_rfl)|kernel_rfl⟩
 |_,_=>aj
def tL:af Tryz.prog:=ak sq Tryz.func157 Tryz.call157 [pX] false [] fun
 |[.aa (.list (.int .i64)) b,.aa (.int .i64) c],[]=>⟨ad.a (yd b c) fun t=>(dW t,[]),by refine al ?_ (.group 1 (.seq (fun g=>([(0,dL b),(1,dI c),(5,dW 0)],[])) (.ch ?_) fun g=>(.seq (fun f=>([(5,dW f)],[])) (.seq (fun e=>([(0,dL b),(1,dI c),(5,dW 0),(8,dI e),(9,dI 0)],[])) (.ch ?_) fun e=>(.block (fun _=>true) (fun _=>rfl) (.loop (fun _=>rfl) (fun d=>([(0,dL b),(1,dI c),(5,dW d.1),(8,dI e),(9,dI d.2)],[])) ?_ fun d=> .map (.ch ?_)))) fun f=>(.ch ?_))))<;>first|(intro h;simp only[HA,HB,si,Ts,ae];kernel_rfl)|kernel_rfl⟩
 |_,_=>aj
def ahq:af Tryz.prog:=ak sq Tryz.func281 Tryz.call281 [pX] false [] fun
 |[.aa (.int .i64) b],[]=>⟨ad.a (HC b) fun t=>(dW t,[]),by refine al ?_ (.ch ?_)<;>first|(intro c;simp only[HC,ae];kernel_rfl)|kernel_rfl⟩
 |_,_=>aj
def Ag:af Tryz.prog:=ak sq Tryz.func238 Tryz.call238 [tL,ahq] false [] fun
 |[.aa (.list (.int .i64)) b,.aa (.int .i64) c],[]=>⟨ad.a (sj b c) fun t=>(.ba [dW t.1,dW t.2],[]),by refine al ?_ (.ch ?_)<;>first|(intro d;simp only[sj,ae];kernel_rfl)|kernel_rfl⟩
 |_,_=>aj
def ahr:af Tryz.prog:=ak sq Tryz.func274 Tryz.call274 [] false [] fun
 |[.aa (.int .u64) i],[]=>⟨ad.a (TD i) fun t=>(dI t,[]),by refine al ?_ (.group 1 (.seq (fun b=>([(0,dW b)],[])) (.ch ?_) fun b=>(.seq (fun c=>([(0,dW c)],[])) (.ch ?_) fun c=>(.seq (fun d=>([(0,dW d)],[])) (.ch ?_) fun d=>(.seq (fun e=>([(0,dW e)],[])) (.ch ?_) fun e=>(.seq (fun f=>([(0,dW f)],[])) (.ch ?_) fun f=>(.seq (fun g=>([(0,dW g)],[])) (.ch ?_) fun g=>(.seq (fun h=>([(2,dI h)],[])) (.ch ?_) fun h=>(.ch ?_)))))))))<;>first|(intro j;simp only[Tu,Tv,Tw,Tx,Tz,TA,TB,TC,ae];kernel_rfl)|kernel_rfl⟩
 |_,_=>aj
def ahs:af Tryz.prog:=ak sq Tryz.func224 Tryz.call224 [ahr] false [] fun
 |[.aa (.int .u64) b],[]=>⟨ad.a (HD b) fun t=>(dI t,[]),by refine al ?_ (.ch ?_)<;>first|(intro c;simp only[HD,ae];kernel_rfl)|kernel_rfl⟩
 |_,_=>aj
def Ka:af Tryz.prog:=ak sq Tryz.func188 Tryz.call188 [ahs] false [] fun
 |[.aa (.int .u64) b],[]=>⟨ad.a (HE b) fun t=>(dI t,[]),by refine al ?_ (.ch ?_)<;>first|(intro c;simp only[HE,ae];kernel_rfl)|kernel_rfl⟩
 |_,_=>aj
def aht:af Tryz.prog:=ak sq Tryz.func226 Tryz.call226 [] false [] fun
 |[.aa (.int .u64) b],[]=>⟨ad.a (HF b) fun t=>(dI t,[]),by refine al ?_ (.ch ?_)<;>first|(intro c;simp only[HF,ae];kernel_rfl)|kernel_rfl⟩
 |_,_=>aj
def ahu:af Tryz.prog:=ak sq Tryz.func189 Tryz.call189 [aht] false [] fun
 |[.aa (.int .u64) b],[]=>⟨ad.a (HG b) fun t=>(dI t,[]),by refine al ?_ (.ch ?_)<;>first|(intro c;simp only[HG,ae];kernel_rfl)|kernel_rfl⟩
 |_,_=>aj
def kA:af Tryz.prog:=ak sq Tryz.func158 Tryz.call158 [Ka,ahu] false [] fun
 |[.aa (.int .u64) d],[]=>⟨ad.a (TJ d) fun t=>(.ab 0,[some (sI t)]),by refine al ?_ (.group 1 (.seq (fun c=>([(0,dW d),(3,.ab 0)],[some (sI c)])) (.ch ?_) fun c=>(.seq (fun e=>([(3,.ab 0)],[some (sI e)])) (.seq (fun f=>([(3,.ab 0),(4,dW d)],[some (sI c)])) (.ch ?_) fun f=>(.block (fun _=>true) (fun _=>rfl) (.loop (fun _=>rfl) (fun b=>([(3,.ab 0),(4,dW b.1)],[some (sI b.2)])) ?_ fun b=> .map (.ch ?_)))) fun e=>(.ch ?_))))<;>first|(intro g;simp only[TE,TF,TG,TH,ae];kernel_rfl)|kernel_rfl⟩
 |_,_=>aj
noncomputable def Xd:bj:=gI [] Tryz.f198
noncomputable def Xe:bj:=gI [] Tryz.f239
def jw (n:Nat):bd:=fun avs a=>
 match avs,a with
 |[.ab 0,.aa (.list (.int .i64)) b,.aa (.int .i64) c],[some (.seq (.int .i64) d)]=>⟨_,kv n b c d,fun t=>(.ab 0,[some (sI t)]),[0],none⟩
 |_,_=>ad.no
def jx (n:Nat):bd:=fun avs a=>
 match avs,a with
 |[.ab 0,.aa (.list (.int .i64)) b,.aa (.int .u64) c],[some (.seq (.int .i64) d)]=>⟨_,py n b c d,fun t=>(.ab 0,[some (sI t)]),[0],none⟩
 |_,_=>ad.no
noncomputable def Xf (n:Nat):Ctx:=⟨bH cQ,cO [(238,(af.F Ag)),(239,jx n)],gL,1,false,[0]⟩
noncomputable def Xg (n:Nat):Ctx:=⟨bH cQ,cO [(158,(af.F kA)),(198,jw n)],gL,1,false,[0]⟩
theorem ahv (n:Nat) (a:List Int) (b:Int) (c:List Int) {r:AV} {d:Heap} (h:(ad.mk _ (kv (n+1) a b c) (fun t=>(.ab 0,[some (sI t)])) [0] none).run=some (r,d)):bY (Xf n) LL (ct Tryz.f198) Xd ⟨cu 26 0 [(0,.ab 0),(1,dL a),(2,dI b)],[some (sI c)]⟩ (dR (bH cQ) Tryz.f198.results.toList r d):=
 gG (Lk.go (N:=26) (n:=sn (kv n) (py n) a b c) (fin:=(fun t=>(ret,⟨cu 26 0 [(6,.ab 0)],[some (sI t)]⟩))) (.ch fun e=>by simp only[sn,ae];kernel_rfl) (by kernel_rfl)) (by kernel_rfl) (fun t=>fF (by kernel_rfl)) h
theorem ahw (n:Nat) (a:List Int) (d:Int) (c:List Int) {r:AV} {g:Heap} (h:(ad.mk _ (py (n+1) a d c) (fun t=>(.ab 0,[some (sI t)])) [0] none).run=some (r,g)):bY (Xg n) LL (ct Tryz.f239) Xe ⟨cu 22 0 [(0,.ab 0),(1,dL a),(2,dW d)],[some (sI c)]⟩ (dR (bH cQ) Tryz.f239.results.toList r g):=
 gG (Lk.go (N:=22) (n:=HK (kv n) (py n) a d c) (fin:=(fun t=>(ret,⟨cu 22 0 [(6,.ab 0)],[some (sI t)]⟩))) (.seq (fun j=>([(0,.ab 0),(1,dL a),(2,dW d)],[some (sI c)])) (.ch fun e=>by simp only[HH,ae];kernel_rfl) fun j=>(.seq (fun i=>([(0,.ab 0)],[some (sI i)])) (.seq (fun b=>([(0,.ab 0),(1,dL a),(10,.ab 1),(11,dI b.1),(12,dI 0)],[some (sI c),some (sI b.2)])) (.ch fun e=>by simp only[HI,ae];kernel_rfl) fun b=>(.block (fun _=>true) (fun _=>rfl) (.loop (fun _=>rfl) (fun f=>([(0,.ab 0),(1,dL a),(10,.ab 1),(11,dI b.1),(12,dI f.1)],[some (sI f.2),some (sI b.2)])) (by kernel_rfl) fun f=> .map (.ch fun e=>by simp only[so,ae];kernel_rfl)))) fun i=>(.ch fun e=>by simp only[HJ,ae];kernel_rfl))) (by kernel_rfl)) (by kernel_rfl) (fun t=>fF (by kernel_rfl)) h
theorem ahx (n:Nat) (e:Sound Tryz.prog 198 (jw n)) (a:Sound Tryz.prog 239 (jx n)):Sound Tryz.prog 198 (jw (n+1)):=by
 refine gH (C:=Xf n) (c:=ct Tryz.f198) (gF gK (be (af.s Ag) (be a dd)) (be Tryz.call238 (be Tryz.call239 dd)) (by kernel_rfl)) Tryz.func198 (by kernel_rfl) LL Xd ?_
 intro avs b r d h
 unfold jw at h
 split at h
 ·refine bY.cast ?_ ?_ ?_ (ahv n _ _ _ h)<;>kernel_rfl
 ·simp[ad.no,ad.run] at h
theorem ahy:Sound Tryz.prog 198 (jw 0):=by
 intro avs a r b h
 unfold jw at h
 split at h
 ·simp[kv,fk,ad.run] at h
 ·simp[ad.no,ad.run] at h
theorem ahz (n:Nat) (a:Sound Tryz.prog 198 (jw n)) (e:Sound Tryz.prog 239 (jx n)):Sound Tryz.prog 239 (jx (n+1)):=by
 refine gH (C:=Xg n) (c:=ct Tryz.f239) (gF gK (be (af.s kA) (be a dd)) (be Tryz.call158 (be Tryz.call198 dd)) (by kernel_rfl)) Tryz.func239 (by kernel_rfl) LL Xe ?_
 intro avs b r d h
 unfold jx at h
 split at h
 ·refine bY.cast ?_ ?_ ?_ (ahw n _ _ _ h)<;>kernel_rfl
 ·simp[ad.no,ad.run] at h
theorem ahA:Sound Tryz.prog 239 (jx 0):=by
 intro avs a r b h
 unfold jx at h
 split at h
 ·simp[py,fk,ad.run] at h
 ·simp[ad.no,ad.run] at h
theorem Kb: ∀n,Sound Tryz.prog 198 (jw n)/\Sound Tryz.prog 239 (jx n)
 |0=>⟨ahy,ahA⟩
 |n+1=>by
  obtain⟨a,b⟩:=Kb n
  exact⟨ahx n a b,ahz n a b⟩
def Ah:bd:=fun avs a=>
 match avs,a with
 |[.ab 0,.aa (.list (.int .i64)) b,.aa (.int .i64) c],[some (.seq (.int .i64) d)]=>⟨_,sp b c d,fun t=>(.ab 0,[some (sI t)]),[0],none⟩
 |_,_=>ad.no
theorem ahB:Sound Tryz.prog 198 Ah:=by
 have e:Ah=jw RR:=by
  funext avs H
  unfold Ah jw
  split<;>first|rfl|(simp only[sp])
 rw[e]
 exact(Kb RR).1
def Kc:bd:=fun avs a=>
 match avs,a with
 |[.ab 0,.aa (.list (.int .i64)) b,.aa (.int .u64) c],[some (.seq (.int .i64) d)]=>⟨_,TP b c d,fun t=>(.ab 0,[some (sI t)]),[0],none⟩
 |_,_=>ad.no
theorem apg:Sound Tryz.prog 239 Kc:=by
 have e:Kc=jx RR:=by
  funext avs H
  unfold Kc jx
  split<;>first|rfl|(simp only[TP])
 rw[e]
 exact(Kb RR).2
def Kd:af Tryz.prog:=ak sq Tryz.func170 Tryz.call170 [gq,Af,⟨198,Ah,ahB,Tryz.call198⟩] false [(1,.d [5,100006] [0,1,3,4,5,2,6,7])] fun
 |[.aa (.list (.int .i64)) b],[]=>⟨ad.a (sr b) fun t=>(.ab 0,[some (sI t)]),by refine al ?_ (.ch ?_)<;>first|(intro c;simp only[sr,ae];kernel_rfl)|kernel_rfl⟩
 |_,_=>aj
def ahC:af Tryz.prog:=ak sq Tryz.func128 Tryz.call128 [Kd,Ae] false [] fun
 |[.agg [.aa (.list (.int .i64)) b,.aa (.list (.list (.int .i64))) d]],[]=>⟨ad.a (ss b) fun t=>(dS t,[]),by refine al ?_ (.ch ?_)<;>first|(intro c;simp only[ss,ae];kernel_rfl)|kernel_rfl⟩
 |_,_=>aj
def ahD:af Tryz.prog:=ak sq Tryz.func129 Tryz.call129 [Af,⟨125,hM,iF,Tryz.call125⟩] false [] fun
 |[.agg [.aa (.list (.int .i64)) b,.aa (.list (.list (.int .i64))) d]],[]=>⟨ad.a (yh b) fun t=>(dS t,[]),by refine al ?_ (.ch ?_)<;>first|(intro c;simp only[yh,ae];kernel_rfl)|kernel_rfl⟩
 |_,_=>aj
def Xh:af Tryz.prog:=ak sq Tryz.func240 Tryz.call240 [] false [] fun
 |[.aa (.int .i64) b,.aa (.int .i64) c],[]=>⟨ad.a (yi b c) fun t=>(.ba [.agg [dI t.2.1,dI t.2.2],dB t.1],[some (.box [dI t.2.1,dI t.2.2])]),by refine fi (fun t=> [(4,.ptr 0 0),(5,dB t.1)]) ?_ (.ch ?_)<;>first|(intro d;simp only[yi,ae];kernel_rfl)|kernel_rfl⟩
 |_,_=>aj
def Ke:af Tryz.prog:=ak sq Tryz.func200 Tryz.call200 [Xh] false [] fun
 |[.aa (.list (.int .i64)) b],[]=>⟨ad.a (yj b) fun t=>(.ab 0,[some (.seq (.pair (.int .i64) (.pair (.int .i64) .unit)) t)]),by refine al ?_ (.group 1 (.seq (fun d=>([(0,dL b),(3,.ab 0)],[some (.seq (.pair (.int .i64) (.pair (.int .i64) .unit)) d)])) (.ch ?_) fun d=>(.seq (fun f=>([(3,.ab 0)],[some (.seq (.pair (.int .i64) (.pair (.int .i64) .unit)) f)])) (.seq (fun e=>([(3,.ab 0),(11,dL b),(12,dI e),(13,dI 0)],[some (.seq (.pair (.int .i64) (.pair (.int .i64) .unit)) d)])) (.ch ?_) fun e=>(.block (fun _=>true) (fun _=>rfl) (.loop (fun _=>rfl) (fun c=>([(3,.ab 0),(11,dL b),(12,dI e),(13,dI c.1)],[some (.seq (.pair (.int .i64) (.pair (.int .i64) .unit)) c.2)])) ?_ fun c=> .map (.ch ?_)))) fun f=>(.ch ?_))))<;>first|(intro g;simp only[HM,HN,sv,HO,ae];kernel_rfl)|kernel_rfl⟩
 |_,_=>aj
def ahE:af Tryz.prog:=ak sq Tryz.func241 Tryz.call241 [] false [] fun
 |[.agg [.aa (.int .i64) b,.aa (.int .i64) c],.aa (.int .i64) d],[]=>⟨ad.a (yk b c d) fun t=>(dB t,[]),by refine al ?_ (.ch ?_)<;>first|(intro e;simp only[yk,ae];kernel_rfl)|kernel_rfl⟩
 |_,_=>aj
def ahF:af Tryz.prog:=ak sq Tryz.func242 Tryz.call242 [] false [] fun
 |[.agg [.aa (.int .i64) b,.aa (.int .i64) c],.aa (.int .i64) d],[]=>⟨ad.a (yl b c d) fun t=>(dB t,[]),by refine al ?_ (.ch ?_)<;>first|(intro e;simp only[yl,ae];kernel_rfl)|kernel_rfl⟩
 |_,_=>aj
def Xi:af Tryz.prog:=ak sq Tryz.func201 Tryz.call201 [ahE,ahF] false [] fun
 |[.agg [.aa (.int .i64) b,.aa (.int .i64) c],.agg [.aa (.int .i64) d,.aa (.int .i64) e]],[]=>⟨ad.a (ym b c d e) fun t=>(dB t,[]),by refine al ?_ (.ch ?_)<;>first|(intro f;simp only[ym,ae];kernel_rfl)|kernel_rfl⟩
 |_,_=>aj
def ahG:af Tryz.prog:=ak sq Tryz.func199 Tryz.call199 [Xi] false [] fun
 |[.aa (.list (.pair (.int .i64) (.pair (.int .i64) .unit))) b,.fn 201 [] []],[]=>⟨ad.a (yo b) fun t=>(dI t,[]),by refine al ?_ (.group 1 (.seq (fun i=>([(0,.aa (.list (.pair (.int .i64) (.pair (.int .i64) .unit))) b),(1,.fn 201 [] []),(5,dI 0)],[])) (.ch ?_) fun i=>(.seq (fun g=>([(5,dI g)],[])) (.seq (fun e=>([(0,.aa (.list (.pair (.int .i64) (.pair (.int .i64) .unit))) b),(1,.fn 201 [] []),(5,dI 0),(10,.aa (.list (.pair (.int .i64) (.pair (.int .i64) .unit))) b),(11,dI e),(12,dI 0)],[])) (.ch ?_) fun e=>(.block (fun _=>true) (fun _=>rfl) (.loop (fun _=>rfl) (fun c=>([(0,.aa (.list (.pair (.int .i64) (.pair (.int .i64) .unit))) b),(1,.fn 201 [] []),(5,dI c.1),(10,.aa (.list (.pair (.int .i64) (.pair (.int .i64) .unit))) b),(11,dI e),(12,dI c.2)],[])) ?_ fun c=> .map (.group 1 (.aK (fun _=>rfl) (fun j=>([(0,.aa (.list (.pair (.int .i64) (.pair (.int .i64) .unit))) b),(1,.fn 201 [] []),(5,dI c.1),(10,.aa (.list (.pair (.int .i64) (.pair (.int .i64) .unit))) b),(11,dI e),(12,dI c.2)],[])) (.ch ?_) fun j=>(.map (.seq (fun h=>([(0,.aa (.list (.pair (.int .i64) (.pair (.int .i64) .unit))) b),(1,.fn 201 [] []),(5,dI h),(10,.aa (.list (.pair (.int .i64) (.pair (.int .i64) .unit))) b),(11,dI e),(12,dI c.2)],[])) (.block (fun _=>false) (fun _=>rfl) (.group 1 (.seq (fun d=>([(0,.aa (.list (.pair (.int .i64) (.pair (.int .i64) .unit))) b),(1,.fn 201 [] []),(5,dI c.1),(7,.ptr 0 0),(10,.aa (.list (.pair (.int .i64) (.pair (.int .i64) .unit))) b),(11,dI e),(12,dI c.2),(20,.aa (.list (.pair (.int .i64) (.pair (.int .i64) .unit))) d.1),(21,dI d.2.1),(22,dI 0)],[some (.box [dI d.2.2.1,dI d.2.2.2])])) (.ch ?_) fun d=>(.block (fun _=>true) (fun _=>rfl) (.loop (fun _=>rfl) (fun f=>([(0,.aa (.list (.pair (.int .i64) (.pair (.int .i64) .unit))) b),(1,.fn 201 [] []),(5,dI f.1),(7,.ptr 0 0),(10,.aa (.list (.pair (.int .i64) (.pair (.int .i64) .unit))) b),(11,dI e),(12,dI c.2),(20,.aa (.list (.pair (.int .i64) (.pair (.int .i64) .unit))) d.1),(21,dI d.2.1),(22,dI f.2)],[some (.box [dI d.2.2.1,dI d.2.2.2])])) ?_ fun f=> .map (.ch ?_)))))) fun h=>(.map (.ch ?_))))))))) fun g=>(.ch ?_))))<;>first|(intro k;simp only[HP,HQ,HR,HS,sy,HU,HW,ae];kernel_rfl)|kernel_rfl⟩
 |_,_=>aj
def ahH:af Tryz.prog:=ak sq Tryz.func171 Tryz.call171 [gq,Ke,ahG] false [] fun
 |[.aa (.list (.int .i64)) b],[]=>⟨ad.a (sA b) fun t=>(dI t,[]),by refine al ?_ (.ch ?_)<;>first|(intro c;simp only[sA,ae];kernel_rfl)|kernel_rfl⟩
 |_,_=>aj
def ahI:af Tryz.prog:=ak sq Tryz.func130 Tryz.call130 [ahH,⟨125,hM,iF,Tryz.call125⟩] false [] fun
 |[.agg [.aa (.list (.int .i64)) b,.aa (.list (.list (.int .i64))) d]],[]=>⟨ad.a (yr b) fun t=>(dS t,[]),by refine al ?_ (.ch ?_)<;>first|(intro c;simp only[yr,ae];kernel_rfl)|kernel_rfl⟩
 |_,_=>aj
noncomputable def Xj:bj:=gI [] Tryz.f114
def kB (n:Nat):bd:=fun avs a=>
 match avs,a with
 |[.ab 0,.aa (.list (.int .i64)) b,.aa (.int .i64) c],[some (.seq (.int .u64) d)]=>⟨_,pC n b c d,fun t=>(dW t.1,[some (.seq (.int .u64) t.2)]),[],none⟩
 |_,_=>ad.no
noncomputable def Xk (n:Nat):Ctx:=⟨bH cQ,cO [(156,(af.F pX)),(157,(af.F tL)),(158,(af.F kA)),(114,kB n)],gL,1,false,[]⟩
theorem ahJ (n:Nat) (b:List Int) (a:Int) (d:List Int) {r:AV} {j:Heap} (h:(ad.mk _ (pC (n+1) b a d) (fun t=>(dW t.1,[some (.seq (.int .u64) t.2)])) [] none).run=some (r,j)):bY (Xk n) LL (ct Tryz.f114) Xj ⟨cu 34 0 [(0,.ab 0),(1,dL b),(2,dI a)],[some (.seq (.int .u64) d)]⟩ (dR (bH cQ) Tryz.f114.results.toList r j):=
 gG (Lk.go (N:=34) (n:=H1 (pC n) b a d) (fin:=(fun t=>(ret,⟨cu 34 0 [(6,dW t.1)],[some (.seq (.int .u64) t.2)]⟩))) (.group 1 (.seq (fun g=>([(0,.ab 0),(1,dL b),(2,dI a),(7,dW g)],[some (.seq (.int .u64) d)])) (.ch fun f=>by simp only[HY,ae];kernel_rfl) fun g=>(.seq (fun i=>([(0,.ab 0),(2,dI a),(7,dW i.1)],[some (.seq (.int .u64) i.2)])) (.seq (fun c=>([(0,.ab 0),(1,dL b),(2,dI a),(7,dW g),(15,.ab 1),(16,dI c.1),(17,dI 0)],[some (.seq (.int .u64) d),some (sI c.2)])) (.ch fun f=>by simp only[HZ,ae];kernel_rfl) fun c=>(.block (fun _=>true) (fun _=>rfl) (.loop (fun _=>rfl) (fun e=>([(0,.ab 0),(1,dL b),(2,dI a),(7,dW e.1),(15,.ab 1),(16,dI c.1),(17,dI e.2.1)],[some (.seq (.int .u64) e.2.2),some (sI c.2)])) (by kernel_rfl) fun e=> .map (.ch fun f=>by simp only[pB,ae];kernel_rfl)))) fun i=>(.ch fun f=>by simp only[H0,ae];kernel_rfl)))) (by kernel_rfl)) (by kernel_rfl) (fun t=>fF (by kernel_rfl)) h
theorem ahK (n:Nat) (a:Sound Tryz.prog 114 (kB n)):Sound Tryz.prog 114 (kB (n+1)):=by
 refine gH (C:=Xk n) (c:=ct Tryz.f114) (gF gK (be (af.s pX) (be (af.s tL) (be (af.s kA) (be a dd)))) (be Tryz.call156 (be Tryz.call157 (be Tryz.call158 (be Tryz.call114 dd)))) (by kernel_rfl)) Tryz.func114 (by kernel_rfl) LL Xj ?_
 intro avs b r d h
 unfold kB at h
 split at h
 ·refine bY.cast ?_ ?_ ?_ (ahJ n _ _ _ h)<;>kernel_rfl
 ·simp[ad.no,ad.run] at h
theorem ahL:Sound Tryz.prog 114 (kB 0):=by
 intro avs a r b h
 unfold kB at h
 split at h
 ·simp[pC,lL,ad.run] at h
 ·simp[ad.no,ad.run] at h
theorem Xl: ∀n,Sound Tryz.prog 114 (kB n)
 |0=>ahL
 |n+1=>by
  have a:=Xl n
  exact ahK n a
def Ai:bd:=fun avs a=>
 match avs,a with
 |[.ab 0,.aa (.list (.int .i64)) b,.aa (.int .i64) c],[some (.seq (.int .u64) d)]=>⟨_,sB b c d,fun t=>(dW t.1,[some (.seq (.int .u64) t.2)]),[],none⟩
 |_,_=>ad.no
theorem ahM:Sound Tryz.prog 114 Ai:=by
 have e:Ai=kB RR:=by
  funext avs H
  unfold Ai kB
  split<;>first|rfl|(simp only[sB])
 rw[e]
 exact(Xl RR)
def tM:af Tryz.prog:=ak sq Tryz.func66 Tryz.call66 [Af,⟨114,Ai,ahM,Tryz.call114⟩] false [] fun
 |[.aa (.list (.int .i64)) b],[]=>⟨ad.a (sC b) fun t=>(.ab 0,[some (.seq (.int .u64) t)]),by refine al ?_ (.ch ?_)<;>first|(intro c;simp only[sC,ae];kernel_rfl)|kernel_rfl⟩
 |_,_=>aj
def ahN:af Tryz.prog:=ak sq Tryz.func243 Tryz.call243 [] false [] fun
 |[.aa (.int .u64) b],[]=>⟨ad.a (H2 b) fun t=>(dW t,[]),by refine al ?_ (.ch ?_)<;>first|(intro c;simp only[H2,ae];kernel_rfl)|kernel_rfl⟩
 |_,_=>aj
def ahO:af Tryz.prog:=ak sq Tryz.func202 Tryz.call202 [ahN,Ka] false [] fun
 |[.aa (.int .u64) b],[]=>⟨ad.a (H3 b) fun t=>(dI t,[]),by refine al ?_ (.ch ?_)<;>first|(intro c;simp only[H3,ae];kernel_rfl)|kernel_rfl⟩
 |_,_=>aj
def ahP:af Tryz.prog:=ak sq Tryz.func172 Tryz.call172 [gq,tM,ahO] false [] fun
 |[.aa (.list (.int .i64)) e],[]=>⟨ad.a (yt e) fun t=>(dI t,[]),by refine al ?_ (.group 2 (.aK (fun _=>rfl) (fun f=>([(0,dL e),(3,dI 0)],[])) (.ch ?_) fun f=>(.seq (fun d=>([(3,dI d)],[])) (.seq (fun b=>([(3,dI 0),(10,.ab 0),(11,dI b.1),(12,dI 0)],[some (.seq (.int .u64) b.2)])) (.ch ?_) fun b=>(.block (fun _=>true) (fun _=>rfl) (.loop (fun _=>rfl) (fun c=>([(3,dI c.1),(10,.ab 0),(11,dI b.1),(12,dI c.2)],[some (.seq (.int .u64) b.2)])) ?_ fun c=> .map (.ch ?_)))) fun d=>(.ch ?_))))<;>first|(intro g;simp only[H5,H6,sD,H7,ae];kernel_rfl)|kernel_rfl⟩
 |_,_=>aj
def ahQ:af Tryz.prog:=ak sq Tryz.func131 Tryz.call131 [ahP,⟨125,hM,iF,Tryz.call125⟩] false [] fun
 |[.agg [.aa (.list (.int .i64)) b,.aa (.list (.list (.int .i64))) d]],[]=>⟨ad.a (yv b) fun t=>(dS t,[]),by refine al ?_ (.ch ?_)<;>first|(intro c;simp only[yv,ae];kernel_rfl)|kernel_rfl⟩
 |_,_=>aj
def Xm:af Tryz.prog:=ak sq Tryz.func244 Tryz.call244 [] false [] fun
 |[.aa (.list (.int .i64)) b,.aa (.int .i64) c],[]=>⟨ad.a (Ic b c) fun t=>(dB t,[]),by refine al ?_ (.group 2 (.aK (fun _=>rfl) (fun f=>([(0,dL b),(1,dI c),(5,.ptr 0 0)],[some (.seq .bool (replicate 9 false))])) (.ch ?_) fun f=>(.aK (fun _=>rfl) (fun g=>([],[])) (.seq (fun e=>([(1,dI c),(5,.ptr 0 0),(20,dL b),(21,dI e),(22,dI 0)],[some (.seq .bool (replicate 9 false))])) (.ch ?_) fun e=>(.block (Sum.elim (fun _=>false) (fun _=>true)) (bf (fun _=>rfl) (fun _=>rfl)) (.loop (bf (fun _=>rfl) (fun _=>rfl)) (fun d=>([(1,dI c),(5,.ptr 0 0),(20,dL b),(21,dI e),(22,dI d.1)],[some (.seq .bool d.2)])) ?_ fun d=> .map (.ch ?_)))) fun g=>(.ch ?_))))<;>first|(intro h;simp only[H9,Ia,yw,Ib,ae];kernel_rfl)|kernel_rfl⟩
 |_,_=>aj
def ahR:af Tryz.prog:=ak sq Tryz.func298 Tryz.call298 [] false [(0,.t [⟨0,4,true,none,none⟩])] fun
 |[.aM,.aa (.int .i64) b],[]=>⟨ad.a (sE b) fun t=>(.win 0 0 t.1,[some (sI t.2)]),by refine al ?_ (.ch ?_)<;>first|(intro c;simp only[sE,ae];kernel_rfl)|kernel_rfl⟩
 |_,_=>aj
def ahS:af Tryz.prog:=ak sq Tryz.func293 Tryz.call293 [ahR] false [(2,.t [⟨2,6,true,none,none⟩])] fun
 |[.aa (.list (.list (.int .i64))) b],[]=>⟨ad.a (yz b) fun t=>(.win 0 0 t.1,[some (sI t.2)]),by refine al ?_ (.group 1 (.seq (fun j=>([(0,.aa (.list (.list (.int .i64))) b),(3,dI 0)],[])) (.ch ?_) fun j=>(.seq (fun i=>([(0,.aa (.list (.list (.int .i64))) b),(3,dI i)],[])) (.seq (fun f=>([(0,.aa (.list (.list (.int .i64))) b),(3,dI 0),(9,.aa (.list (.list (.int .i64))) b),(10,dI f),(11,dI 0)],[])) (.ch ?_) fun f=>(.block (fun _=>true) (fun _=>rfl) (.loop (fun _=>rfl) (fun e=>([(0,.aa (.list (.list (.int .i64))) b),(3,dI e.1),(9,.aa (.list (.list (.int .i64))) b),(10,dI f),(11,dI e.2)],[])) ?_ fun e=> .map (.ch ?_)))) fun i=>(.seq (fun c=>([(0,.aa (.list (.list (.int .i64))) b),(6,.win 0 0 c.1)],[some (sI c.2)])) (.ch ?_) fun c=>(.seq (fun g=>([(6,.win 0 0 g.1)],[some (sI g.2)])) (.seq (fun h=>([(6,.win 0 0 c.1),(25,.aa (.list (.list (.int .i64))) b),(26,dI h),(27,dI 0)],[some (sI c.2)])) (.ch ?_) fun h=>(.block (fun _=>true) (fun _=>rfl) (.loop (fun _=>rfl) (fun d=>([(6,.win 0 0 d.1),(25,.aa (.list (.list (.int .i64))) b),(26,dI h),(27,dI d.2.1)],[some (sI d.2.2)])) ?_ fun d=> .map (.ch ?_)))) fun g=>(.ch ?_))))))<;>first|(intro k;simp only[Ie,If,sF,Ig,Ih,sG,Ii,ae];kernel_rfl)|kernel_rfl⟩
 |_,_=>aj
def Xn:af Tryz.prog:=ak sq Tryz.func282 Tryz.call282 [ahS] true [(1,.t [⟨3,49,false,none,none⟩])] fun
 |[.aa (.list (.int .i64)) e,.aa (.list (.int .i64)) f],[]=>⟨ad.a (yB e f) fun t=>(.ba [.win 0 0 t.1,dI t.2.1],[some (sI t.2.2)]),by refine al ?_ (.group 2 (.seq (fun d=>([(0,dL e),(1,dL f),(6,.ab 0),(7,dI 0)],[some (sI d)])) (.ch ?_) fun d=>(.seq (fun c=>([(0,dL c.1),(1,dL c.2.1),(6,.ab 0),(7,dI c.2.2.1)],[some (sI c.2.2.2)])) (.block (fun _=>true) (fun _=>rfl) (.loop (fun _=>rfl) (fun b=>([(0,dL b.1),(1,dL b.2.1),(6,.ab 0),(7,dI b.2.2.1)],[some (sI b.2.2.2)])) ?_ fun b=> .map (.ch ?_))) fun c=>(.ch ?_))))<;>first|(intro g;simp only[Ij,pD,Ik,ae];kernel_rfl)|kernel_rfl⟩
 |_,_=>aj
noncomputable def Xo:bj:=gI [(0,.t [⟨0,2,false,none,none⟩])] Tryz.f245
def kC (n:Nat):bd:=fun avs a=>
 match avs,a with
 |[.aa (.list (.int .i64)) b],[]=>⟨_,lN n b,fun t=>(.ba [dL t.1,dI t.2],[]),[],none⟩
 |_,_=>ad.no
noncomputable def Xp (n:Nat):Ctx:=⟨bH cQ,cO [(245,kC n),(282,(af.F Xn))],gL,0,false,[]⟩
theorem ahT (n:Nat) (a:List Int) {r:AV} {b:Heap} (h:(ad.mk _ (lN (n+1) a) (fun t=>(.ba [dL t.1,dI t.2],[])) [] none).run=some (r,b)):bY (Xp n) LL (ct Tryz.f245) Xo ⟨cu 44 0 [(0,dL a)],[]⟩ (dR (bH cQ) Tryz.f245.results.toList r b):=
 gG (Lk.go (N:=44) (n:=sH (lN n) a) (fin:=(fun t=>(ret,⟨cu 44 0 [(2,dL t.1),(3,dI t.2)],[]⟩))) (.ch fun c=>by simp only[sH,ae];kernel_rfl) (by kernel_rfl)) (by kernel_rfl) (fun t=>fF (by kernel_rfl)) h
theorem ahU (n:Nat) (a:Sound Tryz.prog 245 (kC n)):Sound Tryz.prog 245 (kC (n+1)):=by
 refine gH (C:=Xp n) (c:=ct Tryz.f245) (gF gK (be a (be (af.s Xn) dd)) (be Tryz.call245 (be Tryz.call282 dd)) (by kernel_rfl)) Tryz.func245 (by kernel_rfl) LL Xo ?_
 intro avs b r d h
 unfold kC at h
 split at h
 ·refine bY.cast ?_ ?_ ?_ (ahT n _ h)<;>kernel_rfl
 ·simp[ad.no,ad.run] at h
theorem ahV:Sound Tryz.prog 245 (kC 0):=by
 intro avs a r b h
 unfold kC at h
 split at h
 ·simp[lN,pE,ad.run] at h
 ·simp[ad.no,ad.run] at h
theorem Xq: ∀n,Sound Tryz.prog 245 (kC n)
 |0=>ahV
 |n+1=>by
  have a:=Xq n
  exact ahU n a
def Aj:bd:=fun avs a=>
 match avs,a with
 |[.aa (.list (.int .i64)) b],[]=>⟨_,yD b,fun t=>(.ba [dL t.1,dI t.2],[]),[],none⟩
 |_,_=>ad.no
theorem ahW:Sound Tryz.prog 245 Aj:=by
 have e:Aj=kC RR:=by
  funext avs H
  unfold Aj kC
  split<;>first|rfl|(simp only[yD])
 rw[e]
 exact(Xq RR)
def ahX:af Tryz.prog:=ak sq Tryz.func203 Tryz.call203 [Xm,⟨245,Aj,ahW,Tryz.call245⟩] false [] fun
 |[.aa (.list (.int .i64)) b],[]=>⟨ad.a (sJ b) fun t=>(dI t,[]),by refine al ?_ (.ch ?_)<;>first|(intro c;simp only[sJ,ae];kernel_rfl)|kernel_rfl⟩
 |_,_=>aj
def ahY:af Tryz.prog:=ak sq Tryz.func173 Tryz.call173 [Kd,ahX] false [] fun
 |[.aa (.list (.int .i64)) b],[]=>⟨ad.a (sK b) fun t=>(dI t,[]),by refine al ?_ (.ch ?_)<;>first|(intro c;simp only[sK,ae];kernel_rfl)|kernel_rfl⟩
 |_,_=>aj
def ahZ:af Tryz.prog:=ak sq Tryz.func132 Tryz.call132 [ahY,⟨125,hM,iF,Tryz.call125⟩] false [] fun
 |[.agg [.aa (.list (.int .i64)) b,.aa (.list (.list (.int .i64))) d]],[]=>⟨ad.a (yG b) fun t=>(dS t,[]),by refine al ?_ (.ch ?_)<;>first|(intro c;simp only[yG,ae];kernel_rfl)|kernel_rfl⟩
 |_,_=>aj
def ah0:af Tryz.prog:=ak sq Tryz.func204 Tryz.call204 [] false [] fun
 |[.agg [.aa (.int .i64) b,.aa (.int .i64) c]],[]=>⟨ad.a (Im b c) fun t=>(dI t,[]),by refine al ?_ (.ch ?_)<;>first|(intro d;simp only[Im,ae];kernel_rfl)|kernel_rfl⟩
 |_,_=>aj
def ah1:af Tryz.prog:=ak sq Tryz.func174 Tryz.call174 [gq,Ke,ah0] false [] fun
 |[.aa (.list (.int .i64)) e],[]=>⟨ad.a (yH e) fun t=>(dI t,[]),by refine al ?_ (.group 2 (.aK (fun _=>rfl) (fun f=>([(0,dL e),(3,dI 0)],[])) (.ch ?_) fun f=>(.seq (fun d=>([(3,dI d)],[])) (.seq (fun b=>([(3,dI 0),(10,.ab 0),(11,dI b.1),(12,dI 0)],[some (.seq (.pair (.int .i64) (.pair (.int .i64) .unit)) b.2)])) (.ch ?_) fun b=>(.block (fun _=>true) (fun _=>rfl) (.loop (fun _=>rfl) (fun c=>([(3,dI c.1),(10,.ab 0),(11,dI b.1),(12,dI c.2)],[some (.seq (.pair (.int .i64) (.pair (.int .i64) .unit)) b.2)])) ?_ fun c=> .map (.ch ?_)))) fun d=>(.ch ?_))))<;>first|(intro g;simp only[Io,Ip,sL,Uv,ae];kernel_rfl)|kernel_rfl⟩
 |_,_=>aj
def ah2:af Tryz.prog:=ak sq Tryz.func133 Tryz.call133 [ah1,⟨125,hM,iF,Tryz.call125⟩] false [] fun
 |[.agg [.aa (.list (.int .i64)) b,.aa (.list (.list (.int .i64))) d]],[]=>⟨ad.a (yJ b) fun t=>(dS t,[]),by refine al ?_ (.ch ?_)<;>first|(intro c;simp only[yJ,ae];kernel_rfl)|kernel_rfl⟩
 |_,_=>aj
def ah3:Go.Shelf.Ren:=⟨fun|21=>283|27=>294|28=>295|35=>299|39=>300|n=>n,fun|0=>0|3=>3|4=>4|22=>23|n=>n,fun n=>n⟩
theorem ah4:Lays2.n21 Tryz.prog ah3:={
 mixed:=by kernel_rfl
 f21:=Tryz.func283.trans (aR some (by kernel_rfl))
 f27:=Tryz.func294.trans (aR some (by kernel_rfl))
 f28:=Tryz.func295.trans (aR some (by kernel_rfl))
 f35:=Tryz.func299.trans (aR some (by kernel_rfl))
 f39:=Tryz.func300.trans (aR some (by kernel_rfl))
 t0:=Tryz.underlying0
 a0:=Tryz.isAgg0
 z0:=Tryz.sizeOf0
 v0:=Tryz.zeroValue0
 t3:=Tryz.underlying3
 a3:=Tryz.isAgg3
 z3:=Tryz.sizeOf3
 v3:=Tryz.zeroValue3
 t4:=Tryz.underlying4
 a4:=Tryz.isAgg4
 z4:=Tryz.sizeOf4
 v4:=Tryz.zeroValue4
 t22:=Tryz.underlying23
 a22:=Tryz.isAgg23
 z22:=Tryz.sizeOf23
 v22:=Tryz.zeroValue23
 i3:=by kernel_rfl}
def Xr:bd:=Do
theorem ah5:Sound Tryz.prog 283 Xr:=aez ah4
def ah6:af Tryz.prog:=ak sq Tryz.func247 Tryz.call247 [⟨283,Xr,ah5,Tryz.call283⟩] false [] fun
 |[.ab 0,.aa (.int .i64) a],[some (.seq (.int .i64) b)]=>⟨⟨_,yK a b,fun t=>(.ab 0,[some (sI t)]),[0],none⟩,by refine al ?_ (.group 1 (.seq (fun d=>([(0,.ab 0),(1,dI a),(5,dI d)],[some (sI b)])) (.ch ?_) fun d=>(.seq (fun e=>([(0,.ab 0),(1,dI a),(5,dI e)],[some (sI b)])) (.block (fun _=>true) (fun _=>rfl) (.loop (fun _=>rfl) (fun c=>([(0,.ab 0),(1,dI a),(5,dI c)],[some (sI b)])) ?_ fun c=> .map (.ch ?_))) fun e=>(.ch ?_))))<;>first|(intro f;simp only[Ir,pF,Is,ae];kernel_rfl)|kernel_rfl⟩
 |_,_=>aj
def ah7:af Tryz.prog:=ak sq Tryz.func206 Tryz.call206 [tL,kA,Ka,ah6] false [] fun
 |[.aa (.list (.int .i64)) f,.aa (.list (.int .u64)) c,.aa (.int .i64) g],[]=>⟨ad.a (yM f c g) fun t=>(.ab 0,[some (sI t)]),by refine al ?_ (.group 1 (.seq (fun h=>([(0,dL f),(1,.aa (.list (.int .u64)) c),(2,dI g),(7,.ab 0)],[some (sI ([]:List Int))])) (.ch ?_) fun h=>(.seq (fun e=>([(7,.ab 0)],[some (sI e)])) (.seq (fun b=>([(1,.aa (.list (.int .u64)) c),(7,.ab 0),(13,.ab 1),(14,dI b.1),(15,dI 0)],[some (sI ([]:List Int)),some (sI b.2)])) (.ch ?_) fun b=>(.block (fun _=>true) (fun _=>rfl) (.loop (fun _=>rfl) (fun d=>([(1,.aa (.list (.int .u64)) c),(7,.ab 0),(13,.ab 1),(14,dI b.1),(15,dI d.1)],[some (sI d.2),some (sI b.2)])) ?_ fun d=> .map (.ch ?_)))) fun e=>(.ch ?_))))<;>first|(intro i;simp only[It,Iu,sM,UE,ae];kernel_rfl)|kernel_rfl⟩
 |_,_=>aj
def ah8:af Tryz.prog:=ak sq Tryz.func246 Tryz.call246 [] false [] fun
 |[.aa (.list (.int .i64)) d,.aa (.int .u64) e,.aa .bool b],[]=>⟨ad.a (yO d e b) fun t=>(dI t,[]),by refine al ?_ (.group 2 (.seq (fun h=>([(0,dL d),(1,dW e),(2,dB b),(7,dI 0),(8,.ptr 0 0)],[some (sI (replicate 2 (0:Int)))])) (.ch ?_) fun h=>(.seq (fun f=>([(2,dB b),(7,dI f.1),(8,.ptr 0 0)],[some (sI f.2)])) (.seq (fun g=>([(1,dW e),(2,dB b),(7,dI 0),(8,.ptr 0 0),(12,dL d),(13,dI g),(14,dI 0)],[some (sI (replicate 2 (0:Int)))])) (.ch ?_) fun g=>(.block (fun _=>true) (fun _=>rfl) (.loop (fun _=>rfl) (fun c=>([(1,dW e),(2,dB b),(7,dI c.1),(8,.ptr 0 0),(12,dL d),(13,dI g),(14,dI c.2.1)],[some (sI c.2.2)])) ?_ fun c=> .map (.ch ?_)))) fun f=>(.ch ?_))))<;>first|(intro i;simp only[Iv,Iw,sN,Ix,ae];kernel_rfl)|kernel_rfl⟩
 |_,_=>aj
def ah9:af Tryz.prog:=ak sq Tryz.func205 Tryz.call205 [ah8] false [] fun
 |[.aa (.list (.int .i64)) b,.aa .bool c],[]=>⟨ad.a (yP b c) fun t=>(dI t,[]),by refine al ?_ (.group 1 (.seq (fun e=>([(0,dL b),(1,dB c),(5,dI e)],[])) (.ch ?_) fun e=>(.seq (fun g=>([(5,dI g)],[])) (.seq (fun f=>([(0,dL b),(1,dB c),(5,dI e),(12,dW f),(13,dW 0)],[])) (.ch ?_) fun f=>(.block (fun _=>true) (fun _=>rfl) (.loop (fun _=>rfl) (fun d=>([(0,dL b),(1,dB c),(5,dI d.1),(12,dW f),(13,dW d.2)],[])) ?_ fun d=> .map (.ch ?_)))) fun g=>(.ch ?_))))<;>first|(intro h;simp only[Iy,Iz,sO,IA,ae];kernel_rfl)|kernel_rfl⟩
 |_,_=>aj
def aia:af Tryz.prog:=ak sq Tryz.func175 Tryz.call175 [gq,tM,ah7,ah9] false [] fun
 |[.aa (.list (.int .i64)) b],[]=>⟨ad.a (yR b) fun t=>(dI t,[]),by refine al ?_ (.group 3 (.aK (fun _=>rfl) (fun c=>([(0,dL b),(3,.ab 0),(4,dI 0)],[some (.seq (.int .u64) c)])) (.ch ?_) fun c=>(.seq (fun f=>([(4,dI f)],[])) (.seq (fun e=>([(0,dL b),(3,.ab 0),(4,dI 0),(12,dL b),(13,dI e),(14,dI 0)],[some (.seq (.int .u64) c)])) (.ch ?_) fun e=>(.block (fun _=>true) (fun _=>rfl) (.loop (fun _=>rfl) (fun d=>([(0,dL b),(3,.ab 0),(4,dI d.1),(12,dL b),(13,dI e),(14,dI d.2)],[some (.seq (.int .u64) c)])) ?_ fun d=> .map (.ch ?_)))) fun f=>(.ch ?_))))<;>first|(intro g;simp only[IB,IC,sP,UR,ae];kernel_rfl)|kernel_rfl⟩
 |_,_=>aj
def aib:af Tryz.prog:=ak sq Tryz.func134 Tryz.call134 [aia,⟨125,hM,iF,Tryz.call125⟩] false [] fun
 |[.agg [.aa (.list (.int .i64)) b,.aa (.list (.list (.int .i64))) d]],[]=>⟨ad.a (yT b) fun t=>(dS t,[]),by refine al ?_ (.ch ?_)<;>first|(intro c;simp only[yT,ae];kernel_rfl)|kernel_rfl⟩
 |_,_=>aj
def aic:af Tryz.prog:=ak sq Tryz.func207 Tryz.call207 [] false [] fun
 |[.aa (.int .i64) b],[]=>⟨ad.a (sQ b) fun t=>(dI t,[]),by refine al ?_ (.ch ?_)<;>first|(intro c;simp only[sQ,ae];kernel_rfl)|kernel_rfl⟩
 |_,_=>aj
def aid:af Tryz.prog:=ak sq Tryz.func208 Tryz.call208 [] false [] fun
 |[.aa (.list (.pair (.int .i64) (.pair (.int .i64) .unit))) b],[]=>⟨ad.a (yU b) fun t=>(.agg [dI t.1,dI t.2.1,dI t.2.2.1,dI t.2.2.2.1,dI t.2.2.2.2.1,dI t.2.2.2.2.2.1,dI t.2.2.2.2.2.2.1,dI t.2.2.2.2.2.2.2.1,dI t.2.2.2.2.2.2.2.2],[some (sI ([t.1,t.2.1,t.2.2.1,t.2.2.2.1,t.2.2.2.2.1,t.2.2.2.2.2.1,t.2.2.2.2.2.2.1,t.2.2.2.2.2.2.2.1,t.2.2.2.2.2.2.2.2]))]),by refine fi (fun t=> [(2,.ptr 0 0)]) ?_ (.group 1 (.seq (fun f=>([(0,.aa (.list (.pair (.int .i64) (.pair (.int .i64) .unit))) b),(2,.ptr 0 0),(3,.ptr 1 0)],[some (sI (replicate 9 (0:Int))),some (sI (replicate 9 (0:Int)))])) (.ch ?_) fun f=>(.seq (fun e=>([(2,.ptr 0 0),(3,.ptr 1 0)],[some (sI (replicate 9 (0:Int))),some (sI e)])) (.seq (fun d=>([(2,.ptr 0 0),(3,.ptr 1 0),(6,.aa (.list (.pair (.int .i64) (.pair (.int .i64) .unit))) b),(7,dI d),(8,dI 0)],[some (sI (replicate 9 (0:Int))),some (sI (replicate 9 (0:Int)))])) (.ch ?_) fun d=>(.block (fun _=>true) (fun _=>rfl) (.loop (fun _=>rfl) (fun c=>([(2,.ptr 0 0),(3,.ptr 1 0),(6,.aa (.list (.pair (.int .i64) (.pair (.int .i64) .unit))) b),(7,dI d),(8,dI c.1)],[some (sI (replicate 9 (0:Int))),some (sI c.2)])) ?_ fun c=> .map (.ch ?_)))) fun e=>(.ch ?_))))<;>first|(intro g;simp only[IE,IF,sS,IG,ae];kernel_rfl)|kernel_rfl⟩
 |_,_=>aj
def aie:af Tryz.prog:=ak sq Tryz.func176 Tryz.call176 [gq,Ke,aic,aid] false [] fun
 |[.aa (.list (.int .i64)) f],[]=>⟨ad.a (yW f) fun t=>(dI t,[]),by refine al ?_ (.group 3 (.aK (fun _=>rfl) (fun c=>([(3,.ab 0),(4,dI c.1)],[some (.seq (.pair (.int .i64) (.pair (.int .i64) .unit)) c.2)])) (.ch ?_) fun c=>(.seq (fun e=>([(4,dI e)],[])) (.seq (fun b=>([(4,dI c.1),(16,.agg [dI b.1,dI b.2.1,dI b.2.2.1,dI b.2.2.2.1,dI b.2.2.2.2.1,dI b.2.2.2.2.2.1,dI b.2.2.2.2.2.2.1,dI b.2.2.2.2.2.2.2.1,dI b.2.2.2.2.2.2.2.2]),(17,dI 0)],[])) (.ch ?_) fun b=>(.block (fun _=>true) (fun _=>rfl) (.loop (fun _=>rfl) (fun d=>([(4,dI d.1),(16,.agg [dI b.1,dI b.2.1,dI b.2.2.1,dI b.2.2.2.1,dI b.2.2.2.2.1,dI b.2.2.2.2.2.1,dI b.2.2.2.2.2.2.1,dI b.2.2.2.2.2.2.2.1,dI b.2.2.2.2.2.2.2.2]),(17,dI d.2)],[])) ?_ fun d=> .map (.ch ?_)))) fun e=>(.ch ?_))))<;>first|(intro g;simp only[IH,yV,sV,II,ae];kernel_rfl)|kernel_rfl⟩
 |_,_=>aj
def aif:af Tryz.prog:=ak sq Tryz.func135 Tryz.call135 [aie,⟨125,hM,iF,Tryz.call125⟩] false [] fun
 |[.agg [.aa (.list (.int .i64)) b,.aa (.list (.list (.int .i64))) d]],[]=>⟨ad.a (yY b) fun t=>(dS t,[]),by refine al ?_ (.ch ?_)<;>first|(intro c;simp only[yY,ae];kernel_rfl)|kernel_rfl⟩
 |_,_=>aj
def aig:af Tryz.prog:=ak sq Tryz.func67 Tryz.call67 [] false [] fun
 |[.aa (.int .u64) b],[]=>⟨ad.a (IK b) fun t=>(dB t,[]),by refine al ?_ (.ch ?_)<;>first|(intro c;simp only[IK,ae];kernel_rfl)|kernel_rfl⟩
 |_,_=>aj
def Ak:af Tryz.prog:=ak sq Tryz.func19 Tryz.call19 [gq,tM,aig] false [] fun
 |[.aa (.list (.int .i64)) d],[]=>⟨ad.a (yZ d) fun t=>(dB t,[]),by refine al ?_ (.group 1 (.aK (fun _=>rfl) (fun e=>([(0,dL d)],[])) (.ch ?_) fun e=>(.aK (fun _=>rfl) (fun f=>([],[])) (.seq (fun b=>([(9,.ab 0),(10,dI b.1),(11,dI 0)],[some (.seq (.int .u64) b.2)])) (.ch ?_) fun b=>(.block (Sum.elim (fun _=>false) (fun _=>true)) (bf (fun _=>rfl) (fun _=>rfl)) (.loop (bf (fun _=>rfl) (fun _=>rfl)) (fun c=>([(9,.ab 0),(10,dI b.1),(11,dI c)],[some (.seq (.int .u64) b.2)])) ?_ fun c=> .map (.ch ?_)))) fun f=>(.ch ?_))))<;>first|(intro g;simp only[IM,IN,pH,IP,ae];kernel_rfl)|kernel_rfl⟩
 |_,_=>aj
def Xs:af Tryz.prog:=ak sq Tryz.func177 Tryz.call177 [] false [] fun
 |[.aa .bool b],[]=>⟨ad.a (y0 b) fun t=>(dS t,[]),by refine al ?_ (.ch ?_)<;>first|(intro c;simp only[y0,ae];kernel_rfl)|kernel_rfl⟩
 |_,_=>aj
def aih:af Tryz.prog:=ak sq Tryz.func136 Tryz.call136 [Ak,Xs] false [] fun
 |[.agg [.aa (.list (.int .i64)) b,.aa (.list (.list (.int .i64))) d]],[]=>⟨ad.a (y1 b) fun t=>(dS t,[]),by refine al ?_ (.ch ?_)<;>first|(intro c;simp only[y1,ae];kernel_rfl)|kernel_rfl⟩
 |_,_=>aj
def aii:af Tryz.prog:=ak sq Tryz.func251 Tryz.call251 [Xh,Xi] false [] fun
 |[.aa (.int .i64) b,.aa (.int .i64) c,.aa (.int .i64) d,.aa (.int .i64) e],[]=>⟨ad.a (y2 b c d e) fun t=>(dB t,[]),by refine al ?_ (.ch ?_)<;>first|(intro f;simp only[y2,ae];kernel_rfl)|kernel_rfl⟩
 |_,_=>aj
def aij:af Tryz.prog:=ak sq Tryz.func250 Tryz.call250 [aii] false [] fun
 |[.aa (.int .i64) d,.aa (.int .i64) e,.ptr 0 0,.ptr 1 0],[some (.box [.aa (.int .i64) b]),some (.box [.aa (.int .i64) c])]=>⟨ad.a (y3 d e b c) fun t=>(dB t,[some (.box [dI b]),some (.box [dI c])]),by refine al ?_ (.ch ?_)<;>first|(intro f;simp only[y3,ae];kernel_rfl)|kernel_rfl⟩
 |_,_=>aj
def aik:af Tryz.prog:=ak sq Tryz.func248 Tryz.call248 [aij] false [] fun
 |[.aa (.list (.int .i64)) b,.fn 250 [] [.ptr 0 0,.ptr 1 0]],[some (.box [.aa (.int .i64) c]),some (.box [.aa (.int .i64) d])]=>⟨ad.a (Vc b c d) fun t=>(dI t,[some (.box [dI c]),some (.box [dI d])]),by refine al ?_ (.group 1 (.seq (fun k=>([(0,dL b),(1,.fn 250 [] [.ptr 0 0,.ptr 1 0]),(5,dI 0)],[some (.box [dI c]),some (.box [dI d])])) (.ch ?_) fun k=>(.seq (fun i=>([(5,dI i)],[some (.box [dI c]),some (.box [dI d])])) (.seq (fun f=>([(0,dL b),(1,.fn 250 [] [.ptr 0 0,.ptr 1 0]),(5,dI 0),(10,dL b),(11,dI f),(12,dI 0)],[some (.box [dI c]),some (.box [dI d])])) (.ch ?_) fun f=>(.block (fun _=>true) (fun _=>rfl) (.loop (fun _=>rfl) (fun e=>([(0,dL b),(1,.fn 250 [] [.ptr 0 0,.ptr 1 0]),(5,dI e.1),(10,dL b),(11,dI f),(12,dI e.2)],[some (.box [dI c]),some (.box [dI d])])) ?_ fun e=> .map (.group 1 (.aK (fun _=>rfl) (fun l=>([(0,dL b),(1,.fn 250 [] [.ptr 0 0,.ptr 1 0]),(5,dI e.1),(10,dL b),(11,dI f),(12,dI e.2)],[some (.box [dI c]),some (.box [dI d])])) (.ch ?_) fun l=>(.map (.seq (fun j=>([(0,dL b),(1,.fn 250 [] [.ptr 0 0,.ptr 1 0]),(5,dI j),(10,dL b),(11,dI f),(12,dI e.2)],[some (.box [dI c]),some (.box [dI d])])) (.block (fun _=>false) (fun _=>rfl) (.group 1 (.seq (fun g=>([(0,dL b),(1,.fn 250 [] [.ptr 0 0,.ptr 1 0]),(5,dI e.1),(7,dI g.1),(10,dL b),(11,dI f),(12,dI e.2),(20,dL g.2.1),(21,dI g.2.2),(22,dI 0)],[some (.box [dI c]),some (.box [dI d])])) (.ch ?_) fun g=>(.block (fun _=>true) (fun _=>rfl) (.loop (fun _=>rfl) (fun h=>([(0,dL b),(1,.fn 250 [] [.ptr 0 0,.ptr 1 0]),(5,dI h.1),(7,dI g.1),(10,dL b),(11,dI f),(12,dI e.2),(20,dL g.2.1),(21,dI g.2.2),(22,dI h.2)],[some (.box [dI c]),some (.box [dI d])])) ?_ fun h=> .map (.ch ?_)))))) fun j=>(.map (.ch ?_))))))))) fun i=>(.ch ?_))))<;>first|(intro m;simp only[U5,U6,U7,U8,U9,Va,Vb,ae];kernel_rfl)|kernel_rfl⟩
 |_,_=>aj
def ail:af Tryz.prog:=ak sq Tryz.func249 Tryz.call249 [aik] false [] fun
 |[.aa (.int .i64) c,.aa (.int .i64) d,.ptr 0 0],[some (.box [.ab 1]),some (.seq (.int .i64) b)]=>⟨ad.a (sX c d b) fun t=>(dB t,[some (.box [.ab 1]),some (sI b)]),by refine al ?_ (.ch ?_)<;>first|(intro e;simp only[sX,ae];kernel_rfl)|kernel_rfl⟩
 |_,_=>aj
def aim:af Tryz.prog:=ak sq Tryz.func248 Tryz.call248 [ail] false [] fun
 |[.aa (.list (.int .i64)) b,.fn 249 [] [.ptr 0 0]],[some (.box [.ab 1]),some (.seq (.int .i64) c)]=>⟨ad.a (Vk b c) fun t=>(dI t,[some (.box [.ab 1]),some (sI c)]),by refine al ?_ (.group 1 (.seq (fun j=>([(0,dL b),(1,.fn 249 [] [.ptr 0 0]),(5,dI 0)],[some (.box [.ab 1]),some (sI c)])) (.ch ?_) fun j=>(.seq (fun h=>([(5,dI h)],[some (.box [.ab 1]),some (sI c)])) (.seq (fun e=>([(0,dL b),(1,.fn 249 [] [.ptr 0 0]),(5,dI 0),(10,dL b),(11,dI e),(12,dI 0)],[some (.box [.ab 1]),some (sI c)])) (.ch ?_) fun e=>(.block (fun _=>true) (fun _=>rfl) (.loop (fun _=>rfl) (fun d=>([(0,dL b),(1,.fn 249 [] [.ptr 0 0]),(5,dI d.1),(10,dL b),(11,dI e),(12,dI d.2)],[some (.box [.ab 1]),some (sI c)])) ?_ fun d=> .map (.group 1 (.aK (fun _=>rfl) (fun k=>([(0,dL b),(1,.fn 249 [] [.ptr 0 0]),(5,dI d.1),(10,dL b),(11,dI e),(12,dI d.2)],[some (.box [.ab 1]),some (sI c)])) (.ch ?_) fun k=>(.map (.seq (fun i=>([(0,dL b),(1,.fn 249 [] [.ptr 0 0]),(5,dI i),(10,dL b),(11,dI e),(12,dI d.2)],[some (.box [.ab 1]),some (sI c)])) (.block (fun _=>false) (fun _=>rfl) (.group 1 (.seq (fun f=>([(0,dL b),(1,.fn 249 [] [.ptr 0 0]),(5,dI d.1),(7,dI f.1),(10,dL b),(11,dI e),(12,dI d.2),(20,dL f.2.1),(21,dI f.2.2),(22,dI 0)],[some (.box [.ab 1]),some (sI c)])) (.ch ?_) fun f=>(.block (fun _=>true) (fun _=>rfl) (.loop (fun _=>rfl) (fun g=>([(0,dL b),(1,.fn 249 [] [.ptr 0 0]),(5,dI g.1),(7,dI f.1),(10,dL b),(11,dI e),(12,dI d.2),(20,dL f.2.1),(21,dI f.2.2),(22,dI g.2)],[some (.box [.ab 1]),some (sI c)])) ?_ fun g=> .map (.ch ?_)))))) fun i=>(.map (.ch ?_))))))))) fun h=>(.ch ?_))))<;>first|(intro l;simp only[Vd,Ve,Vf,Vg,Vh,Vi,Vj,ae];kernel_rfl)|kernel_rfl⟩
 |_,_=>aj
def ain:af Tryz.prog:=ak sq Tryz.func210 Tryz.call210 [kA,aim] false [] fun
 |[.aa (.int .u64) b,.aa (.int .u64) c],[]=>⟨ad.a (sZ b c) fun t=>(dB t,[]),by refine al ?_ (.ch ?_)<;>first|(intro d;simp only[sZ,ae];kernel_rfl)|kernel_rfl⟩
 |_,_=>aj
def aio:af Tryz.prog:=ak sq Tryz.func209 Tryz.call209 [ain] false [] fun
 |[.aa (.list (.int .u64)) b,.fn 210 [] []],[]=>⟨ad.a (Vs b) fun t=>(dI t,[]),by refine al ?_ (.group 1 (.seq (fun i=>([(0,.aa (.list (.int .u64)) b),(1,.fn 210 [] []),(5,dI 0)],[])) (.ch ?_) fun i=>(.seq (fun g=>([(5,dI g)],[])) (.seq (fun d=>([(0,.aa (.list (.int .u64)) b),(1,.fn 210 [] []),(5,dI 0),(10,.aa (.list (.int .u64)) b),(11,dI d),(12,dI 0)],[])) (.ch ?_) fun d=>(.block (fun _=>true) (fun _=>rfl) (.loop (fun _=>rfl) (fun c=>([(0,.aa (.list (.int .u64)) b),(1,.fn 210 [] []),(5,dI c.1),(10,.aa (.list (.int .u64)) b),(11,dI d),(12,dI c.2)],[])) ?_ fun c=> .map (.group 1 (.aK (fun _=>rfl) (fun j=>([(0,.aa (.list (.int .u64)) b),(1,.fn 210 [] []),(5,dI c.1),(10,.aa (.list (.int .u64)) b),(11,dI d),(12,dI c.2)],[])) (.ch ?_) fun j=>(.map (.seq (fun h=>([(0,.aa (.list (.int .u64)) b),(1,.fn 210 [] []),(5,dI h),(10,.aa (.list (.int .u64)) b),(11,dI d),(12,dI c.2)],[])) (.block (fun _=>false) (fun _=>rfl) (.group 1 (.seq (fun e=>([(0,.aa (.list (.int .u64)) b),(1,.fn 210 [] []),(5,dI c.1),(7,dW e.1),(10,.aa (.list (.int .u64)) b),(11,dI d),(12,dI c.2),(20,.aa (.list (.int .u64)) e.2.1),(21,dI e.2.2),(22,dI 0)],[])) (.ch ?_) fun e=>(.block (fun _=>true) (fun _=>rfl) (.loop (fun _=>rfl) (fun f=>([(0,.aa (.list (.int .u64)) b),(1,.fn 210 [] []),(5,dI f.1),(7,dW e.1),(10,.aa (.list (.int .u64)) b),(11,dI d),(12,dI c.2),(20,.aa (.list (.int .u64)) e.2.1),(21,dI e.2.2),(22,dI f.2)],[])) ?_ fun f=> .map (.ch ?_)))))) fun h=>(.map (.ch ?_))))))))) fun g=>(.ch ?_))))<;>first|(intro k;simp only[Vl,Vm,Vn,Vo,Vp,Vq,Vr,ae];kernel_rfl)|kernel_rfl⟩
 |_,_=>aj
def aip:af Tryz.prog:=ak sq Tryz.func178 Tryz.call178 [gq,tM,aio] false [] fun
 |[.aa (.list (.int .i64)) b],[]=>⟨ad.a (s1 b) fun t=>(dB t,[]),by refine al ?_ (.ch ?_)<;>first|(intro c;simp only[s1,ae];kernel_rfl)|kernel_rfl⟩
 |_,_=>aj
def aiq:af Tryz.prog:=ak sq Tryz.func137 Tryz.call137 [aip,Xs] false [] fun
 |[.agg [.aa (.list (.int .i64)) b,.aa (.list (.list (.int .i64))) d]],[]=>⟨ad.a (y5 b) fun t=>(dS t,[]),by refine al ?_ (.ch ?_)<;>first|(intro c;simp only[y5,ae];kernel_rfl)|kernel_rfl⟩
 |_,_=>aj
def Xt:af Tryz.prog:=ak sq Tryz.func211 Tryz.call211 [] false [] fun
 |[.aa (.int .i64) b],[]=>⟨ad.a (s2 b) fun t=>(.ptr 0 0,[some (.box [.ab 1,.aM,dI 0,dI 0]),some (sI t)]),by refine al ?_ (.ch ?_)<;>first|(intro c;simp only[s2,ae];kernel_rfl)|kernel_rfl⟩
 |_,_=>aj
def Xu:bd:=rc [(.int .u8 83,.func 252),(.int .u8 76,.func 253),(.int .u8 82,.func 254)]
theorem air:Sound Tryz.prog 212 Xu:=
 Db (mt:=170) (kt:=5) (et:=174) (d:= .int .u8) Tryz.func212 (by kernel_rfl) (by kernel_rfl) (by kernel_rfl) (by kernel_rfl) (by kernel_rfl)
def ais:af Tryz.prog:=ak sq Tryz.func213 Tryz.call213 [] false [] fun
 |[.ptr 0 0,.aa (.list (.int .i64)) b],[some (.box [.ab 1,.aM,.aa (.int .i64) c,.aa (.int .i64) d]),some (.seq (.int .i64) e)]=>⟨ad.a (y6) fun t=>(.fn 256 [] [.ptr 2 0,.ptr 3 0],[some (.box [.ab 1,.aM,dI c,dI d]),some (sI e),some (.box [.ptr 0 0]),some (.box [.fn 255 [] [.ptr 4 0,.ptr 2 0]]),some (.box [dL b])]),by refine al ?_ (.ch ?_)<;>first|(intro f;simp only[y6,ae];kernel_rfl)|kernel_rfl⟩
 |_,_=>aj
def Kg:af Tryz.prog:=ak sq Tryz.func257 Tryz.call257 [] false [] fun
 |[.ptr 0 0],[some (.box [.ab 1,.ab 2,.aa (.int .i64) c,.aa (.int .i64) d]),some (.seq (.int .i64) e),some (.seq (.int .i64) b)]=>⟨ad.a (pI b) fun t=>(.ba [dI t.1,dI t.2.1,dB t.2.2],[some (.box [.ab 1,.ab 2,dI c,dI d]),some (sI e),some (sI b)]),by refine al ?_ (.ch ?_)<;>first|(intro f;simp only[pI,ae];kernel_rfl)|kernel_rfl⟩
 |_,_=>aj
def ait:af Tryz.prog:=ak sq Tryz.func255 Tryz.call255 [tL] false [(1,.d [10,16] [0,1,2,3,4,5,6,7,8,9,11,12,13,14,15,10,16,17,18,19])] fun
 |[.aa (.int .i64) e,.aa (.int .i64) f,.ptr 0 0,.ptr 1 0],[some (.box [.aa (.list (.int .i64)) b]),some (.box [.ptr 2 0]),some (.box [.ab 3,.ab 4,.aa (.int .i64) g,.aa (.int .i64) h]),some (.seq (.int .i64) c),some (.seq (.int .i64) i)]=>⟨ad.a (y7 e f b c) fun t=>(dB t,[some (.box [dL b]),some (.box [.ptr 2 0]),some (.box [.ab 3,.ab 4,dI g,dI h]),some (sI c),some (sI i)]),by refine al ?_ (.ch ?_)<;>first|(intro j;simp only[y7,ae];kernel_rfl)|kernel_rfl⟩
 |_,_=>aj
def aiu:af Tryz.prog:=ak sq Tryz.func256 Tryz.call256 [Kg,ait] false [] fun
 |[.ptr 0 0,.ptr 1 0],[some (.box [.ptr 2 0]),some (.box [.fn 255 [] [.ptr 3 0,.ptr 0 0]]),some (.box [.ab 4,.ab 5,.aa (.int .i64) b,.aa (.int .i64) c]),some (.box [.aa (.list (.int .i64)) d]),some (.seq (.int .i64) e),some (.seq (.int .i64) f)]=>⟨ad.a (y8 b c d e f) fun t=>(dU t,[some (.box [.ptr 2 0]),some (.box [.fn 255 [] [.ptr 3 0,.ptr 0 0]]),some (.box [.ab 4,.ab 5,dI b,dI c]),some (.box [dL d]),some (sI e),some (sI f)]),by refine al ?_ (.ch ?_)<;>first|(intro g;simp only[y8,ae];kernel_rfl)|kernel_rfl⟩
 |_,_=>aj
def aiv:af Tryz.prog:=ak sq Tryz.func252 Tryz.call252 [] false [] fun
 |[.ptr 0 0],[some (.box [.ab 1,.ab 2,.aa (.int .i64) b,.aa (.int .i64) c]),some (.seq (.int .i64) a),some (.seq (.int .i64) d)]=>⟨⟨_,y9 b c a d,fun t=>(dB t.1,[some (.box [.ab 1,.ab 2,dI t.2.1,dI t.2.2.1]),some (sI a),some (sI t.2.2.2)]),[2],none⟩,by refine al ?_ (.ch ?_)<;>first|(intro e;simp only[y9,ae];kernel_rfl)|kernel_rfl⟩
 |_,_=>aj
def Xv:af Tryz.prog:=ak sq Tryz.func284 Tryz.call284 [] false [] fun
 |[.ptr 0 0,.aa (.int .i64) c,.aa (.int .i64) d],[some (.box [.ab 1,.ab 2,.aa (.int .i64) a,.aa (.int .i64) b]),some (.seq (.int .i64) e),some (.seq (.int .i64) f)]=>⟨⟨_,s5 c d a b e f,fun t=>(.ba [],[some (.box [.ab 1,.ab 2,dI a,dI b]),some (sI t.1),some (sI t.2)]),[2],none⟩,Dk (by kernel_rfl) fun r g h=>vJ (Lk.go (N:=31) (n:=za c d e f) (fin:=(fun t=>(normal,⟨cu 31 0 [],[some (.box [.ab 1,.ab 2,dI a,dI b]),some (sI t.1),some (sI t.2)]⟩))) (.ch fun i=>by simp only[za,ae];kernel_rfl) (by kernel_rfl)) (fun t=>(t.1,t.2)) (by kernel_rfl) (by
   rintro t
   ·exact fF (by kernel_rfl)) h⟩
 |_,_=>aj
def aiw:af Tryz.prog:=ak sq Tryz.func253 Tryz.call253 [Kg,Xv] false [] fun
 |[.ptr 0 0],[some (.box [.ab 1,.ab 2,.aa (.int .i64) a,.aa (.int .i64) b]),some (.seq (.int .i64) c),some (.seq (.int .i64) d)]=>⟨⟨_,zb a b c d,fun t=>(dB t.1,[some (.box [.ab 1,.ab 2,dI a,dI b]),some (sI t.2.1),some (sI t.2.2)]),[2],none⟩,by refine al ?_ (.ch ?_)<;>first|(intro e;simp only[zb,ae];kernel_rfl)|kernel_rfl⟩
 |_,_=>aj
def aix:af Tryz.prog:=ak sq Tryz.func254 Tryz.call254 [Kg,Xv] false [] fun
 |[.ptr 0 0],[some (.box [.ab 1,.ab 2,.aa (.int .i64) a,.aa (.int .i64) b]),some (.seq (.int .i64) c),some (.seq (.int .i64) d)]=>⟨⟨_,zc a b c d,fun t=>(dB t.1,[some (.box [.ab 1,.ab 2,dI a,dI b]),some (sI t.2.1),some (sI t.2.2)]),[2],none⟩,by refine al ?_ (.ch ?_)<;>first|(intro e;simp only[zc,ae];kernel_rfl)|kernel_rfl⟩
 |_,_=>aj
def aiy:af Tryz.prog:=ak sq Tryz.func179 Tryz.call179 [Ak,Xt,⟨212,Xu,air,Tryz.call212⟩,ais,aiu,aiv,aiw,aix] false [(1,.t [⟨1,37,false,none,none⟩]),(9,.t [⟨5,4,false,some 1,some ((.int .i64))⟩])] fun
 |[.aa (.list (.int .i64)) c],[]=>⟨ad.a (zd c) fun t=>(.ba [dS t.1,dB t.2],[]),by refine al ?_ (.group 4 (.aK (fun _=>rfl) (fun d=>([(0,dL c),(4,.ptr 0 0),(5,.gm [(.int .u8 83,.func 252),(.int .u8 76,.func 253),(.int .u8 82,.func 254)]),(6,.fn 256 [] [.ptr 1 0,.ptr 2 0]),(7,.ab 3)],[some (.box [.ab 4,.aM,dI 0,dI 0]),some (.box [.ptr 0 0]),some (.box [.fn 255 [] [.ptr 5 0,.ptr 1 0]]),some (sU ([]:List Int)),some (sI d),some (.box [dL c])])) (.ch ?_) fun d=>(.seq (fun f=>([(7,.ab 0)],[some (sU f)])) (.seq (fun e=>([(4,.ptr 0 0),(5,.gm [(.int .u8 83,.func 252),(.int .u8 76,.func 253),(.int .u8 82,.func 254)]),(6,.fn 256 [] [.ptr 1 0,.ptr 2 0]),(7,.ab 3),(22,dI e),(23,dI 0)],[some (.box [.ab 4,.ab 5,dI 0,dI 0]),some (.box [.ptr 0 0]),some (.box [.fn 255 [] [.ptr 6 0,.ptr 1 0]]),some (sU ([]:List Int)),some (sI d),some (sI ([]:List Int)),some (.box [dL c])])) (.ch ?_) fun e=>(.block (fun _=>true) (fun _=>rfl) (.loop (fun _=>rfl) (fun b=>([(4,.ptr 0 0),(5,.gm [(.int .u8 83,.func 252),(.int .u8 76,.func 253),(.int .u8 82,.func 254)]),(6,.fn 256 [] [.ptr 1 0,.ptr 2 0]),(7,.ab 3),(22,dI e),(23,dI b.1)],[some (.box [.ab 4,.ab 5,dI b.2.1,dI b.2.2.1]),some (.box [.ptr 0 0]),some (.box [.fn 255 [] [.ptr 6 0,.ptr 1 0]]),some (sU b.2.2.2.1),some (sI b.2.2.2.2.1),some (sI b.2.2.2.2.2),some (.box [dL c])])) ?_ fun b=> .map (.ch ?_)))) fun f=>(.ch ?_))))<;>first|(intro g;simp only[I3,I4,pJ,I5,ae];kernel_rfl)|kernel_rfl⟩
 |_,_=>aj
def Al:af Tryz.prog:=ak sq Tryz.func142 Tryz.call142 [] false [] fun
 |[.aa .str b],[]=>⟨ad.a (s6 b) fun t=>(dS t,[]),by refine al ?_ (.ch ?_)<;>first|(intro c;simp only[s6,ae];kernel_rfl)|kernel_rfl⟩
 |_,_=>aj
def aiz:af Tryz.prog:=ak sq Tryz.func138 Tryz.call138 [aiy,Al] false [] fun
 |[.agg [.aa (.list (.int .i64)) b,.aa (.list (.list (.int .i64))) d]],[]=>⟨ad.a (s7 b) fun t=>(dS t,[]),by refine al ?_ (.ch ?_)<;>first|(intro c;simp only[s7,ae];kernel_rfl)|kernel_rfl⟩
 |_,_=>aj
def aiA:af Tryz.prog:=ak sq Tryz.func214 Tryz.call214 [Xt] false [] fun
 |[.aa (.int .i64) b],[]=>⟨ad.a (zg b) fun t=>(.ptr 0 0,[some (.box [.ab 1,.aM,dI 0,dI 0,dW 0]),some (sI t)]),by refine al ?_ (.ch ?_)<;>first|(intro c;simp only[zg,ae];kernel_rfl)|kernel_rfl⟩
 |_,_=>aj
def Xw:bd:=rc [(.int .u8 83,.methodOf 175 "loop.example/headtrees/impl.putNext"),(.int .u8 76,.func 258),(.int .u8 82,.func 259),(.int .u8 68,.func 260)]
theorem aiB:Sound Tryz.prog 215 Xw:=
 Db (mt:=177) (kt:=5) (et:=184) (d:= .int .u8) Tryz.func215 (by kernel_rfl) (by kernel_rfl) (by kernel_rfl) (by kernel_rfl) (by kernel_rfl)
def Kh:af Tryz.prog:=ak sq Tryz.func261 Tryz.call261 [] false [] fun
 |[.ptr 0 0],[some (.box [.ab 1,.win 2 b c,.aa (.int .i64) d,.aa (.int .i64) g,.aa (.int .u64) h]),some (.seq (.int .i64) e),some (.seq (.int .i64) f)]=>⟨ad.a (s8 b c d e f) fun t=>(.ba [dI t.1,dI t.2.1,dB t.2.2],[some (.box [.ab 1,.win 2 b c,dI d,dI g,dW h]),some (sI e),some (sI f)]),by refine al ?_ (.ch ?_)<;>first|(intro i;simp only[s8,ae];kernel_rfl)|kernel_rfl⟩
 |_,_=>aj
def aiC:af Tryz.prog:=ak sq Tryz.func289 Tryz.call289 [] false [] fun
 |[.aa (.int .i64) d,.ptr 0 0,.ptr 1 0],[some (.box [.aa (.list (.int .i64)) b]),some (.box [.aa (.int .i64) c])]=>⟨ad.a (s9 d b c) fun t=>(dB t,[some (.box [dL b]),some (.box [dI c])]),by refine al ?_ (.ch ?_)<;>first|(intro e;simp only[s9,ae];kernel_rfl)|kernel_rfl⟩
 |_,_=>aj
def aiD:af Tryz.prog:=ak sq Tryz.func297 Tryz.call297 [aiC] false [] fun
 |[.aa (.list (.int .i64)) d,.fn 289 [] [.ptr 0 0,.ptr 1 0]],[some (.box [.aa (.list (.int .i64)) b]),some (.box [.aa (.int .i64) c])]=>⟨ad.a (zi d b c) fun t=>(dI t,[some (.box [dL b]),some (.box [dI c])]),by refine al ?_ (.seq (fun g=>([(0,dL d),(1,.fn 289 [] [.ptr 0 0,.ptr 1 0])],[some (.box [dL b]),some (.box [dI c])])) (.ch ?_) fun g=>(.aK (fun _=>rfl) (fun h=>([],[some (.box [dL b]),some (.box [dI c])])) (.seq (fun e=>([(0,dL d),(1,.fn 289 [] [.ptr 0 0,.ptr 1 0]),(7,dI e),(8,dI 0)],[some (.box [dL b]),some (.box [dI c])])) (.ch ?_) fun e=>(.block (Sum.elim (fun _=>false) (fun _=>true)) (bf (fun _=>rfl) (fun _=>rfl)) (.loop (bf (fun _=>rfl) (fun _=>rfl)) (fun f=>([(0,dL d),(1,.fn 289 [] [.ptr 0 0,.ptr 1 0]),(7,dI e),(8,dI f)],[some (.box [dL b]),some (.box [dI c])])) ?_ fun f=> .map (.ch ?_)))) fun h=>(.ch ?_)))<;>first|(intro i;simp only[I8,I9,ta,VA,ae];kernel_rfl)|kernel_rfl⟩
 |_,_=>aj
def aiE:af Tryz.prog:=ak sq Tryz.func288 Tryz.call288 [aiD] false [] fun
 |[.aa (.list (.int .i64)) d,.fn 289 [] [.ptr 0 0,.ptr 1 0]],[some (.box [.aa (.list (.int .i64)) b]),some (.box [.aa (.int .i64) c])]=>⟨ad.a (zj d b c) fun t=>(dB t,[some (.box [dL b]),some (.box [dI c])]),by refine al ?_ (.ch ?_)<;>first|(intro e;simp only[zj,ae];kernel_rfl)|kernel_rfl⟩
 |_,_=>aj
def aiF:af Tryz.prog:=ak sq Tryz.func262 Tryz.call262 [af.forget aiE] false [] fun
 |[.ptr 0 0,.aa (.list (.int .i64)) e,.aa (.int .i64) f],[some (.box [.ab 1,.win 2 b c,.aa (.int .i64) g,.aa (.int .i64) h,.aa (.int .u64) i]),some (.seq (.int .i64) j),some (.seq (.int .i64) d)]=>⟨ad.a (tb e f b c d) fun t=>(dB t,[some (.box [.ab 1,.win 2 b c,dI g,dI h,dW i]),some (sI j),some (sI d)]),by refine al ?_ (.ch ?_)<;>first|(intro k;simp only[tb,ae];kernel_rfl)|kernel_rfl⟩
 |_,_=>aj
def aiG:af Tryz.prog:=ak sq Tryz.func216 Tryz.call216 [Kh,aiF] false [] fun
 |[.ptr 0 0,.aa (.list (.int .i64)) i],[some (.box [.ab 1,.win 2 b c,.aa (.int .i64) d,.aa (.int .i64) e,.aa (.int .u64) f]),some (.seq (.int .i64) g),some (.seq (.int .i64) h)]=>⟨ad.a (tc i b c d e f g h) fun t=>(dU t,[some (.box [.ab 1,.win 2 b c,dI d,dI e,dW f]),some (sI g),some (sI h)]),by refine al ?_ (.ch ?_)<;>first|(intro j;simp only[tc,ae];kernel_rfl)|kernel_rfl⟩
 |_,_=>aj
def Xx:af Tryz.prog:=ak sq Tryz.func252 Tryz.call252 [] false [(0,.t [⟨0,0,true,some 1,none⟩]),(0,.p [0])] fun
 |[.ptr 0 0],[some (.box [.ab 1,.win 2 b c,.aa (.int .i64) d,.aa (.int .i64) e,.aa (.int .u64) f]),some (.seq (.int .i64) a),some (.seq (.int .i64) g)]=>⟨⟨_,td b c d e a g,fun t=>(dB t.1,[some (.box [.ab 1,.win 2 t.2.1 t.2.2.1,dI t.2.2.2.1,dI t.2.2.2.2.1,dW f]),some (sI a),some (sI t.2.2.2.2.2)]),[2],none⟩,by refine fi (fun t=> [(0,.ptr 0 0),(2,dB t.1)]) ?_ (.ch ?_)<;>first|(intro h;simp only[td,ae];kernel_rfl)|kernel_rfl⟩
 |_,_=>aj
def aiH:af Tryz.prog:=ak sq Tryz.func296 Tryz.call296 [] false [] fun
 |[.aa (.int .u64) b,.aa (.int .u64) c],[]=>⟨ad.a (Jc b c) fun t=>(dB t,[]),by refine al ?_ (.ch ?_)<;>first|(intro d;simp only[Jc,ae];kernel_rfl)|kernel_rfl⟩
 |_,_=>aj
def Xy:af Tryz.prog:=ak sq Tryz.func285 Tryz.call285 [pX,aiH] false [(1,.d [5,6] [])] fun
 |[.ptr 0 0,.aa (.int .i64) c],[some (.box [.ab 1,.win 2 e f,.aa (.int .i64) g,.aa (.int .i64) h,.aa (.int .u64) b]),some (.seq (.int .i64) i),some (.seq (.int .i64) j)]=>⟨ad.a (te c b) fun t=>(dB t,[some (.box [.ab 1,.win 2 e f,dI g,dI h,dW b]),some (sI i),some (sI j)]),by refine al ?_ (.ch ?_)<;>first|(intro k;simp only[te,ae];kernel_rfl)|kernel_rfl⟩
 |_,_=>aj
def Xz:af Tryz.prog:=ak sq Tryz.func286 Tryz.call286 [pX] false [(0,.d [5] [])] fun
 |[.ptr 0 0,.aa (.int .i64) g,.aa (.int .i64) i],[some (.box [.ab 1,.win 2 a b,.aa (.int .i64) c,.aa (.int .i64) e,.aa (.int .u64) j]),some (.seq (.int .i64) k),some (.seq (.int .i64) f)]=>⟨⟨_,pM g i a b c e j k f,fun t=>(.ba [],[some (.box [.ab 1,.win 2 a b,dI c,dI e,dW t.1]),some (sI t.2),some (sI f)]),[],none⟩,Dk (by kernel_rfl) fun r l h=>vJ (Lk.go (N:=24) (n:=tg g i j k) (fin:=(fun t=>(normal,⟨cu 24 0 [],[some (.box [.ab 1,.win 2 a b,dI c,dI e,dW t.1]),some (sI t.2),some (sI f)]⟩))) (.ch fun m=>by simp only[tg,ae];kernel_rfl) (by kernel_rfl)) (fun t=>(t.1,t.2)) (by kernel_rfl) (by
   rintro t
   ·exact fF (by kernel_rfl)) h⟩
 |_,_=>aj
def XA:af Tryz.prog:=ak sq Tryz.func287 Tryz.call287 [] false [] fun
 |[.ptr 0 0],[some (.box [.ab 1,.win 2 f g,.aa (.int .i64) a,.aa (.int .i64) b,.aa (.int .u64) c]),some (.seq (.int .i64) d),some (.seq (.int .i64) e)]=>⟨⟨_,th f g a b c d e,fun t=>(.ba [],[some (.box [.ab 1,.win 2 t.1 t.2,dI a,dI b,dW c]),some (sI d),some (sI e)]),[],none⟩,Dk (by kernel_rfl) fun r i h=>vJ (Lk.go (N:=19) (n:=zm f g) (fin:=(fun t=>(normal,⟨cu 19 0 [],[some (.box [.ab 1,.win 2 t.1 t.2,dI a,dI b,dW c]),some (sI d),some (sI e)]⟩))) (.ch fun j=>by simp only[zm,ae];kernel_rfl) (by kernel_rfl)) (fun t=>(t.1,t.2)) (by kernel_rfl) (by
   rintro t
   ·exact fF (by kernel_rfl)) h⟩
 |_,_=>aj
def aiI:af Tryz.prog:=ak sq Tryz.func258 Tryz.call258 [Kh,Xy,Xz,XA] false [] fun
 |[.ptr 0 0],[some (.box [.ab 1,.win 2 e f,.aa (.int .i64) b,.aa (.int .i64) c,.aa (.int .u64) g]),some (.seq (.int .i64) h),some (.seq (.int .i64) d)]=>⟨ad.a (nw e f b c g h d) fun t=>(dB t.1,[some (.box [.ab 1,.win 2 t.2.1 t.2.2.1,dI b,dI c,dW t.2.2.2.1]),some (sI t.2.2.2.2),some (sI d)]),by refine al ?_ (.ch ?_)<;>first|(intro i;simp only[nw,ae];kernel_rfl)|kernel_rfl⟩
 |_,_=>aj
def aiJ:af Tryz.prog:=ak sq Tryz.func259 Tryz.call259 [Kh,Xz,Xx] false [] fun
 |[.ptr 0 0],[some (.box [.ab 1,.win 2 a b,.aa (.int .i64) c,.aa (.int .i64) d,.aa (.int .u64) e]),some (.seq (.int .i64) f),some (.seq (.int .i64) g)]=>⟨⟨_,pN a b c d e f g,fun t=>(dB t.1,[some (.box [.ab 1,.win 2 t.2.1 t.2.2.1,dI t.2.2.2.1,dI t.2.2.2.2.1,dW t.2.2.2.2.2.1]),some (sI t.2.2.2.2.2.2.1),some (sI t.2.2.2.2.2.2.2)]),[2],none⟩,by refine al ?_ (.ch ?_)<;>first|(intro h;simp only[pN,ae];kernel_rfl)|kernel_rfl⟩
 |_,_=>aj
def aiK:af Tryz.prog:=ak sq Tryz.func260 Tryz.call260 [Xy,XA] false [] fun
 |[.ptr 0 0],[some (.box [.ab 1,.win 2 g h,.aa (.int .i64) b,.aa (.int .i64) c,.aa (.int .u64) d]),some (.seq (.int .i64) e),some (.seq (.int .i64) f)]=>⟨ad.a (tj g h b c d e f) fun t=>(dB t.1,[some (.box [.ab 1,.win 2 t.2.1 t.2.2,dI b,dI c,dW d]),some (sI e),some (sI f)]),by refine al ?_ (.ch ?_)<;>first|(intro i;simp only[tj,ae];kernel_rfl)|kernel_rfl⟩
 |_,_=>aj
def aiL:af Tryz.prog:=ak sq Tryz.func180 Tryz.call180 [Ak,aiA,⟨215,Xw,aiB,Tryz.call215⟩,aiG,Xx,aiI,aiJ,aiK] false [(1,.t [⟨1,35,false,none,none⟩]),(2,.t [⟨5,4,true,some 1,none⟩]),(8,.t [⟨1,4,false,some 1,some ((.int .i64))⟩,⟨1,4,true,some 1,none⟩])] fun
 |[.aa (.list (.int .i64)) d],[]=>⟨ad.a (zn d) fun t=>(.ba [dS t.1,dB t.2],[]),by refine al ?_ (.group 3 (.aK (fun _=>rfl) (fun c=>([(0,dL d),(4,.ptr 0 0),(5,.gm [(.int .u8 83,.methodOf 175 "loop.example/headtrees/impl.putNext"),(.int .u8 76,.func 258),(.int .u8 82,.func 259),(.int .u8 68,.func 260)]),(6,.ab 1)],[some (.box [.ab 2,.win 3 0 c.1,dI 0,dI 0,dW 0]),some (sU ([]:List Int)),some (sI c.2),some (sI ([]:List Int))])) (.ch ?_) fun c=>(.seq (fun e=>([(6,.ab 0)],[some (sU e)])) (.block (fun _=>true) (fun _=>rfl) (.loop (fun _=>rfl) (fun b=>([(0,dL d),(4,.ptr 0 0),(5,.gm [(.int .u8 83,.methodOf 175 "loop.example/headtrees/impl.putNext"),(.int .u8 76,.func 258),(.int .u8 82,.func 259),(.int .u8 68,.func 260)]),(6,.ab 1)],[some (.box [.ab 2,.win 3 b.1 b.2.1,dI b.2.2.1,dI b.2.2.2.1,dW b.2.2.2.2.1]),some (sU b.2.2.2.2.2.1),some (sI b.2.2.2.2.2.2.1),some (sI b.2.2.2.2.2.2.2)])) ?_ fun b=> .map (.ch ?_))) fun e=>(.ch ?_))))<;>first|(intro f;simp only[Je,pQ,Jf,ae];kernel_rfl)|kernel_rfl⟩
 |_,_=>aj
def aiM:af Tryz.prog:=ak sq Tryz.func139 Tryz.call139 [aiL,Al] false [] fun
 |[.agg [.aa (.list (.int .i64)) b,.aa (.list (.list (.int .i64))) d]],[]=>⟨ad.a (tk b) fun t=>(dS t,[]),by refine al ?_ (.ch ?_)<;>first|(intro c;simp only[tk,ae];kernel_rfl)|kernel_rfl⟩
 |_,_=>aj
def Ki:af Tryz.prog:=ak sq Tryz.func263 Tryz.call263 [] false [] fun
 |[.agg [.aa (.int .i64) j,.aa (.int .i64) k,.aa (.int .i64) l,.aa (.int .i64) m,.aa (.int .i64) n,.aa (.int .i64) o,.aa (.int .i64) p,.aa (.int .i64) b,.aa (.int .i64) c,.aa (.int .i64) d,.aa (.int .i64) e,.aa (.int .i64) f,.aa (.int .i64) g,.aa (.int .i64) h]],[]=>⟨ad.a (Jg) fun t=>(.agg [dI b,dI c,dI d,dI e,dI f,dI g,dI h,dI b,dI c,dI d,dI e,dI f,dI g,dI h],[some (.box [dI b,dI c,dI d,dI e,dI f,dI g,dI h,dI b,dI c,dI d,dI e,dI f,dI g,dI h])]),by refine fi (fun t=> [(2,.ptr 0 0)]) ?_ (.ch ?_)<;>first|(intro i;simp only[Jg,ae];kernel_rfl)|kernel_rfl⟩
 |_,_=>aj
def XB:af Tryz.prog:=ak sq Tryz.func290 Tryz.call290 [] false [] fun
 |[.agg [.aa (.int .i64) b,.aa (.int .i64) c,.aa (.int .i64) d,.aa (.int .i64) e,.aa (.int .i64) f,.aa (.int .i64) g,.aa (.int .i64) h,.aa (.int .i64) i,.aa (.int .i64) j,.aa (.int .i64) k,.aa (.int .i64) l,.aa (.int .i64) m,.aa (.int .i64) n,.aa (.int .i64) o],.aa (.int .i64) p,.aa (.int .i64) q],[]=>⟨ad.a (VK b c d e f g h i j k l m n o p q) fun t=>(dI t,[]),by refine al ?_ (.group 1 (.seq (fun u=>([(1,dI p),(2,dI q),(3,.ptr 0 0),(7,dI 0)],[some (.box [dI b,dI c,dI d,dI e,dI f,dI g,dI h,dI i,dI j,dI k,dI l,dI m,dI n,dI o])])) (.ch ?_) fun u=>(.seq (fun s=>([(7,dI s)],[])) (.seq (fun v=>([(1,dI p),(3,.ptr 0 0),(7,dI 0),(9,dI q),(10,dI 0)],[some (.box [dI b,dI c,dI d,dI e,dI f,dI g,dI h,dI i,dI j,dI k,dI l,dI m,dI n,dI o])])) (.ch ?_) fun v=>(.block (fun _=>true) (fun _=>rfl) (.loop (fun _=>rfl) (fun r=>([(1,dI p),(3,.ptr 0 0),(7,dI r.1),(9,dI q),(10,dI r.2)],[some (.box [dI b,dI c,dI d,dI e,dI f,dI g,dI h,dI i,dI j,dI k,dI l,dI m,dI n,dI o])])) ?_ fun r=> .map (.ch ?_)))) fun s=>(.ch ?_))))<;>first|(intro w;simp only[VG,VH,VI,VJ,ae];kernel_rfl)|kernel_rfl⟩
 |_,_=>aj
def aiN:af Tryz.prog:=ak sq Tryz.func264 Tryz.call264 [XB] false [] fun
 |[.agg [.aa (.int .i64) b,.aa (.int .i64) c,.aa (.int .i64) d,.aa (.int .i64) e,.aa (.int .i64) f,.aa (.int .i64) g,.aa (.int .i64) h,.aa (.int .i64) i,.aa (.int .i64) j,.aa (.int .i64) k,.aa (.int .i64) l,.aa (.int .i64) m,.aa (.int .i64) n,.aa (.int .i64) o],.aa (.int .i64) p],[]=>⟨ad.a (Jh b c d e f g h i j k l m n o p) fun t=>(dI t,[]),by refine al ?_ (.ch ?_)<;>first|(intro q;simp only[Jh,ae];kernel_rfl)|kernel_rfl⟩
 |_,_=>aj
def Kj:af Tryz.prog:=ak sq Tryz.func265 Tryz.call265 [] false [] fun
 |[.agg [.aa (.int .i64) b,.aa (.int .i64) c,.aa (.int .i64) d,.aa (.int .i64) e,.aa (.int .i64) f,.aa (.int .i64) g,.aa (.int .i64) h,.aa (.int .i64) i,.aa (.int .i64) j,.aa (.int .i64) k,.aa (.int .i64) l,.aa (.int .i64) m,.aa (.int .i64) n,.aa (.int .i64) o]],[]=>⟨ad.a (Ji) fun t=>(.agg [dI b,dI c,dI d,dI e,dI f,dI g,dI h,dI i,dI j,dI k,dI l,dI m,dI n,dI o],[some (.box [dI b,dI c,dI d,dI e,dI f,dI g,dI h,dI i,dI j,dI k,dI l,dI m,dI n,dI o])]),by refine fi (fun t=> [(2,.ptr 0 0)]) ?_ (.ch ?_)<;>first|(intro p;simp only[Ji,ae];kernel_rfl)|kernel_rfl⟩
 |_,_=>aj
def aiO:af Tryz.prog:=ak sq Tryz.func217 Tryz.call217 [Ki,aiN,Kj] false [] fun
 |[],[]=>⟨ad.a (VS) fun t=>(.agg [dI t.1,dI t.2.1,dI t.2.2.1,dI t.2.2.2.1,dI t.2.2.2.2.1,dI t.2.2.2.2.2.1,dI t.2.2.2.2.2.2.1,dI t.2.2.2.2.2.2.2.1,dI t.2.2.2.2.2.2.2.2.1,dI t.2.2.2.2.2.2.2.2.2.1,dI t.2.2.2.2.2.2.2.2.2.2.1,dI t.2.2.2.2.2.2.2.2.2.2.2.1,dI t.2.2.2.2.2.2.2.2.2.2.2.2.1,dI t.2.2.2.2.2.2.2.2.2.2.2.2.2],[some (.box [dI t.1,dI t.2.1,dI t.2.2.1,dI t.2.2.2.1,dI t.2.2.2.2.1,dI t.2.2.2.2.2.1,dI t.2.2.2.2.2.2.1,dI t.2.2.2.2.2.2.2.1,dI t.2.2.2.2.2.2.2.2.1,dI t.2.2.2.2.2.2.2.2.2.1,dI t.2.2.2.2.2.2.2.2.2.2.1,dI t.2.2.2.2.2.2.2.2.2.2.2.1,dI t.2.2.2.2.2.2.2.2.2.2.2.2.1,dI t.2.2.2.2.2.2.2.2.2.2.2.2.2])]),by refine fi (fun t=> [(0,.ptr 0 0)]) ?_ (.group 2 (.seq (fun c=>([(0,.ptr 0 0),(1,.ptr 1 0)],[some (.box [dI 0,dI 0,dI 0,dI 0,dI 0,dI 0,dI 0,dI 0,dI 0,dI 0,dI 0,dI 0,dI 0,dI 0]),some (.box [dI 0,dI 0,dI 0,dI 0,dI 0,dI 0,dI 0,dI c.1,dI c.2.1,dI c.2.2.1,dI c.2.2.2.1,dI c.2.2.2.2.1,dI c.2.2.2.2.2.1,dI c.2.2.2.2.2.2])])) (.ch ?_) fun c=>(.seq (fun d=>([(0,.ptr 0 0),(1,.ptr 1 0)],[some (.box [dI 0,dI 0,dI 0,dI 0,dI 0,dI 0,dI 0,dI 0,dI 0,dI 0,dI 0,dI 0,dI 0,dI 0]),some (.box [dI d.1,dI d.2.1,dI d.2.2.1,dI d.2.2.2.1,dI d.2.2.2.2.1,dI d.2.2.2.2.2.1,dI d.2.2.2.2.2.2.1,dI d.2.2.2.2.2.2.2.1,dI d.2.2.2.2.2.2.2.2.1,dI d.2.2.2.2.2.2.2.2.2.1,dI d.2.2.2.2.2.2.2.2.2.2.1,dI d.2.2.2.2.2.2.2.2.2.2.2.1,dI d.2.2.2.2.2.2.2.2.2.2.2.2.1,dI d.2.2.2.2.2.2.2.2.2.2.2.2.2])])) (.seq (fun e=>([(0,.ptr 0 0),(1,.ptr 1 0),(2,dI 1)],[some (.box [dI 0,dI 0,dI 0,dI 0,dI 0,dI 0,dI 0,dI 0,dI 0,dI 0,dI 0,dI 0,dI 0,dI 0]),some (.box [dI 0,dI 0,dI 0,dI 0,dI 0,dI 0,dI 0,dI c.1,dI c.2.1,dI c.2.2.1,dI c.2.2.2.1,dI c.2.2.2.2.1,dI c.2.2.2.2.2.1,dI c.2.2.2.2.2.2])])) (.ch ?_) fun e=>(.block (fun _=>true) (fun _=>rfl) (.loop (fun _=>rfl) (fun b=>([(0,.ptr 0 0),(1,.ptr 1 0),(2,dI b.1)],[some (.box [dI 0,dI 0,dI 0,dI 0,dI 0,dI 0,dI 0,dI 0,dI 0,dI 0,dI 0,dI 0,dI 0,dI 0]),some (.box [dI b.2.1,dI b.2.2.1,dI b.2.2.2.1,dI b.2.2.2.2.1,dI b.2.2.2.2.2.1,dI b.2.2.2.2.2.2.1,dI b.2.2.2.2.2.2.2.1,dI b.2.2.2.2.2.2.2.2.1,dI b.2.2.2.2.2.2.2.2.2.1,dI b.2.2.2.2.2.2.2.2.2.2.1,dI b.2.2.2.2.2.2.2.2.2.2.2.1,dI b.2.2.2.2.2.2.2.2.2.2.2.2.1,dI b.2.2.2.2.2.2.2.2.2.2.2.2.2.1,dI b.2.2.2.2.2.2.2.2.2.2.2.2.2.2])])) ?_ fun b=> .map (.ch ?_)))) fun d=>(.ch ?_))))<;>first|(intro f;simp only[VO,VP,VQ,VR,ae];kernel_rfl)|kernel_rfl⟩
 |_,_=>aj
def Am:af Tryz.prog:=ak sq Tryz.func267 Tryz.call267 [XB] false [(1,.d [8] [0,1,2,3,4,5,6,7,9,10,11,12,13,14,15,16,18,19,8,17,20,21])] fun
 |[.agg [.aa (.int .i64) b,.aa (.int .i64) c,.aa (.int .i64) e,.aa (.int .i64) f,.aa (.int .i64) g,.aa (.int .i64) h,.aa (.int .i64) i,.aa (.int .i64) j,.aa (.int .i64) k,.aa (.int .i64) l,.aa (.int .i64) m,.aa (.int .i64) n,.aa (.int .i64) o,.aa (.int .i64) p],.agg [.aa (.int .i64) q,.aa (.int .i64) r],.agg [.aa (.int .i64) s,.aa (.int .i64) u]],[]=>⟨ad.a (Jj b c e f g h i j k l m n o p q r s u) fun t=>(dI t,[]),by refine al ?_ (.ch ?_)<;>first|(intro v;simp only[Jj,ae];kernel_rfl)|kernel_rfl⟩
 |_,_=>aj
noncomputable def XC:bj:=gI [(1,.d [7,10] [0,1,2,3,4,5,6,8,9,7,10,11,12]),(2,.d [3,4] []),(3,.d [3,4] [])] Tryz.f218
noncomputable def XD:bj:=gI [(1,.d [6,9] [0,1,2,3,4,5,7,8,6,9,10,11]),(2,.d [4] []),(3,.d [5] [])] Tryz.f266
def jy (n:Nat):bd:=fun avs a=>
 match avs,a with
 |[.agg [.aa (.int .i64) b,.aa (.int .i64) c,.aa (.int .i64) d,.aa (.int .i64) e,.aa (.int .i64) f,.aa (.int .i64) g,.aa (.int .i64) h,.aa (.int .i64) i,.aa (.int .i64) j,.aa (.int .i64) k,.aa (.int .i64) l,.aa (.int .i64) m,.aa (.int .i64) o,.aa (.int .i64) p],.aa (.list (.int .i64)) q,.aa (.int .i64) r],[]=>⟨_,pR n b c d e f g h i j k l m o p q r,fun t=>(.agg [dI t.1,dI t.2],[some (.box [dI t.1,dI t.2])]),[],none⟩
 |_,_=>ad.no
def iG (n:Nat):bd:=fun avs a=>
 match avs,a with
 |[.agg [.aa (.int .i64) b,.aa (.int .i64) c,.aa (.int .i64) d,.aa (.int .i64) e,.aa (.int .i64) f,.aa (.int .i64) g,.aa (.int .i64) h,.aa (.int .i64) i,.aa (.int .i64) j,.aa (.int .i64) k,.aa (.int .i64) l,.aa (.int .i64) m,.aa (.int .i64) o,.aa (.int .i64) p],.aa (.list (.int .i64)) q,.aa (.list (.int .i64)) r],[]=>⟨_,pS n b c d e f g h i j k l m o p q r,fun t=>(.agg [dI t.1,dI t.2],[some (.box [dI t.1,dI t.2])]),[],none⟩
 |_,_=>ad.no
noncomputable def XE (n:Nat):Ctx:=⟨bH cQ,cO [(238,(af.F Ag)),(158,(af.F kA)),(266,iG n),(263,(af.F Ki)),(267,(af.F Am))],gL,0,false,[]⟩
noncomputable def XF (n:Nat):Ctx:=⟨bH cQ,cO [(218,jy n),(266,iG n),(265,(af.F Kj)),(267,(af.F Am))],gL,0,false,[]⟩
theorem aiP (n:Nat) (a:Int) (b:Int) (c:Int) (d:Int) (e:Int) (f:Int) (g:Int) (i:Int) (j:Int) (k:Int) (l:Int) (m:Int) (o:Int) (p:Int) (q:List Int) (s:Int) {r:AV} {u:Heap} (h:(ad.mk _ (pR (n+1) a b c d e f g i j k l m o p q s) (fun t=>(.agg [dI t.1,dI t.2],[some (.box [dI t.1,dI t.2])])) [] none).run=some (r,u)):bY (XE n) LL (ct Tryz.f218) XC ⟨cu 39 0 [(0,.agg [dI a,dI b,dI c,dI d,dI e,dI f,dI g,dI i,dI j,dI k,dI l,dI m,dI o,dI p]),(1,dL q),(2,dI s)],[]⟩ (dR (bH cQ) Tryz.f218.results.toList r u):=
 gG (Lk.go (N:=39) (n:=Jk (pR n) (pS n) a b c d e f g i j k l m o p q s) (fin:=(fun t=>(ret,⟨cu 39 0 [(6,.ptr 0 0)],[some (.box [dI t.1,dI t.2])]⟩))) (.ch fun v=>by simp only[Jk,ae];kernel_rfl) (by kernel_rfl)) (by kernel_rfl) (fun t=>fF (by kernel_rfl)) h
theorem aiQ (n:Nat) (a:Int) (b:Int) (c:Int) (d:Int) (e:Int) (f:Int) (g:Int) (i:Int) (j:Int) (k:Int) (l:Int) (m:Int) (o:Int) (p:Int) (q:List Int) (s:List Int) {r:AV} {u:Heap} (h:(ad.mk _ (pS (n+1) a b c d e f g i j k l m o p q s) (fun t=>(.agg [dI t.1,dI t.2],[some (.box [dI t.1,dI t.2])])) [] none).run=some (r,u)):bY (XF n) LL (ct Tryz.f266) XD ⟨cu 35 0 [(0,.agg [dI a,dI b,dI c,dI d,dI e,dI f,dI g,dI i,dI j,dI k,dI l,dI m,dI o,dI p]),(1,dL q),(2,dL s)],[]⟩ (dR (bH cQ) Tryz.f266.results.toList r u):=
 gG (Lk.go (N:=35) (n:=Jl (pR n) (pS n) a b c d e f g i j k l m o p q s) (fin:=(fun t=>(ret,⟨cu 35 0 [(6,.ptr 0 0)],[some (.box [dI t.1,dI t.2])]⟩))) (.ch fun v=>by simp only[Jl,ae];kernel_rfl) (by kernel_rfl)) (by kernel_rfl) (fun t=>fF (by kernel_rfl)) h
theorem aiR (n:Nat) (e:Sound Tryz.prog 218 (jy n)) (a:Sound Tryz.prog 266 (iG n)):Sound Tryz.prog 218 (jy (n+1)):=by
 refine gH (C:=XE n) (c:=ct Tryz.f218) (gF gK (be (af.s Ag) (be (af.s kA) (be a (be (af.s Ki) (be (af.s Am) dd))))) (be Tryz.call238 (be Tryz.call158 (be Tryz.call266 (be Tryz.call263 (be Tryz.call267 dd))))) (by kernel_rfl)) Tryz.func218 (by kernel_rfl) LL XC ?_
 intro avs b r d h
 unfold jy at h
 split at h
 ·refine bY.cast ?_ ?_ ?_ (aiP n _ _ _ _ _ _ _ _ _ _ _ _ _ _ _ _ h)<;>kernel_rfl
 ·simp[ad.no,ad.run] at h
theorem aiS:Sound Tryz.prog 218 (jy 0):=by
 intro avs a r b h
 unfold jy at h
 split at h
 ·simp[pR,lQ,ad.run] at h
 ·simp[ad.no,ad.run] at h
theorem aiT (n:Nat) (a:Sound Tryz.prog 218 (jy n)) (b:Sound Tryz.prog 266 (iG n)):Sound Tryz.prog 266 (iG (n+1)):=by
 refine gH (C:=XF n) (c:=ct Tryz.f266) (gF gK (be a (be b (be (af.s Kj) (be (af.s Am) dd)))) (be Tryz.call218 (be Tryz.call266 (be Tryz.call265 (be Tryz.call267 dd)))) (by kernel_rfl)) Tryz.func266 (by kernel_rfl) LL XD ?_
 intro avs d r e h
 unfold iG at h
 split at h
 ·refine bY.cast ?_ ?_ ?_ (aiQ n _ _ _ _ _ _ _ _ _ _ _ _ _ _ _ _ h)<;>kernel_rfl
 ·simp[ad.no,ad.run] at h
theorem aiU:Sound Tryz.prog 266 (iG 0):=by
 intro avs a r b h
 unfold iG at h
 split at h
 ·simp[pS,lQ,ad.run] at h
 ·simp[ad.no,ad.run] at h
theorem Kk: ∀n,Sound Tryz.prog 218 (jy n)/\Sound Tryz.prog 266 (iG n)
 |0=>⟨aiS,aiU⟩
 |n+1=>by
  obtain⟨a,b⟩:=Kk n
  exact⟨aiR n a b,aiT n a b⟩
def An:bd:=fun avs a=>
 match avs,a with
 |[.agg [.aa (.int .i64) b,.aa (.int .i64) c,.aa (.int .i64) d,.aa (.int .i64) e,.aa (.int .i64) f,.aa (.int .i64) g,.aa (.int .i64) h,.aa (.int .i64) i,.aa (.int .i64) j,.aa (.int .i64) k,.aa (.int .i64) l,.aa (.int .i64) m,.aa (.int .i64) n,.aa (.int .i64) o],.aa (.list (.int .i64)) p,.aa (.int .i64) q],[]=>⟨_,zq b c d e f g h i j k l m n o p q,fun t=>(.agg [dI t.1,dI t.2],[some (.box [dI t.1,dI t.2])]),[],none⟩
 |_,_=>ad.no
theorem aiV:Sound Tryz.prog 218 An:=by
 have e:An=jy RR:=by
  funext avs H
  unfold An jy
  split<;>first|rfl|(simp only[zq])
 rw[e]
 exact(Kk RR).1
def Kl:bd:=fun avs a=>
 match avs,a with
 |[.agg [.aa (.int .i64) b,.aa (.int .i64) c,.aa (.int .i64) d,.aa (.int .i64) e,.aa (.int .i64) f,.aa (.int .i64) g,.aa (.int .i64) h,.aa (.int .i64) i,.aa (.int .i64) j,.aa (.int .i64) k,.aa (.int .i64) l,.aa (.int .i64) m,.aa (.int .i64) n,.aa (.int .i64) o],.aa (.list (.int .i64)) p,.aa (.list (.int .i64)) q],[]=>⟨_,VV b c d e f g h i j k l m n o p q,fun t=>(.agg [dI t.1,dI t.2],[some (.box [dI t.1,dI t.2])]),[],none⟩
 |_,_=>ad.no
theorem aph:Sound Tryz.prog 266 Kl:=by
 have e:Kl=iG RR:=by
  funext avs H
  unfold Kl iG
  split<;>first|rfl|(simp only[VV])
 rw[e]
 exact(Kk RR).2
def aiW:af Tryz.prog:=ak sq Tryz.func181 Tryz.call181 [Ak,aiO,Af,⟨218,An,aiV,Tryz.call218⟩] false [] fun
 |[.aa (.list (.int .i64)) b],[]=>⟨ad.a (zr b) fun t=>(dI t,[]),by refine al ?_ (.ch ?_)<;>first|(intro c;simp only[zr,ae];kernel_rfl)|kernel_rfl⟩
 |_,_=>aj
def aiX:af Tryz.prog:=ak sq Tryz.func140 Tryz.call140 [aiW,Al,⟨125,hM,iF,Tryz.call125⟩] false [] fun
 |[.agg [.aa (.list (.int .i64)) b,.aa (.list (.list (.int .i64))) d]],[]=>⟨ad.a (tl b) fun t=>(dS t,[]),by refine al ?_ (.ch ?_)<;>first|(intro c;simp only[tl,ae];kernel_rfl)|kernel_rfl⟩
 |_,_=>aj
def aiY:af Tryz.prog:=ak sq Tryz.func182 Tryz.call182 [] false [] fun
 |[.aa .str b,.aa .str c],[]=>⟨ad.a (tm b c) fun t=>(dB t,[]),by refine al ?_ (.ch ?_)<;>first|(intro d;simp only[tm,ae];kernel_rfl)|kernel_rfl⟩
 |_,_=>aj
def aiZ:af Tryz.prog:=ak sq Tryz.func141 Tryz.call141 [aiY] false [] fun
 |[.aa .str b,.aa .str c],[]=>⟨ad.a (tn b c) fun t=>(.ba [dS t.1,dB t.2],[]),by refine al ?_ (.ch ?_)<;>first|(intro d;simp only[tn,ae];kernel_rfl)|kernel_rfl⟩
 |_,_=>aj
def ai0:af Tryz.prog:=ak sq Tryz.func89 Tryz.call89 [aiZ] false [] fun
 |[.aa .str b,.aa .str c],[]=>⟨ad.a (to b c) fun t=>(.ba [dS t.1,dB t.2],[]),by refine al ?_ (.ch ?_)<;>first|(intro d;simp only[to,ae];kernel_rfl)|kernel_rfl⟩
 |_,_=>aj
def XG:af Tryz.prog:=ak sq Tryz.func184 Tryz.call184 [gq] false [] fun
 |[.aa (.list (.int .i64)) b,.aa (.int .i64) c],[]=>⟨ad.a (zv b c) fun t=>(dB t,[]),by refine al ?_ (.ch ?_)<;>first|(intro d;simp only[zv,ae];kernel_rfl)|kernel_rfl⟩
 |_,_=>aj
def ai1:af Tryz.prog:=ak sq Tryz.func144 Tryz.call144 [XG,tM,kA] false [] fun
 |[.aa (.list (.int .i64)) b,.aa (.int .i64) c],[]=>⟨ad.a (tq b c) fun t=>(.ab 0,[some (sI t)]),by refine al ?_ (.ch ?_)<;>first|(intro d;simp only[tq,ae];kernel_rfl)|kernel_rfl⟩
 |_,_=>aj
def ai2:af Tryz.prog:=ak sq Tryz.func90 Tryz.call90 [⟨85,J8,W6,Tryz.call85⟩,⟨125,hM,iF,Tryz.call125⟩,ai1,Ae,Al] false [] fun
 |[.agg [.aa (.list (.int .i64)) b,.aa (.list (.list (.int .i64))) e],.aa .str c],[]=>⟨ad.a (tr b c) fun t=>(dS t,[]),by refine al ?_ (.ch ?_)<;>first|(intro d;simp only[tr,ae];kernel_rfl)|kernel_rfl⟩
 |_,_=>aj
def ai3:af Tryz.prog:=ak sq Tryz.func35 Tryz.call35 [⟨88,Xa,ahj,Tryz.call88⟩,ahn,ahp,ahC,ahD,ahI,ahQ,ahZ,ah2,aib,aif,aih,aiq,aiz,aiM,aiX,ai0,ai2] false [] fun
 |[.agg [.aa (.list (.int .i64)) b,.aa (.list (.list (.int .i64))) c],.aa .str d],[]=>⟨ad.a (ts b c d) fun t=>(dS t,[]),by refine al ?_ (.ch ?_)<;>first|(intro e;simp only[ts,ae];kernel_rfl)|kernel_rfl⟩
 |_,_=>aj
def ai4:af Tryz.prog:=ak sq Tryz.func92 Tryz.call92 [Ad] true [(1,.d [9] [])] fun
 |[.agg [.aa (.list (.int .i64)) b,.aa (.list (.list (.int .i64))) c]],[]=>⟨ad.a (tt b c) fun t=>(.ba [.agg [.ab 1,.ab 2],dB t.1],[some (.box [.ab 1,.ab 2]),some (sI t.2.1),some (.nest (.int .i64) t.2.2 0 [])]),by refine fi (fun t=> [(2,.ptr 0 0),(3,dB t.1)]) ?_ (.ch ?_)<;>first|(intro e;simp only[tt,ae];kernel_rfl)|kernel_rfl⟩
 |_,_=>aj
def ai5:af Tryz.prog:=ak sq Tryz.func223 Tryz.call223 [] false [] fun
 |[.aa (.int .i64) b],[]=>⟨ad.a (zB b) fun t=>(.ab 0,[some (sI t)]),by refine al ?_ (.group 1 (.seq (fun d=>([(0,dI b),(3,.ab 0)],[some (sI d)])) (.ch ?_) fun d=>(.seq (fun f=>([(3,.ab 0)],[some (sI f)])) (.seq (fun e=>([(0,dI b),(3,.ab 0),(8,dI e),(9,dI 0)],[some (sI d)])) (.ch ?_) fun e=>(.block (fun _=>true) (fun _=>rfl) (.loop (fun _=>rfl) (fun c=>([(0,dI b),(3,.ab 0),(8,dI e),(9,dI c.1)],[some (sI c.2)])) ?_ fun c=> .map (.ch ?_)))) fun f=>(.ch ?_))))<;>first|(intro g;simp only[Jo,Jp,tu,Jq,ae];kernel_rfl)|kernel_rfl⟩
 |_,_=>aj
def ai6:af Tryz.prog:=ak sq Tryz.func270 Tryz.call270 [] false [] fun
 |[.aa (.list (.int .i64)) b],[]=>⟨ad.a (Ju b) fun t=>(.ab 0,[some (sI t)]),by refine al ?_ (.group 1 (.seq (fun d=>([(0,dL b),(3,.ab 0)],[some (sI d)])) (.ch ?_) fun d=>(.seq (fun f=>([(3,.ab 0)],[some (sI f)])) (.seq (fun e=>([(3,.ab 0),(10,dL b),(11,dI e),(12,dI 0)],[some (sI d)])) (.ch ?_) fun e=>(.block (fun _=>true) (fun _=>rfl) (.loop (fun _=>rfl) (fun c=>([(3,.ab 0),(10,dL b),(11,dI e),(12,dI c.1)],[some (sI c.2)])) ?_ fun c=> .map (.ch ?_)))) fun f=>(.ch ?_))))<;>first|(intro g;simp only[Jr,Js,tv,Jt,ae];kernel_rfl)|kernel_rfl⟩
 |_,_=>aj
def ai7:af Tryz.prog:=ak sq Tryz.func272 Tryz.call272 [] false [] fun
 |[.aa (.int .i64) c,.ptr 0 0],[some (.box [.ab 1]),some (.seq (.int .i64) b)]=>⟨ad.a (zD c b) fun t=>(dI t,[some (.box [.ab 1]),some (sI b)]),by refine al ?_ (.ch ?_)<;>first|(intro d;simp only[zD,ae];kernel_rfl)|kernel_rfl⟩
 |_,_=>aj
def ai8:af Tryz.prog:=ak sq Tryz.func271 Tryz.call271 [ai7] false [] fun
 |[.aa (.list (.int .i64)) c,.aa (.list (.int .i64)) d,.fn 272 [] [.ptr 0 0]],[some (.box [.ab 1]),some (.seq (.int .i64) b)]=>⟨ad.a (JA c d b) fun t=>(.ab 2,[some (.box [.ab 1]),some (sI b),some (sI t)]),by refine al ?_ (.group 1 (.seq (fun f=>([(0,dL c),(1,dL d),(2,.fn 272 [] [.ptr 0 0]),(7,.ab 2)],[some (.box [.ab 1]),some (sI b),some (sI f)])) (.ch ?_) fun f=>(.seq (fun h=>([(7,.ab 2)],[some (.box [.ab 1]),some (sI b),some (sI h)])) (.seq (fun g=>([(0,dL c),(2,.fn 272 [] [.ptr 0 0]),(7,.ab 2),(13,dL d),(14,dI g),(15,dI 0)],[some (.box [.ab 1]),some (sI b),some (sI f)])) (.ch ?_) fun g=>(.block (fun _=>true) (fun _=>rfl) (.loop (fun _=>rfl) (fun e=>([(0,dL c),(2,.fn 272 [] [.ptr 0 0]),(7,.ab 2),(13,dL d),(14,dI g),(15,dI e.1)],[some (.box [.ab 1]),some (sI b),some (sI e.2)])) ?_ fun e=> .map (.ch ?_)))) fun h=>(.ch ?_))))<;>first|(intro i;simp only[Jx,Jy,zE,Jz,ae];kernel_rfl)|kernel_rfl⟩
 |_,_=>aj
def XH:af Tryz.prog:=ak sq Tryz.func222 Tryz.call222 [gq,Xm,ai6,ai8] false [] fun
 |[.aa (.list (.int .i64)) b,.aa (.list (.int .i64)) c],[]=>⟨ad.a (zF b c) fun t=>(.ba [.ab 0,dB t.1],[some (sI t.2)]),by refine al ?_ (.ch ?_)<;>first|(intro d;simp only[zF,ae];kernel_rfl)|kernel_rfl⟩
 |_,_=>aj
def ai9:af Tryz.prog:=ak sq Tryz.func185 Tryz.call185 [gq,ai5,XH] false [] fun
 |[.aa (.list (.int .i64)) b],[]=>⟨ad.a (tw b) fun t=>(.ab 0,[some (sI t)]),by refine al ?_ (.ch ?_)<;>first|(intro c;simp only[tw,ae];kernel_rfl)|kernel_rfl⟩
 |_,_=>aj
def aja:af Tryz.prog:=ak sq Tryz.func186 Tryz.call186 [Kd,XH] false [] fun
 |[.aa (.list (.int .i64)) b],[]=>⟨ad.a (tx b) fun t=>(.ab 0,[some (sI t)]),by refine al ?_ (.ch ?_)<;>first|(intro c;simp only[tx,ae];kernel_rfl)|kernel_rfl⟩
 |_,_=>aj
def ajb:af Tryz.prog:=ak sq Tryz.func145 Tryz.call145 [XG,⟨87,J9,W9,Tryz.call87⟩,ai9,aja] false [(13,.d [1,4] [0,2,3,4,1,5,6])] fun
 |[.aa (.list (.int .i64)) b,.agg [.aa (.int .i64) c,.aa (.int .i64) e,.aa (.int .i64) f]],[]=>⟨ad.a (tz b c e f) fun t=>(.ab 0,[some (sI t)]),by refine al ?_ (.ch ?_)<;>first|(intro g;simp only[tz,ae];kernel_rfl)|kernel_rfl⟩
 |_,_=>aj
def ajc:af Tryz.prog:=ak sq Tryz.func146 Tryz.call146 [] false [] fun
 |[.aa (.list (.int .i64)) b,.aa (.list (.int .i64)) c],[]=>⟨ad.a (zK b c) fun t=>(dB t,[]),by refine al ?_ (.group 1 (.aK (fun _=>rfl) (fun f=>([(0,dL b),(1,dL c)],[])) (.ch ?_) fun f=>(.aK (fun _=>rfl) (fun g=>([],[])) (.seq (fun d=>([(0,dL b),(1,dL c),(12,dI d),(13,dI 0)],[])) (.ch ?_) fun d=>(.block (Sum.elim (fun _=>false) (fun _=>true)) (bf (fun _=>rfl) (fun _=>rfl)) (.loop (bf (fun _=>rfl) (fun _=>rfl)) (fun e=>([(0,dL b),(1,dL c),(12,dI d),(13,dI e)],[])) ?_ fun e=> .map (.ch ?_)))) fun g=>(.ch ?_))))<;>first|(intro h;simp only[JB,JC,pT,Wc,ae];kernel_rfl)|kernel_rfl⟩
 |_,_=>aj
def ajd:Go.Shelf.Ren:=⟨fun|41=>147|n=>n,fun|4=>4|22=>24|23=>23|n=>n,fun n=>n⟩
theorem aje:SlLaysE0.n41 Tryz.prog ajd:={
 mixed:=by kernel_rfl
 f41:=⟨Tryz.f147.name,by kernel_rfl,Tryz.func147.trans (aR some (by kernel_rfl))⟩
 t4:=Tryz.underlying4
 a4:=Tryz.isAgg4
 z4:=Tryz.sizeOf4
 v4:=Tryz.zeroValue4
 t22:=Tryz.underlying24
 a22:=Tryz.isAgg24
 z22:=Tryz.sizeOf24
 v22:=Tryz.zeroValue24}
def XI:bd:=wd
theorem ajf:Sound Tryz.prog 147 XI:=Of aje (NN (Tryz.prog.info? 23)) (.slice none 0 0) 24 (by kernel_rfl) (by kernel_rfl) (by kernel_rfl) (by kernel_rfl) (by kernel_rfl) (by decide) Tryz.sizeOf23
def ajg:af Tryz.prog:=ak sq Tryz.func93 Tryz.call93 [ajb,gq,Ad,ajc,⟨147,XI,ajf,Tryz.call147⟩] true [(2,.d [2,5] [0,1,3,4,5,2,6,7])] fun
 |[.agg [.aa (.list (.int .i64)) b,.aa (.list (.list (.int .i64))) c],.agg [.aa (.int .i64) e,.aa (.int .i64) f,.aa (.int .i64) g]],[]=>⟨ad.a (tA b c e f g) fun t=>(.ba [.agg [.ab 1,.ab 2],dB t.1],[some (.box [.ab 1,.ab 2]),some (sI t.2.1),some (.nest (.int .i64) t.2.2 0 [])]),by refine fi (fun t=> [(4,.ptr 0 0),(5,dB t.1)]) ?_ (.ch ?_)<;>first|(intro h;simp only[tA,ae];kernel_rfl)|kernel_rfl⟩
 |_,_=>aj
def ajh:af Tryz.prog:=ak sq Tryz.func36 Tryz.call36 [W4,W8,Ad,ai4,ajg] true [(11,.t [⟨0,4,false,some 0,some ((.int .i64))⟩,⟨0,4,true,some 1,some ((.int .i64))⟩])] fun
 |[.agg [.aa (.list (.int .i64)) b,.aa (.list (.list (.int .i64))) c],.agg [.aa (.int .i64) d,.aa (.int .i64) e,.aa (.int .i64) f]],[]=>⟨ad.a (tB b c d e f) fun t=>(.ba [.agg [.ab 1,.ab 2],dB t.1],[some (.box [.ab 1,.ab 2]),some (sI t.2.1),some (.nest (.int .i64) t.2.2 0 [])]),by refine fi (fun t=> [(4,.ptr 0 0),(5,dB t.1)]) ?_ (.ch ?_)<;>first|(intro g;simp only[tB,ae];kernel_rfl)|kernel_rfl⟩
 |_,_=>aj
def aji:af Tryz.prog:=ak sq Tryz.func8 Tryz.call8 [W4,ahg,Ad,ai3,ajh] true [(9,.d [4,7] [0,1,2,3,5,6,4,7,8,9]),(13,.t [⟨0,4,false,some 0,some ((.int .i64))⟩,⟨0,4,true,some 1,some ((.int .i64))⟩])] fun
 |[.agg [.aa (.list (.int .i64)) b,.aa (.list (.list (.int .i64))) c],.aa .str e],[]=>⟨ad.a (tC b c e) fun t=>(.ba [.agg [.ab 1,.ab 2],dS t.1],[some (.box [.ab 1,.ab 2]),some (sI t.2.1),some (.nest (.int .i64) t.2.2 0 [])]),by refine fi (fun t=> [(4,.ptr 0 0),(5,dS t.1)]) ?_ (.ch ?_)<;>first|(intro f;simp only[tC,ae];kernel_rfl)|kernel_rfl⟩
 |_,_=>aj
def XJ:af Tryz.prog:=ak sq Tryz.func72 Tryz.call72 [] false [] fun
 |[.aa (.list (.int .i64)) b,.aa (.list (.int .i64)) c],[]=>⟨ad.a (JH b c) fun t=>(dB t,[]),by refine al ?_ (.group 1 (.aK (fun _=>rfl) (fun e=>([(0,dL b),(1,dL c)],[])) (.ch ?_) fun e=>(.aK (fun _=>rfl) (fun f=>([],[])) (.seq (fun g=>([(0,dL b),(1,dL c),(5,dI 0)],[])) (.ch ?_) fun g=>(.block (Sum.elim (fun _=>false) (fun _=>true)) (bf (fun _=>rfl) (fun _=>rfl)) (.loop (bf (fun _=>rfl) (fun _=>rfl)) (fun d=>([(0,dL b),(1,dL c),(5,dI d)],[])) ?_ fun d=> .map (.ch ?_)))) fun f=>(.ch ?_))))<;>first|(intro h;simp only[JE,JF,tE,JG,ae];kernel_rfl)|kernel_rfl⟩
 |_,_=>aj
def ajj:af Tryz.prog:=ak sq Tryz.func73 Tryz.call73 [XJ] false [(6,.d [8] [])] fun
 |[.aa (.list (.list (.int .i64))) b,.aa (.list (.list (.int .i64))) c],[]=>⟨ad.a (zP b c) fun t=>(dB t,[]),by refine al ?_ (.group 1 (.aK (fun _=>rfl) (fun f=>([(0,.aa (.list (.list (.int .i64))) b),(1,.aa (.list (.list (.int .i64))) c)],[])) (.ch ?_) fun f=>(.aK (fun _=>rfl) (fun g=>([],[])) (.seq (fun h=>([(0,.aa (.list (.list (.int .i64))) b),(1,.aa (.list (.list (.int .i64))) c),(5,dI 0)],[])) (.ch ?_) fun h=>(.block (Sum.elim (fun _=>false) (fun _=>true)) (bf (fun _=>rfl) (fun _=>rfl)) (.loop (bf (fun _=>rfl) (fun _=>rfl)) (fun e=>([(0,.aa (.list (.list (.int .i64))) b),(1,.aa (.list (.list (.int .i64))) c),(5,dI e)],[])) ?_ fun e=> .map (.ch ?_)))) fun g=>(.ch ?_))))<;>first|(intro i;simp only[JI,JJ,tF,JK,ae];kernel_rfl)|kernel_rfl⟩
 |_,_=>aj
def ajk:af Tryz.prog:=ak sq Tryz.func22 Tryz.call22 [XJ,ajj] false [] fun
 |[.agg [.aa (.list (.int .i64)) b,.aa (.list (.list (.int .i64))) c],.agg [.aa (.list (.int .i64)) d,.aa (.list (.list (.int .i64))) e]],[]=>⟨ad.a (zR b c d e) fun t=>(dB t,[]),by refine al ?_ (.ch ?_)<;>first|(intro f;simp only[zR,ae];kernel_rfl)|kernel_rfl⟩
 |_,_=>aj
def XK:af Tryz.prog:=ak sq Tryz.func74 Tryz.call74 [] false [] fun
 |[.ab 0,.aa (.int .i64) d],[some (.seq (.int .i64) e)]=>⟨ad.a (JO d e) fun t=>(dI t.1,[some (sI t.2)]),by refine al ?_ (.seq (fun f=>([(0,.ab 0),(1,dI d)],[some (sI e)])) (.ch ?_) fun f=>(.seq (fun c=>([(1,dI c.1)],[some (sI c.2)])) (.seq (fun g=>([(0,.ab 0),(1,dI d),(5,dI 0)],[some (sI e)])) (.ch ?_) fun g=>(.block (fun _=>true) (fun _=>rfl) (.loop (fun _=>rfl) (fun b=>([(0,.ab 0),(1,dI b.1),(5,dI b.2.1)],[some (sI b.2.2)])) ?_ fun b=> .map (.ch ?_)))) fun c=>(.ch ?_)))<;>first|(intro h;simp only[JL,JM,zS,JN,ae];kernel_rfl)|kernel_rfl⟩
 |_,_=>aj
def ajl:af Tryz.prog:=ak sq Tryz.func75 Tryz.call75 [XK] true [(3,.t [⟨7,0,true,some 0,none⟩])] fun
 |[.ab 0,.aa (.int .i64) d],[some (.nest (.int .i64) e 0 [])]=>⟨ad.a (zT d e) fun t=>(dI t.1,[some (.nest (.int .i64) t.2 0 [])]),by refine al ?_ (.seq (fun f=>([(0,.ab 0),(1,dI d)],[some (.nest (.int .i64) e 0 [])])) (.ch ?_) fun f=>(.seq (fun c=>([(1,dI c.1)],[some (.nest (.int .i64) c.2 0 [])])) (.seq (fun g=>([(0,.ab 0),(1,dI d),(5,dI 0)],[some (.nest (.int .i64) e 0 [])])) (.ch ?_) fun g=>(.block (fun _=>true) (fun _=>rfl) (.loop (fun _=>rfl) (fun b=>([(0,.ab 0),(1,dI b.1),(5,dI b.2.1)],[some (.nest (.int .i64) b.2.2 0 [])])) ?_ fun b=> .map (.ch ?_)))) fun c=>(.ch ?_)))<;>first|(intro h;simp only[JP,JQ,tH,JR,ae];kernel_rfl)|kernel_rfl⟩
 |_,_=>aj
def ajm:af Tryz.prog:=ak sq Tryz.func23 Tryz.call23 [XK,ajl] true [] fun
 |[.agg [.ab 0,.ab 1],.aa (.int .i64) b],[some (.seq (.int .i64) c),some (.nest (.int .i64) d 0 [])]=>⟨ad.a (zV b c d) fun t=>(dI t.1,[some (sI t.2.1),some (.nest (.int .i64) t.2.2 0 [])]),by refine al ?_ (.ch ?_)<;>first|(intro e;simp only[zV,ae];kernel_rfl)|kernel_rfl⟩
 |_,_=>aj
def XL:af Tryz.prog:=ak sq Tryz.func76 Tryz.call76 [] false [] fun
 |[.aa (.list (.int .i64)) b,.aa (.int .i64) d],[]=>⟨ad.a (JV b d) fun t=>(dI t,[]),by refine al ?_ (.seq (fun f=>([(0,dL b),(1,dI d)],[])) (.ch ?_) fun f=>(.aK (fun _=>rfl) (fun e=>([(1,dI e)],[])) (.seq (fun g=>([(0,dL b),(1,dI d),(5,dI 0)],[])) (.ch ?_) fun g=>(.block (Sum.elim (fun _=>false) (fun _=>true)) (bf (fun _=>rfl) (fun _=>rfl)) (.loop (bf (fun _=>rfl) (fun _=>rfl)) (fun c=>([(0,dL b),(1,dI c.1),(5,dI c.2)],[])) ?_ fun c=> .map (.ch ?_)))) fun e=>(.ch ?_)))<;>first|(intro h;simp only[JS,JT,zX,JU,ae];kernel_rfl)|kernel_rfl⟩
 |_,_=>aj
def ajn:af Tryz.prog:=ak sq Tryz.func77 Tryz.call77 [XL] false [] fun
 |[.aa (.list (.list (.int .i64))) b,.aa (.int .i64) d],[]=>⟨ad.a (zY b d) fun t=>(dI t,[]),by refine al ?_ (.seq (fun f=>([(0,.aa (.list (.list (.int .i64))) b),(1,dI d)],[])) (.ch ?_) fun f=>(.aK (fun _=>rfl) (fun e=>([(1,dI e)],[])) (.seq (fun g=>([(0,.aa (.list (.list (.int .i64))) b),(1,dI d),(5,dI 0)],[])) (.ch ?_) fun g=>(.block (Sum.elim (fun _=>false) (fun _=>true)) (bf (fun _=>rfl) (fun _=>rfl)) (.loop (bf (fun _=>rfl) (fun _=>rfl)) (fun c=>([(0,.aa (.list (.list (.int .i64))) b),(1,dI c.1),(5,dI c.2)],[])) ?_ fun c=> .map (.ch ?_)))) fun e=>(.ch ?_)))<;>first|(intro h;simp only[JW,JX,tJ,JY,ae];kernel_rfl)|kernel_rfl⟩
 |_,_=>aj
def ajo:af Tryz.prog:=ak sq Tryz.func24 Tryz.call24 [XL,ajn] false [] fun
 |[.agg [.aa (.list (.int .i64)) b,.aa (.list (.list (.int .i64))) c],.aa (.int .i64) d],[]=>⟨ad.a (z1 b c d) fun t=>(dI t,[]),by refine al ?_ (.ch ?_)<;>first|(intro e;simp only[z1,ae];kernel_rfl)|kernel_rfl⟩
 |_,_=>aj
def apM:af Tryz.prog:=ak sq Tryz.func25 Tryz.call25 [] false [] fun
 |[.aa (.list .str) b,.aa (.int .i64) g],[]=>⟨ad.a (j0 b g) fun t=>(dI t,[]),by refine al ?_ (.group 2 (.aK (fun _=>rfl) (fun d=>([(0,.aa (.list .str) b),(1,dI d)],[])) (.ch ?_) fun d=>(.aK (fun _=>rfl) (fun e=>([(1,dI e)],[])) (.seq (fun f=>([(0,.aa (.list .str) b),(1,dI d),(5,dI 0)],[])) (.ch ?_) fun f=>(.block (Sum.elim (fun _=>false) (fun _=>true)) (bf (fun _=>rfl) (fun _=>rfl)) (.loop (bf (fun _=>rfl) (fun _=>rfl)) (fun c=>([(0,.aa (.list .str) b),(1,dI c.1),(5,dI c.2)],[])) ?_ fun c=> .map (.ch ?_)))) fun e=>(.ch ?_))))<;>first|(intro h;simp only[l1,l2,g6,l3,ae];kernel_rfl)|kernel_rfl⟩
 |_,_=>aj
def apN:af Tryz.prog:=ak sq Tryz.func26 Tryz.call26 [] false [] fun
 |[.aa (.list .str) b],[]=>⟨ad.a (j2 b) fun t=>(.ab 0,[some (.seq .str t)]),by refine al ?_ (.group 1 (.seq (fun d=>([(0,.aa (.list .str) b),(3,.ab 0)],[some (.seq .str d)])) (.ch ?_) fun d=>(.seq (fun e=>([(3,.ab 0)],[some (.seq .str e)])) (.seq (fun f=>([(0,.aa (.list .str) b),(3,.ab 0),(4,dI 0)],[some (.seq .str d)])) (.ch ?_) fun f=>(.block (fun _=>true) (fun _=>rfl) (.loop (fun _=>rfl) (fun c=>([(0,.aa (.list .str) b),(3,.ab 0),(4,dI c.1)],[some (.seq .str c.2)])) ?_ fun c=> .map (.ch ?_)))) fun e=>(.ch ?_))))<;>first|(intro g;simp only[l4,l5,g7,l6,ae];kernel_rfl)|kernel_rfl⟩
 |_,_=>aj
end Go.Rv
