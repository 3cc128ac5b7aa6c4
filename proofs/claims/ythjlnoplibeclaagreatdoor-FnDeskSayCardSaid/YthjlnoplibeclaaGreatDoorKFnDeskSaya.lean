/-
  The checked code answers as the plain functions do; written by program. Conditions: none.
-/
import Derived.Test.YthjlnoplibeclaaGreatDoorGFnDeskSay
import Derived.Test.YthjlnoplibeclaaGreatDoorFB
import Derived.Test.YthjlnoplibeclaaGreatDoorFB
import Derived.Test.YthjlnoplibeclaaGreatDoorFB
import Derived.Test.YthjlnoplibeclaaGreatDoorFB
import Derived.Test.YthjlnoplibeclaaGreatDoorFB
import Derived.Test.YthjlnoplibeclaaGreatDoorProg
set_option maxRecDepth 100000
open Go.Exit (ret normal)
open ByteArray (empty)
open List (replicate)
set_option linter.all false
namespace Go.Rv
open Go.Proofs
def cw:List (TypeId×TI):=[(3,⟨.int .i64,1,8,some (.int .i64),[.int .i64 0],false⟩),(4,⟨.bool,1,1,some .bool,[.bool false],false⟩),(5,⟨.int .u8,1,1,some (.int .u8),[.int .u8 0],false⟩),(9,⟨.str,1,16,some .str,[.string empty],false⟩),(22,⟨.slice 5,1,24,some (.list (.int .u8)),[.slice none 0 0],false⟩),(23,⟨.slice 3,1,24,some (.list (.int .i64)),[.slice none 0 0],false⟩),(24,⟨.slice 23,1,24,some (.list (.list (.int .i64))),[.slice none 0 0],false⟩),(26,⟨.eC [(0,23),(1,24)],2,48,some (.pair (.list (.int .i64)) (.pair (.list (.list (.int .i64))) .unit)),[.slice none 0 0,.slice none 0 0],false⟩),(34,⟨.slice 9,1,24,some (.list .str),[.slice none 0 0],false⟩),(53,⟨.eC [(0,3),(1,3),(2,3)],3,24,some (.pair (.int .i64) (.pair (.int .i64) (.pair (.int .i64) .unit))),[.int .i64 0,.int .i64 0,.int .i64 0],true⟩),(75,⟨.slice 78,1,24,some (.list (.int .u64)),[.slice none 0 0],false⟩),(78,⟨.int .u64,1,8,some (.int .u64),[.int .u64 0],false⟩),(83,⟨.eC [(0,22),(1,3)],2,32,some (.pair (.list (.int .u8)) (.pair (.int .i64) .unit)),[.slice none 0 0,.int .i64 0],false⟩),(90,⟨.hD,1,16,none,[.nilIface],false⟩),(93,⟨.scalar,1,8,none,[.nilFunc],false⟩),(95,⟨.map 9 93,1,8,none,[.map none],false⟩),(100,⟨.slice 53,1,24,some (.list (.pair (.int .i64) (.pair (.int .i64) (.pair (.int .i64) .unit)))),[.slice none 0 0],false⟩),(106,⟨.slice 4,1,24,some (.list .bool),[.slice none 0 0],false⟩),(120,⟨.arr 6 9,6,96,none,[.string empty,.string empty,.string empty,.string empty,.string empty,.string empty],false⟩),(124,⟨.scalar,1,8,none,[.nilFunc],false⟩),(126,⟨.eC [(0,23),(1,3),(2,3)],3,40,some (.pair (.list (.int .i64)) (.pair (.int .i64) (.pair (.int .i64) .unit))),[.slice none 0 0,.int .i64 0,.int .i64 0],false⟩),(147,⟨.int .u64,1,8,some (.int .u64),[.int .u64 0],false⟩),(157,⟨.eC [(0,3),(1,3)],2,16,some (.pair (.int .i64) (.pair (.int .i64) .unit)),[.int .i64 0,.int .i64 0],false⟩),(158,⟨.slice 157,1,24,some (.list (.pair (.int .i64) (.pair (.int .i64) .unit))),[.slice none 0 0],false⟩),(164,⟨.arr 9 3,9,72,none,[.int .i64 0,.int .i64 0,.int .i64 0,.int .i64 0,.int .i64 0,.int .i64 0,.int .i64 0,.int .i64 0,.int .i64 0],false⟩),(168,⟨.scalar,1,8,none,[.pointer none],false⟩),(170,⟨.map 5 174,1,8,none,[.map none],false⟩),(174,⟨.scalar,1,8,none,[.nilFunc],false⟩),(175,⟨.lk [("loop.example/headtrees/impl.putNext",252)],1,8,none,[.pointer none],false⟩),(177,⟨.map 5 184,1,8,none,[.map none],false⟩),(180,⟨.eC [(0,23),(1,23),(2,3),(3,3)],4,64,some (.pair (.list (.int .i64)) (.pair (.list (.int .i64)) (.pair (.int .i64) (.pair (.int .i64) .unit)))),[.slice none 0 0,.slice none 0 0,.int .i64 0,.int .i64 0],false⟩),(182,⟨.eC [(0,180),(4,78)],5,72,some (.pair (.pair (.list (.int .i64)) (.pair (.list (.int .i64)) (.pair (.int .i64) (.pair (.int .i64) .unit)))) (.pair (.int .u64) .unit)),[.slice none 0 0,.slice none 0 0,.int .i64 0,.int .i64 0,.int .u64 0],false⟩),(184,⟨.scalar,1,8,none,[.nilFunc],false⟩),(186,⟨.eC [(0,3),(1,3)],2,16,some (.pair (.int .i64) (.pair (.int .i64) .unit)),[.int .i64 0,.int .i64 0],false⟩),(188,⟨.arr 7 3,7,56,none,[.int .i64 0,.int .i64 0,.int .i64 0,.int .i64 0,.int .i64 0,.int .i64 0,.int .i64 0],false⟩),(190,⟨.eC [(0,188),(7,188)],14,112,none,[.int .i64 0,.int .i64 0,.int .i64 0,.int .i64 0,.int .i64 0,.int .i64 0,.int .i64 0,.int .i64 0,.int .i64 0,.int .i64 0,.int .i64 0,.int .i64 0,.int .i64 0,.int .i64 0],false⟩),(223,⟨.eC [(0,188),(7,188)],14,112,none,[.int .i64 0,.int .i64 0,.int .i64 0,.int .i64 0,.int .i64 0,.int .i64 0,.int .i64 0,.int .i64 0,.int .i64 0,.int .i64 0,.int .i64 0,.int .i64 0,.int .i64 0,.int .i64 0],false⟩),(229,⟨.arr 64 5,64,64,none,[.int .u8 0,.int .u8 0,.int .u8 0,.int .u8 0,.int .u8 0,.int .u8 0,.int .u8 0,.int .u8 0,.int .u8 0,.int .u8 0,.int .u8 0,.int .u8 0,.int .u8 0,.int .u8 0,.int .u8 0,.int .u8 0,.int .u8 0,.int .u8 0,.int .u8 0,.int .u8 0,.int .u8 0,.int .u8 0,.int .u8 0,.int .u8 0,.int .u8 0,.int .u8 0,.int .u8 0,.int .u8 0,.int .u8 0,.int .u8 0,.int .u8 0,.int .u8 0,.int .u8 0,.int .u8 0,.int .u8 0,.int .u8 0,.int .u8 0,.int .u8 0,.int .u8 0,.int .u8 0,.int .u8 0,.int .u8 0,.int .u8 0,.int .u8 0,.int .u8 0,.int .u8 0,.int .u8 0,.int .u8 0,.int .u8 0,.int .u8 0,.int .u8 0,.int .u8 0,.int .u8 0,.int .u8 0,.int .u8 0,.int .u8 0,.int .u8 0,.int .u8 0,.int .u8 0,.int .u8 0,.int .u8 0,.int .u8 0,.int .u8 0,.int .u8 0],false⟩),(239,⟨.arr 9 4,9,9,none,[.bool false,.bool false,.bool false,.bool false,.bool false,.bool false,.bool false,.bool false,.bool false],false⟩),(241,⟨.arr 2 3,2,16,none,[.int .i64 0,.int .i64 0],false⟩)]
theorem gi:bS Tryz.prog (bs cw):=aey (by kernel_rfl)
def fO (f:FuncId) (i:Nat):Bool:=[(108,0),(114,0),(159,1),(198,0),(239,0),(247,0),(283,0),(283,2),(298,0),(160,1000),(161,1000)].any fun p=>Nat.beq p.1 f&&Nat.beq p.2 i
def sq:rB Tryz.prog:=⟨cw,gi,fO,by kernel_rfl⟩
def af9:af Tryz.prog:=ak sq Tryz.func30 Tryz.call30 [] false [] fun
 |[.aa (.list (.int .u8)) b],[]=>⟨ad.a (wv b) fun t=>(.ptr 0 0,[some (.box [dV t,dI 0])]),by refine ao ?_ (.ch ?_)<;>first|(intro c;simp only[wv,ae];kernel_rfl)|kernel_rfl⟩
 |_,_=>aj
def jy:af Tryz.prog:=ak sq Tryz.func64 Tryz.call64 [] false [] fun
 |[.ptr 0 0,.aa (.int .i64) c],[some (.box [.aa (.list (.int .u8)) b,.aa (.int .i64) d])]=>⟨ad.a (ww c b d) fun t=>(dI t.1,[some (.box [dV b,dI t.2])]),by refine ao ?_ (.ch ?_)<;>first|(intro e;simp only[ww,ae];kernel_rfl)|kernel_rfl⟩
 |_,_=>aj
def WD:af Tryz.prog:=ak sq Tryz.func118 Tryz.call118 [jy] false [] fun
 |[.ptr 0 0,.aa (.int .i64) e],[some (.box [.aa (.list (.int .u8)) c,.aa (.int .i64) h])]=>⟨ad.a (DU e c h) fun t=>(.ab 1,[some (.box [dV c,dI t.1]),some (sI t.2)]),by refine ao ?_ (.group 2 (.seq (fun b=>([(0,.ptr 0 0),(1,dI e),(5,.ab 1),(6,dI b.1)],[some (.box [dV c,dI b.2]),some (sI ([]:List Int))])) (.ch ?_) fun b=>(.seq (fun f=>([(5,.ab 1)],[some (.box [dV c,dI f.1]),some (sI f.2)])) (.seq (fun g=>([(0,.ptr 0 0),(1,dI e),(5,.ab 1),(6,dI b.1),(7,dI 1)],[some (.box [dV c,dI b.2]),some (sI ([]:List Int))])) (.ch ?_) fun g=>(.block (fun _=>true) (fun _=>rfl) (.loop (fun _=>rfl) (fun d=>([(0,.ptr 0 0),(1,dI e),(5,.ab 1),(6,dI b.1),(7,dI d.1)],[some (.box [dV c,dI d.2.1]),some (sI d.2.2)])) ?_ fun d=> .map (.ch ?_)))) fun f=>(.ch ?_))))<;>first|(intro i;simp only[DS,DT,wx,Ow,ae];kernel_rfl)|kernel_rfl⟩
 |_,_=>aj
def Kd:af Tryz.prog:=ak sq Tryz.func65 Tryz.call65 [jy] false [] fun
 |[.ptr 0 0,.aa (.int .i64) c],[some (.box [.aa (.list (.int .u8)) b,.aa (.int .i64) d])]=>⟨ad.a (wz c b d) fun t=>(dB t.1,[some (.box [dV b,dI t.2])]),by refine ao ?_ (.ch ?_)<;>first|(intro e;simp only[wz,ae];kernel_rfl)|kernel_rfl⟩
 |_,_=>aj
def WE:af Tryz.prog:=ak sq Tryz.func116 Tryz.call116 [jy,WD,Kd] false [] fun
 |[.ptr 0 0,.aa (.int .i64) d],[some (.box [.aa (.list (.int .u8)) c,.aa (.int .i64) h])]=>⟨ad.a (DY d c h) fun t=>(.ab 1,[some (.box [dV c,dI t.1]),some (sI t.2)]),by refine ao ?_ (.group 4 (.seq (fun b=>([(0,.ptr 0 0),(1,dI d),(5,dI b.1),(6,.ab 1),(7,.ab 2),(8,dI b.2.1)],[some (.box [dV c,dI b.2.2.1]),some (sI b.2.2.2.1),some (sI b.2.2.2.2)])) (.ch ?_) fun b=>(.seq (fun f=>([(0,.ptr 0 0),(1,dI d),(5,dI b.1),(7,.ab 1)],[some (.box [dV c,dI f.1]),some (sI f.2)])) (.seq (fun g=>([(0,.ptr 0 0),(1,dI d),(5,dI b.1),(6,.ab 1),(7,.ab 2),(8,dI b.2.1),(9,dI 1)],[some (.box [dV c,dI b.2.2.1]),some (sI b.2.2.2.1),some (sI b.2.2.2.2)])) (.ch ?_) fun g=>(.block (fun _=>true) (fun _=>rfl) (.loop (fun _=>rfl) (fun e=>([(0,.ptr 0 0),(1,dI d),(5,dI b.1),(6,.ab 1),(7,.ab 2),(8,dI b.2.1),(9,dI e.1)],[some (.box [dV c,dI e.2.1]),some (sI b.2.2.2.1),some (sI e.2.2)])) ?_ fun e=> .map (.ch ?_)))) fun f=>(.ch ?_))))<;>first|(intro i;simp only[DV,DW,wA,DX,ae];kernel_rfl)|kernel_rfl⟩
 |_,_=>aj
def mc:af Tryz.prog:=ak sq Tryz.func110 Tryz.call110 [] false [] fun
 |[.aa (.int .i64) b,.aa (.int .i64) c,.aa (.int .i64) d],[]=>⟨ad.a (wC b c d) fun t=>(dB t,[]),by refine ao ?_ (.ch ?_)<;>first|(intro e;simp only[wC,ae];kernel_rfl)|kernel_rfl⟩
 |_,_=>aj
def ev:af Tryz.prog:=ak sq Tryz.func62 Tryz.call62 [mc] false [] fun
 |[.aa (.list (.int .i64)) d],[]=>⟨ad.a (D7 d) fun t=>(dB t,[]),by refine ao ?_ (.group 3 (.aN (fun _=>rfl) (fun c=>([(0,dL d),(3,dI c),(4,dI 0)],[])) (.ch ?_) fun c=>(.aN (fun _=>rfl) (fun g=>([(4,dI g)],[])) (.seq (fun j=>([(0,dL d),(3,dI c),(4,dI 0),(5,dI 0)],[])) (.ch ?_) fun j=>(.block (Sum.elim (fun _=>false) (fun _=>true)) (bm (fun _=>rfl) (fun _=>rfl)) (.loop (bm (fun _=>rfl) (fun _=>rfl)) (fun b=>([(0,dL d),(3,dI c),(4,dI b.1),(5,dI b.2)],[])) ?_ fun b=> .map (.aN (fun _=>rfl) (fun k=>([(0,dL d),(3,dI c),(4,dI b.1),(5,dI b.2)],[])) (.ch ?_) fun k=>(.map (.aN (fun _=>rfl) (fun h=>([(0,dL d),(3,dI c),(4,dI h),(5,dI b.2)],[])) (.block (fun _=>false) (bm (fun _=>rfl) (fun _=>rfl)) (.group 2 (.aN (fun _=>rfl) (fun e=>([(0,dL d),(3,dI c),(4,dI e.1),(5,dI b.2),(6,dI e.2)],[])) (.ch ?_) fun e=>(.map (.aN (fun _=>rfl) (fun i=>([(0,dL d),(3,dI c),(4,dI e.1),(5,dI b.2),(6,dI i)],[])) (.seq (fun l=>([(0,dL d),(3,dI c),(4,dI e.1),(5,dI b.2),(6,dI e.2),(7,dI 0)],[])) (.ch ?_) fun l=>(.block (Sum.elim (fun _=>false) (fun _=>true)) (bm (fun _=>rfl) (fun _=>rfl)) (.loop (bm (fun _=>rfl) (fun _=>rfl)) (fun f=>([(0,dL d),(3,dI c),(4,dI e.1),(5,dI b.2),(6,dI f.1),(7,dI f.2)],[])) ?_ fun f=> .map (.ch ?_)))) fun i=>(.ch ?_)))))) fun h=>(.map (.ch ?_)))))))) fun g=>(.ch ?_))))<;>first|(intro m;simp only[DZ,D0,wD,D1,D2,wE,D4,D5,D6,ae];kernel_rfl)|kernel_rfl⟩
 |_,_=>aj
def WF:af Tryz.prog:=ak sq Tryz.func151 Tryz.call151 [mc] false [] fun
 |[.aa (.list (.int .i64)) b,.aa (.int .i64) c],[]=>⟨ad.a (Eg b c) fun t=>(dB t,[]),by refine ao ?_ (.seq (fun f=>([(0,dL b),(1,dI c)],[])) (.ch ?_) fun f=>(.aN (fun _=>rfl) (fun g=>([(0,dL b),(1,dI c)],[])) (.seq (fun h=>([(0,dL b),(1,dI c),(5,dI 0)],[])) (.ch ?_) fun h=>(.block (Sum.elim (fun _=>false) (fun _=>true)) (bm (fun _=>rfl) (fun _=>rfl)) (.loop (bm (fun _=>rfl) (fun _=>rfl)) (fun d=>([(0,dL b),(1,dI c),(5,dI d)],[])) ?_ fun d=> .map (.aN (fun _=>rfl) (fun i=>([(0,dL b),(1,dI c),(5,dI d)],[])) (.ch ?_) fun i=>(.map (.aN (fun _=>rfl) (fun j=>([(0,dL b),(1,dI c),(5,dI d)],[])) (.block (fun _=>false) (bm (fun _=>rfl) (fun _=>rfl)) (.group 1 (.aN (fun _=>rfl) (fun k=>([(0,dL b),(1,dI c),(5,dI d),(6,dI 0)],[])) (.ch ?_) fun k=>(.block (Sum.elim (fun _=>false) (fun _=>true)) (bm (fun _=>rfl) (fun _=>rfl)) (.loop (bm (fun _=>rfl) (fun _=>rfl)) (fun e=>([(0,dL b),(1,dI c),(5,dI d),(6,dI e)],[])) ?_ fun e=> .map (.ch ?_)))))) fun j=>(.map (.ch ?_)))))))) fun g=>(.ch ?_)))<;>first|(intro l;simp only[D8,D9,Ea,Eb,wG,Ed,Ef,ae];kernel_rfl)|kernel_rfl⟩
 |_,_=>aj
def WG:af Tryz.prog:=ak sq Tryz.func117 Tryz.call117 [ev,WF] false [] fun
 |[.aa (.list (.int .i64)) b,.aa (.list (.int .i64)) c],[]=>⟨ad.a (Em b c) fun t=>(.aW [.ab 0,dB t.1],[some (sI t.2)]),by refine ao ?_ (.group 2 (.aN (fun _=>rfl) (fun g=>([(0,dL b),(1,dL c),(6,.ab 0)],[some (sI g)])) (.ch ?_) fun g=>(.seq (fun d=>([(0,dL b),(1,dL c),(6,.ab 0)],[some (sI d)])) (.seq (fun i=>([(0,dL b),(1,dL c),(6,.ab 0),(7,dI 0)],[some (sI g)])) (.ch ?_) fun i=>(.block (fun _=>true) (fun _=>rfl) (.loop (fun _=>rfl) (fun e=>([(0,dL b),(1,dL c),(6,.ab 0),(7,dI e.1)],[some (sI e.2)])) ?_ fun e=> .map (.ch ?_)))) fun d=>(.seq (fun j=>([(0,dL b),(1,dL c),(6,.ab 0),(8,.ab 1)],[some (sI d),some (sI ([]:List Int))])) (.ch ?_) fun j=>(.seq (fun h=>([(8,.ab 0)],[some (sI h)])) (.seq (fun k=>([(0,dL b),(1,dL c),(6,.ab 0),(8,.ab 1),(9,dI 0)],[some (sI d),some (sI ([]:List Int))])) (.ch ?_) fun k=>(.block (fun _=>true) (fun _=>rfl) (.loop (fun _=>rfl) (fun f=>([(0,dL b),(1,dL c),(6,.ab 0),(8,.ab 1),(9,dI f.1)],[some (sI d),some (sI f.2)])) ?_ fun f=> .map (.ch ?_)))) fun h=>(.ch ?_))))))<;>first|(intro l;simp only[Eh,Ei,rF,Ej,Ek,wI,El,ae];kernel_rfl)|kernel_rfl⟩
 |_,_=>aj
noncomputable def WH:bf:=fK [] Tryz.f159
def kF (n:Nat):be:=fun avs b=>
 match avs,b with
 |[.ptr 0 0,.ab 1,.aa (.int .i64) c,.aa (.int .i64) d,.aa (.int .i64) e],[some (.box [.aa (.list (.int .u8)) a,.aa (.int .i64) f]),some (.seq (.int .i64) g)]=>⟨_,pp n c d e a f g,fun t=>(.aW [],[some (.box [dV a,dI t.1]),some (sI t.2)]),[],none⟩
 |_,_=>ad.no
noncomputable def WI (n:Nat):Ctx:=⟨bs cw,cF [(64,(af.F jy)),(159,kF n)],fO,2,false,[]⟩
theorem aga (n:Nat) (g:Int) (c:Int) (j:Int) (a:List Int) (k:Int) (l:List Int) {r:AV} {m:Heap} (h:(ad.mk _ (pp (n+1) g c j a k l) (fun t=>(.aW [],[some (.box [dV a,dI t.1]),some (sI t.2)])) [] none).run=some (r,m)):bK (WI n) LL (bY Tryz.f159) WH ⟨bU 70 0 [(0,.ptr 0 0),(1,.ab 1),(2,dI g),(3,dI c),(4,dI j)],[some (.box [dV a,dI k]),some (sI l)]⟩ (dh (bs cw) Tryz.f159.results.toList r m):=
 rq (Lk.go (N:=70) (n:=Ep (pp n) g c j a k l) (fin:=(Sum.elim (fun t=>(normal,⟨bU 70 0 [],[some (.box [dV a,dI t.1]),some (sI t.2)]⟩)) (fun t=>(ret,⟨bU 70 0 [],[some (.box [dV a,dI t.1]),some (sI t.2)]⟩)))) (.group 3 (.aN (fun _=>rfl) (fun b=>([(0,.ptr 0 0),(1,.ab 1),(3,dI c),(10,dI b.1),(11,dI g)],[some (.box [dV a,dI b.2.1]),some (sI b.2.2)])) (.ch fun i=>by simp only[En,ae];kernel_rfl) fun b=>(.map (.seq (fun d=>([(0,.ptr 0 0),(1,.ab 1),(3,dI c),(10,dI b.1)],[some (.box [dV a,dI d.1]),some (sI d.2)])) (.block (fun _=>true) (fun _=>rfl) (.loop (fun _=>rfl) (fun e=>([(0,.ptr 0 0),(1,.ab 1),(3,dI c),(10,dI b.1),(11,dI e.1)],[some (.box [dV a,dI e.2.1]),some (sI e.2.2)])) (by kernel_rfl) fun e=> .map (.ch fun i=>by simp only[wK,ae];kernel_rfl))) fun d=>(.seq (fun o=>([(0,.ptr 0 0),(1,.ab 1),(3,dI c),(10,dI b.1),(11,dI o)],[some (.box [dV a,dI d.1]),some (sI d.2)])) (.ch fun i=>by simp only[Eo,ae];kernel_rfl) fun o=>(.block (fun _=>true) (fun _=>rfl) (.loop (fun _=>rfl) (fun f=>([(0,.ptr 0 0),(1,.ab 1),(3,dI c),(10,dI b.1),(11,dI f.1)],[some (.box [dV a,dI f.2.1]),some (sI f.2.2)])) (by kernel_rfl) fun f=> .map (.ch fun i=>by simp only[wL,ae];kernel_rfl)))))))) (by kernel_rfl)) (Sum.elim (fun t=>(t.1,t.2)) (fun t=>t)) (by kernel_rfl) (by
 rintro(t|t)
 ·exact es (by kernel_rfl)
 ·exact es (by kernel_rfl)) h
theorem agb (n:Nat) (a:Sound Tryz.prog 159 (kF n)):Sound Tryz.prog 159 (kF (n+1)):=by
 refine gg (C:=WI n) (c:=bY Tryz.f159) (ge gi (aY (af.s jy) (aY a cQ)) (aY Tryz.call64 (aY Tryz.call159 cQ)) (by kernel_rfl)) Tryz.func159 (by kernel_rfl) LL WH ?_
 intro avs b r d h
 unfold kF at h
 split at h
 ·refine bK.cast ?_ ?_ ?_ (aga n _ _ _ _ _ _ h)<;>kernel_rfl
 ·simp[ad.no,ad.run] at h
theorem agc:Sound Tryz.prog 159 (kF 0):=by
 intro avs a r b h
 unfold kF at h
 split at h
 ·simp[pp,nv,ad.run] at h
 ·simp[ad.no,ad.run] at h
theorem WJ: ∀n,Sound Tryz.prog 159 (kF n)
 |0=>agc
 |n+1=>by
  have a:=WJ n
  exact agb n a
def Ao:be:=fun avs b=>
 match avs,b with
 |[.ptr 0 0,.ab 1,.aa (.int .i64) c,.aa (.int .i64) d,.aa (.int .i64) e],[some (.box [.aa (.list (.int .u8)) a,.aa (.int .i64) f]),some (.seq (.int .i64) g)]=>⟨_,rG c d e a f g,fun t=>(.aW [],[some (.box [dV a,dI t.1]),some (sI t.2)]),[],none⟩
 |_,_=>ad.no
theorem agd:Sound Tryz.prog 159 Ao:=by
 have e:Ao=kF RR:=by
  funext avs H
  unfold Ao kF
  split<;>first|rfl|(simp only[rG])
 rw[e]
 exact(WJ RR)
def age:af Tryz.prog:=ak sq Tryz.func119 Tryz.call119 [jy,WE,⟨159,Ao,agd,Tryz.call159⟩] false [] fun
 |[.ptr 0 0,.aa (.int .i64) c],[some (.box [.aa (.list (.int .u8)) b,.aa (.int .i64) d])]=>⟨ad.a (rH c b d) fun t=>(.ab 1,[some (.box [dV b,dI t.1]),some (sI t.2)]),by refine ao ?_ (.ch ?_)<;>first|(intro e;simp only[rH,ae];kernel_rfl)|kernel_rfl⟩
 |_,_=>aj
def agf:af Tryz.prog:=ak sq Tryz.func80 Tryz.call80 [WE,jy,ev,WD,WG,age] false [] fun
 |[.ptr 0 0,.aa (.int .i64) c],[some (.box [.aa (.list (.int .u8)) b,.aa (.int .i64) d])]=>⟨ad.a (rI c b d) fun t=>(.ab 1,[some (.box [dV b,dI t.1]),some (sI t.2)]),by refine ao ?_ (.ch ?_)<;>first|(intro e;simp only[rI,ae];kernel_rfl)|kernel_rfl⟩
 |_,_=>aj
def agh:af Tryz.prog:=ak sq Tryz.func79 Tryz.call79 [ev] false [(3,.t [⟨0,2,false,some 0,some ((.int .i64))⟩])] fun
 |[.aa (.list (.int .i64)) b],[]=>⟨ad.a (rJ b) fun t=>(.aW [.agg [.ab 1,.aI],dB t.1],[some (.box [.ab 1,.aI]),some (sI t.2)]),by refine eu (fun t=> [(2,.ptr 0 0),(3,dB t.1)]) ?_ (.ch ?_)<;>first|(intro c;simp only[rJ,ae];kernel_rfl)|kernel_rfl⟩
 |_,_=>aj
def WK:af Tryz.prog:=ak sq Tryz.func81 Tryz.call81 [jy,Kd] false [(12,.d [0,3,4] [0,1,5,2,3,4,6,7,8,9,10,11,12])] fun
 |[.ptr 0 0,.aa (.list (.int .i64)) c],[some (.box [.aa (.list (.int .u8)) b,.aa (.int .i64) e])]=>⟨ad.a (rK c b e) fun t=>(.agg [dI t.2.1,dI t.2.2.1,dI t.2.2.2],[some (.box [dV b,dI t.1]),some (.box [dI t.2.1,dI t.2.2.1,dI t.2.2.2])]),by refine eu (fun t=> [(4,.ptr 1 0)]) ?_ (.ch ?_)<;>first|(intro f;simp only[rK,ae];kernel_rfl)|kernel_rfl⟩
 |_,_=>aj
def Ke:af Tryz.prog:=ak sq Tryz.func11 Tryz.call11 [ev] false [] fun
 |[.agg [.aa (.list (.int .i64)) b,.aa (.list (.list (.int .i64))) c]],[]=>⟨ad.a (wO b c) fun t=>(dB t,[]),by refine ao ?_ (.seq (fun e=>([(1,.ptr 0 0)],[some (.box [dL b,.aa (.list (.list (.int .i64))) c])])) (.ch ?_) fun e=>(.aN (fun _=>rfl) (fun f=>([(1,.ptr 0 0)],[some (.box [dL b,.aa (.list (.list (.int .i64))) c])])) (.seq (fun g=>([(1,.ptr 0 0),(3,dI 0)],[some (.box [dL b,.aa (.list (.list (.int .i64))) c])])) (.ch ?_) fun g=>(.block (Sum.elim (fun _=>false) (fun _=>true)) (bm (fun _=>rfl) (fun _=>rfl)) (.loop (bm (fun _=>rfl) (fun _=>rfl)) (fun d=>([(1,.ptr 0 0),(3,dI d)],[some (.box [dL b,.aa (.list (.list (.int .i64))) c])])) ?_ fun d=> .map (.ch ?_)))) fun f=>(.ch ?_)))<;>first|(intro h;simp only[Er,Es,pr,Et,ae];kernel_rfl)|kernel_rfl⟩
 |_,_=>aj
def WL:af Tryz.prog:=ak sq Tryz.func37 Tryz.call37 [] true [(3,.d [8,2,100010] []),(7,.t [⟨1,3,true,some 1,some ((.int .i64))⟩])] fun
 |[.agg [.aa (.list (.int .i64)) c,.aa (.list (.list (.int .i64))) e]],[]=>⟨ad.a (wP c e) fun t=>(.agg [.ab 1,.ab 2],[some (.box [.ab 1,.ab 2]),some (sI t.1),some (.nest (.int .i64) t.2 0 [])]),by refine eu (fun t=> [(2,.ptr 0 0)]) ?_ (.group 1 (.seq (fun b=>([(1,.ptr 0 0),(2,.ptr 1 0),(3,.ptr 2 0)],[some (.box [dL c,.aa (.list (.list (.int .i64))) e]),some (.box [.aI,.aI]),some (.box [.ab 3,.aI]),some (sI b)])) (.ch ?_) fun b=>(.seq (fun g=>([(2,.ptr 0 0),(3,.ptr 1 0)],[some (.box [.aI,.aI]),some (.box [.ab 2,.ab 3]),some (sI b),some (.nest (.int .i64) g 0 [])])) (.seq (fun h=>([(1,.ptr 0 0),(2,.ptr 1 0),(3,.ptr 2 0),(4,dI 0)],[some (.box [dL c,.aa (.list (.list (.int .i64))) e]),some (.box [.aI,.aI]),some (.box [.ab 3,.ab 4]),some (sI b),some (.nest (.int .i64) ([]:List (List Int)) 0 [])])) (.ch ?_) fun h=>(.block (fun _=>true) (fun _=>rfl) (.loop (fun _=>rfl) (fun f=>([(1,.ptr 0 0),(2,.ptr 1 0),(3,.ptr 2 0),(4,dI f.1)],[some (.box [dL c,.aa (.list (.list (.int .i64))) e]),some (.box [.aI,.aI]),some (.box [.ab 3,.ab 4]),some (sI b),some (.nest (.int .i64) f.2 0 [])])) ?_ fun f=> .map (.ch ?_)))) fun g=>(.ch ?_))))<;>first|(intro i;simp only[Eu,Ev,rL,Ew,ae];kernel_rfl)|kernel_rfl⟩
 |_,_=>aj
def agi:af Tryz.prog:=ak sq Tryz.func148 Tryz.call148 [ev] false [] fun
 |[.aa (.list (.int .i64)) c],[]=>⟨ad.a (wQ c) fun t=>(.ab 0,[some (sI t)]),by refine ao ?_ (.group 2 (.seq (fun b=>([(0,dL c),(3,.ab 0),(4,dI b)],[some (sI ([]:List Int))])) (.ch ?_) fun b=>(.seq (fun e=>([(3,.ab 0)],[some (sI e)])) (.seq (fun f=>([(0,dL c),(3,.ab 0),(4,dI b),(5,dI f)],[some (sI ([]:List Int))])) (.ch ?_) fun f=>(.block (fun _=>true) (fun _=>rfl) (.loop (fun _=>rfl) (fun d=>([(0,dL c),(3,.ab 0),(4,dI b),(5,dI d.1)],[some (sI d.2)])) ?_ fun d=> .map (.ch ?_)))) fun e=>(.ch ?_))))<;>first|(intro g;simp only[Ex,Ey,nx,Ez,ae];kernel_rfl)|kernel_rfl⟩
 |_,_=>aj
def Kg:af Tryz.prog:=ak sq Tryz.func44 Tryz.call44 [ev] false [] fun
 |[.aa (.list (.int .i64)) b],[]=>⟨ad.a (ED b) fun t=>(dI t,[]),by refine ao ?_ (.seq (fun d=>([(0,dL b)],[])) (.ch ?_) fun d=>(.aN (fun _=>rfl) (fun e=>([],[])) (.seq (fun f=>([(0,dL b),(3,dI 0)],[])) (.ch ?_) fun f=>(.block (Sum.elim (fun _=>false) (fun _=>true)) (bm (fun _=>rfl) (fun _=>rfl)) (.loop (bm (fun _=>rfl) (fun _=>rfl)) (fun c=>([(0,dL b),(3,dI c)],[])) ?_ fun c=> .map (.ch ?_)))) fun e=>(.ch ?_)))<;>first|(intro g;simp only[EA,EB,pt,EC,ae];kernel_rfl)|kernel_rfl⟩
 |_,_=>aj
noncomputable def WM:bf:=fK [] Tryz.f95
def kG (n:Nat):be:=fun avs a=>
 match avs,a with
 |[.aa (.list (.int .i64)) b,.aa (.int .i64) c],[]=>⟨_,lO n b c,fun t=>(.ab 0,[some (sI t)]),[],none⟩
 |_,_=>ad.no
noncomputable def WN (n:Nat):Ctx:=⟨bs cw,cF [(95,kG n)],fO,0,false,[]⟩
theorem agj (n:Nat) (a:List Int) (b:Int) {r:AV} {g:Heap} (h:(ad.mk _ (lO (n+1) a b) (fun t=>(.ab 0,[some (sI t)])) [] none).run=some (r,g)):bK (WN n) LL (bY Tryz.f95) WM ⟨bU 51 0 [(0,dL a),(1,dI b)],[]⟩ (dh (bs cw) Tryz.f95.results.toList r g):=
 gf (Lk.go (N:=51) (n:=EJ (lO n) a b) (fin:=(fun t=>(ret,⟨bU 51 0 [(4,.ab 0)],[some (sI t)]⟩))) (.group 1 (.seq (fun l=>([(0,dL a),(1,dI b),(5,.ab 0)],[some (sI ([]:List Int))])) (.ch fun c=>by simp only[EE,ae];kernel_rfl) fun l=>(.seq (fun i=>([(0,dL a),(1,dI b),(5,.ab 0)],[some (sI i)])) (.seq (fun m=>([(0,dL a),(1,dI b),(5,.ab 0),(6,dI 1)],[some (sI ([]:List Int))])) (.ch fun c=>by simp only[EF,ae];kernel_rfl) fun m=>(.block (fun _=>true) (fun _=>rfl) (.loop (fun _=>rfl) (fun d=>([(0,dL a),(1,dI b),(5,.ab 0),(6,dI d.1)],[some (sI d.2)])) (by kernel_rfl) fun d=> .map (.ch fun c=>by simp only[rO,ae];kernel_rfl)))) fun i=>(.seq (fun f=>([(0,dL a),(1,dI b),(5,.ab 0)],[some (sI f)])) (.ch fun c=>by simp only[EG,ae];kernel_rfl) fun f=>(.seq (fun j=>([(5,.ab 0)],[some (sI j)])) (.seq (fun k=>([(0,dL a),(1,dI b),(5,.ab 0),(7,dI k)],[some (sI f)])) (.ch fun c=>by simp only[EH,ae];kernel_rfl) fun k=>(.block (fun _=>true) (fun _=>rfl) (.loop (fun _=>rfl) (fun e=>([(0,dL a),(1,dI b),(5,.ab 0),(7,dI e.1)],[some (sI e.2)])) (by kernel_rfl) fun e=> .map (.ch fun c=>by simp only[rP,ae];kernel_rfl)))) fun j=>(.ch fun c=>by simp only[EI,ae];kernel_rfl)))))) (by kernel_rfl)) (by kernel_rfl) (fun t=>es (by kernel_rfl)) h
theorem agk (n:Nat) (a:Sound Tryz.prog 95 (kG n)):Sound Tryz.prog 95 (kG (n+1)):=by
 refine gg (C:=WN n) (c:=bY Tryz.f95) (ge gi (aY a cQ) (aY Tryz.call95 cQ) (by kernel_rfl)) Tryz.func95 (by kernel_rfl) LL WM ?_
 intro avs b r d h
 unfold kG at h
 split at h
 ·refine bK.cast ?_ ?_ ?_ (agj n _ _ h)<;>kernel_rfl
 ·simp[ad.no,ad.run] at h
theorem agl:Sound Tryz.prog 95 (kG 0):=by
 intro avs a r b h
 unfold kG at h
 split at h
 ·simp[lO,ny,ad.run] at h
 ·simp[ad.no,ad.run] at h
theorem WO: ∀n,Sound Tryz.prog 95 (kG n)
 |0=>agl
 |n+1=>by
  have a:=WO n
  exact agk n a
def Ap:be:=fun avs a=>
 match avs,a with
 |[.aa (.list (.int .i64)) b,.aa (.int .i64) c],[]=>⟨_,rQ b c,fun t=>(.ab 0,[some (sI t)]),[],none⟩
 |_,_=>ad.no
theorem agm:Sound Tryz.prog 95 Ap:=by
 have e:Ap=kG RR:=by
  funext avs H
  unfold Ap kG
  split<;>first|rfl|(simp only[rQ])
 rw[e]
 exact(WO RR)
def Kh:af Tryz.prog:=ak sq Tryz.func42 Tryz.call42 [ev,Kg,⟨95,Ap,agm,Tryz.call95⟩] false [] fun
 |[.aa (.list (.int .i64)) b],[]=>⟨ad.a (wR b) fun t=>(.ab 0,[some (sI t)]),by refine ao ?_ (.ch ?_)<;>first|(intro c;simp only[wR,ae];kernel_rfl)|kernel_rfl⟩
 |_,_=>aj
def agn:af Tryz.prog:=ak sq Tryz.func149 Tryz.call149 [Kh,WG] false [] fun
 |[.aa (.list (.int .i64)) b],[]=>⟨ad.a (wS b) fun t=>(.ab 0,[some (sI t)]),by refine ao ?_ (.ch ?_)<;>first|(intro c;simp only[wS,ae];kernel_rfl)|kernel_rfl⟩
 |_,_=>aj
def ago:af Tryz.prog:=ak sq Tryz.func94 Tryz.call94 [mc,agi,agn] false [(0,.t [⟨0,4,true,none,none⟩]),(3,.t [⟨0,4,true,none,none⟩]),(6,.t [⟨0,4,true,none,none⟩]),(12,.t [⟨0,4,true,none,none⟩]),(15,.t [⟨0,4,true,none,none⟩])] fun
 |[.aa (.list (.int .i64)) b,.agg [.aa (.int .i64) c,.aa (.int .i64) d,.aa (.int .i64) e]],[]=>⟨ad.a (rT b c d e) fun t=>(.win 0 0 t.1,[some (sI t.2)]),by refine ao ?_ (.ch ?_)<;>first|(intro f;simp only[rT,ae];kernel_rfl)|kernel_rfl⟩
 |_,_=>aj
def WP:af Tryz.prog:=ak sq Tryz.func39 Tryz.call39 [Ke,WL,ago,ev] true [(28,.t [⟨0,4,false,some 0,some ((.int .i64))⟩,⟨0,4,true,some 1,some ((.int .i64))⟩])] fun
 |[.agg [.aa (.list (.int .i64)) c,.aa (.list (.list (.int .i64))) d],.agg [.aa (.int .i64) h,.aa (.int .i64) i,.aa (.int .i64) j]],[]=>⟨ad.a (wT c d h i j) fun t=>(.aW [.agg [.ab 1,.ab 2],dB t.1],[some (.box [.ab 1,.ab 2]),some (sI t.2.1),some (.nest (.int .i64) t.2.2 0 [])]),by refine eu (fun t=> [(4,.ptr 0 0),(5,dB t.1)]) ?_ (.group 5 (.aN (fun _=>rfl) (fun b=>([(2,.ptr 0 0),(4,.ptr 1 0),(6,.ptr 2 0),(8,.win 3 0 b.1),(9,dB b.2.1)],[some (.box [dL c,.aa (.list (.list (.int .i64))) d]),some (.box [.aI,.aI]),some (.box [.ab 4,.ab 5]),some (sI b.2.2.1),some (sI b.2.2.2.1),some (.nest (.int .i64) b.2.2.2.2 0 [])])) (.ch ?_) fun b=>(.seq (fun f=>([(4,.ptr 0 0),(6,.ptr 1 0),(8,.win 2 0 b.1),(9,dB f)],[some (.box [.aI,.aI]),some (.box [.ab 3,.ab 4]),some (sI b.2.2.1),some (sI b.2.2.2.1),some (.nest (.int .i64) b.2.2.2.2 0 [])])) (.seq (fun g=>([(2,.ptr 0 0),(4,.ptr 1 0),(6,.ptr 2 0),(8,.win 3 0 b.1),(9,dB b.2.1),(10,dI 0)],[some (.box [dL c,.aa (.list (.list (.int .i64))) d]),some (.box [.aI,.aI]),some (.box [.ab 4,.ab 5]),some (sI b.2.2.1),some (sI b.2.2.2.1),some (.nest (.int .i64) b.2.2.2.2 0 [])])) (.ch ?_) fun g=>(.block (fun _=>true) (fun _=>rfl) (.loop (fun _=>rfl) (fun e=>([(2,.ptr 0 0),(4,.ptr 1 0),(6,.ptr 2 0),(8,.win 3 0 b.1),(9,dB e.1),(10,dI e.2)],[some (.box [dL c,.aa (.list (.list (.int .i64))) d]),some (.box [.aI,.aI]),some (.box [.ab 4,.ab 5]),some (sI b.2.2.1),some (sI b.2.2.2.1),some (.nest (.int .i64) b.2.2.2.2 0 [])])) ?_ fun e=> .map (.ch ?_)))) fun f=>(.ch ?_))))<;>first|(intro k;simp only[EM,EN,pw,EQ,ae];kernel_rfl)|kernel_rfl⟩
 |_,_=>aj
def agp:af Tryz.prog:=ak sq Tryz.func31 Tryz.call31 [agf,agh,jy,WK,WP,Kd] true [(0,.t [⟨0,4,false,some 0,none⟩]),(3,.t [⟨0,4,false,some 0,some ((.int .i64))⟩,⟨0,4,false,some 0,none⟩,⟨0,4,true,some 1,some ((.int .i64))⟩]),(11,.t [⟨3,5,false,some 0,none⟩,⟨3,5,true,some 1,some ((.int .i64))⟩]),(15,.d [5,200002,300000] []),(17,.t [⟨0,5,false,some 0,none⟩]),(19,.t [⟨3,5,false,some 0,none⟩,⟨3,5,true,some 1,some ((.int .i64))⟩])] fun
 |[.ptr 0 0,.aa (.int .i64) e],[some (.box [.aa (.list (.int .u8)) b,.aa (.int .i64) i])]=>⟨ad.a (wV e b i) fun t=>(.agg [dL t.2.1,.ab 2],[some (.box [dV b,dI t.1]),some (.box [dL t.2.1,.ab 2]),some (.nest (.int .i64) t.2.2 0 [])]),by refine eu (fun t=> [(4,.ptr 1 0)]) ?_ (.group 1 (.seq (fun f=>([(0,.ptr 0 0),(1,dI e),(4,.ptr 1 0),(5,.ptr 2 0)],[some (.box [dV b,dI f.1]),some (.box [.aI,.aI]),some (.box [.ab 3,.aI]),some (sI f.2)])) (.ch ?_) fun f=>(.seq (fun g=>([(0,.ptr 0 0),(1,dI e),(4,.ptr 1 0),(5,.ptr 2 0)],[some (.box [dV b,dI g.1]),some (.box [.aI,.aI]),some (.box [dL g.2.1,.ab 3]),some (.nest (.int .i64) g.2.2 0 [])])) (.seq (fun h=>([(0,.ptr 0 0),(1,dI e),(4,.ptr 1 0),(5,.ptr 2 0),(7,dI h.1)],[some (.box [dV b,dI h.2]),some (.box [.aI,.aI]),some (.box [dL f.2,.ab 3]),some (.nest (.int .i64) ([]:List (List Int)) 0 [])])) (.ch ?_) fun h=>(.block (fun _=>true) (fun _=>rfl) (.loop (fun _=>rfl) (fun c=>([(0,.ptr 0 0),(1,dI e),(4,.ptr 1 0),(5,.ptr 2 0),(7,dI c.1)],[some (.box [dV b,dI c.2.1]),some (.box [.aI,.aI]),some (.box [dL c.2.2.1,.ab 3]),some (.nest (.int .i64) c.2.2.2 0 [])])) ?_ fun c=> .map (.ch ?_)))) fun g=>(.ch ?_))))<;>first|(intro j;simp only[ES,ET,wU,EU,ae];kernel_rfl)|kernel_rfl⟩
 |_,_=>aj
noncomputable def WQ:bf:=fK [(1,.d [2,7] [0,1,3,4,5,6,7,8,2,9,10]),(4,.t [⟨5,9,false,none,none⟩])] Tryz.f43
def kH (n:Nat):be:=fun avs a=>
 match avs,a with
 |[.aa (.int .i64) b],[]=>⟨_,rW n b,fun t=>(dS t,[]),[],none⟩
 |_,_=>ad.no
noncomputable def WR (n:Nat):Ctx:=⟨bs cw,cF [(43,kH n)],fO,0,false,[]⟩
theorem agq (n:Nat) (a:Int) {r:AV} {b:Heap} (h:(ad.mk _ (rW (n+1) a) (fun t=>(dS t,[])) [] none).run=some (r,b)):bK (WR n) LL (bY Tryz.f43) WQ ⟨bU 21 0 [(0,dI a)],[]⟩ (dh (bs cw) Tryz.f43.results.toList r b):=
 gf (Lk.go (N:=21) (n:=rV (rW n) a) (fin:=(fun t=>(ret,⟨bU 21 0 [(2,dS t)],[]⟩))) (.ch fun c=>by simp only[rV,ae];kernel_rfl) (by kernel_rfl)) (by kernel_rfl) (fun t=>es (by kernel_rfl)) h
theorem agr (n:Nat) (a:Sound Tryz.prog 43 (kH n)):Sound Tryz.prog 43 (kH (n+1)):=by
 refine gg (C:=WR n) (c:=bY Tryz.f43) (ge gi (aY a cQ) (aY Tryz.call43 cQ) (by kernel_rfl)) Tryz.func43 (by kernel_rfl) LL WQ ?_
 intro avs b r d h
 unfold kH at h
 split at h
 ·refine bK.cast ?_ ?_ ?_ (agq n _ h)<;>kernel_rfl
 ·simp[ad.no,ad.run] at h
theorem ags:Sound Tryz.prog 43 (kH 0):=by
 intro avs a r b h
 unfold kH at h
 split at h
 ·simp[rW,kz,ad.run] at h
 ·simp[ad.no,ad.run] at h
theorem WS: ∀n,Sound Tryz.prog 43 (kH n)
 |0=>ags
 |n+1=>by
  have a:=WS n
  exact agr n a
def nJ:be:=fun avs a=>
 match avs,a with
 |[.aa (.int .i64) b],[]=>⟨_,cG b,fun t=>(dS t,[]),[],none⟩
 |_,_=>ad.no
theorem Aq:Sound Tryz.prog 43 nJ:=by
 have e:nJ=kH RR:=by
  funext avs H
  unfold nJ kH
  split<;>first|rfl|(simp only[cG])
 rw[e]
 exact(WS RR)
def WT:af Tryz.prog:=ak sq Tryz.func82 Tryz.call82 [mc,⟨43,nJ,Aq,Tryz.call43⟩] false [(19,.d [2,7] [0,1,5,6,2,3,4,7,8,9])] fun
 |[.agg [.aa (.int .i64) b,.aa (.int .i64) c,.aa (.int .i64) e]],[]=>⟨ad.a (wY b c e) fun t=>(dS t,[]),by refine ao ?_ (.seq (fun h=>([(1,.ptr 0 0)],[some (.box [dI b,dI c,dI e])])) (.ch ?_) fun h=>(.aN (fun _=>rfl) (fun i=>([],[])) (.block (fun _=>false) (bm (fun _=>rfl) (fun _=>rfl)) (.seq (fun f=>([(1,.ptr 0 0),(3,dB f)],[some (.box [dI b,dI c,dI e])])) (.ch ?_) fun f=>(.cond ?_ (.map (.ch ?_)) (.seq (fun g=>([(1,.ptr 0 0),(26,dB g)],[some (.box [dI b,dI c,dI e])])) (.ch ?_) fun g=>(.ch ?_))))) fun i=>(.ch ?_)))<;>first|(intro j;simp only[EW,EX,EY,EZ,wX,PK,ae];kernel_rfl)|kernel_rfl⟩
 |_,_=>aj
def agt:af Tryz.prog:=ak sq Tryz.func32 Tryz.call32 [jy,⟨43,nJ,Aq,Tryz.call43⟩,WK,WT] false [] fun
 |[.ptr 0 0,.aa (.list (.int .i64)) c],[some (.box [.aa (.list (.int .u8)) b,.aa (.int .i64) d])]=>⟨ad.a (rX c b d) fun t=>(dS t.1,[some (.box [dV b,dI t.2])]),by refine ao ?_ (.ch ?_)<;>first|(intro e;simp only[rX,ae];kernel_rfl)|kernel_rfl⟩
 |_,_=>aj
def agv:af Tryz.prog:=ak sq Tryz.func112 Tryz.call112 [] false [] fun
 |[.aa (.list (.int .i64)) b],[]=>⟨ad.a (E5 b) fun t=>(dB t,[]),by refine ao ?_ (.group 1 (.seq (fun f=>([(0,dL b),(3,dI 0)],[])) (.ch ?_) fun f=>(.aN (fun _=>rfl) (fun e=>([(3,dI e)],[])) (.seq (fun d=>([(0,dL b),(3,dI 0),(6,dL b),(7,dI d),(8,dI 0)],[])) (.ch ?_) fun d=>(.block (Sum.elim (fun _=>false) (fun _=>true)) (bm (fun _=>rfl) (fun _=>rfl)) (.loop (bm (fun _=>rfl) (fun _=>rfl)) (fun c=>([(0,dL b),(3,dI c.1),(6,dL b),(7,dI d),(8,dI c.2)],[])) ?_ fun c=> .map (.ch ?_)))) fun e=>(.ch ?_))))<;>first|(intro g;simp only[E2,E3,rY,E4,ae];kernel_rfl)|kernel_rfl⟩
 |_,_=>aj
def WU:af Tryz.prog:=ak sq Tryz.func155 Tryz.call155 [] false [] fun
 |[.ptr 0 0],[some (.box [.aa (.list (.int .i64)) b,.aa (.int .i64) c,.aa (.int .i64) d])]=>⟨ad.a (w3 b c d) fun t=>(dB t.1,[some (.box [dL b,dI t.2.1,dI t.2.2])]),by refine ao ?_ (.ch ?_)<;>first|(intro e;simp only[w3,ae];kernel_rfl)|kernel_rfl⟩
 |_,_=>aj
def WV:af Tryz.prog:=ak sq Tryz.func113 Tryz.call113 [WU] false [] fun
 |[.aa (.list (.int .i64)) b,.aa (.int .i64) e],[]=>⟨ad.a (E9 b e) fun t=>(.aW [dI t.1,dB t.2],[]),by refine ao ?_ (.group 1 (.seq (fun f=>([(0,dL b),(6,.ptr 0 0)],[some (.box [dL b,dI e,dI 0])])) (.ch ?_) fun f=>(.aN (fun _=>rfl) (fun d=>([(6,.ptr 0 0)],[some (.box [dL b,dI d.1,dI d.2])])) (.block (Sum.elim (fun _=>false) (fun _=>true)) (bm (fun _=>rfl) (fun _=>rfl)) (.loop (bm (fun _=>rfl) (fun _=>rfl)) (fun c=>([(0,dL b),(6,.ptr 0 0)],[some (.box [dL b,dI c.1,dI c.2])])) ?_ fun c=> .map (.ch ?_))) fun d=>(.ch ?_))))<;>first|(intro g;simp only[E7,w5,E8,ae];kernel_rfl)|kernel_rfl⟩
 |_,_=>aj
def gj:af Tryz.prog:=ak sq Tryz.func63 Tryz.call63 [agv,WV] false [] fun
 |[.aa (.list (.int .i64)) b],[]=>⟨ad.a (Fc b) fun t=>(dB t,[]),by refine ao ?_ (.group 1 (.aN (fun _=>rfl) (fun e=>([(0,dL b)],[])) (.ch ?_) fun e=>(.aN (fun _=>rfl) (fun f=>([],[])) (.seq (fun c=>([(0,dL b),(20,dI c),(21,dI 0)],[])) (.ch ?_) fun c=>(.block (Sum.elim (fun _=>false) (fun _=>true)) (bm (fun _=>rfl) (fun _=>rfl)) (.loop (bm (fun _=>rfl) (fun _=>rfl)) (fun d=>([(0,dL b),(20,dI c),(21,dI d)],[])) ?_ fun d=> .map (.ch ?_)))) fun f=>(.ch ?_))))<;>first|(intro g;simp only[Fa,Fb,rZ,PW,ae];kernel_rfl)|kernel_rfl⟩
 |_,_=>aj
def Ki:af Tryz.prog:=ak sq Tryz.func14 Tryz.call14 [gj] false [] fun
 |[.agg [.aa (.list (.int .i64)) e,.aa (.list (.list (.int .i64))) b]],[]=>⟨ad.a (w7 e b) fun t=>(dB t,[]),by refine ao ?_ (.group 1 (.aN (fun _=>rfl) (fun f=>([(1,.ptr 0 0)],[some (.box [dL e,.aa (.list (.list (.int .i64))) b])])) (.ch ?_) fun f=>(.aN (fun _=>rfl) (fun g=>([],[])) (.seq (fun c=>([(16,.aa (.list (.list (.int .i64))) b),(17,dI c),(18,dI 0)],[])) (.ch ?_) fun c=>(.block (Sum.elim (fun _=>false) (fun _=>true)) (bm (fun _=>rfl) (fun _=>rfl)) (.loop (bm (fun _=>rfl) (fun _=>rfl)) (fun d=>([(16,.aa (.list (.list (.int .i64))) b),(17,dI c),(18,dI d)],[])) ?_ fun d=> .map (.ch ?_)))) fun g=>(.ch ?_))))<;>first|(intro h;simp only[Fe,Ff,px,P1,ae];kernel_rfl)|kernel_rfl⟩
 |_,_=>aj
def agw:Go.Shelf.Ren:=⟨fun|217=>228|219=>193|224=>230|225=>229|266=>275|267=>231|314=>276|n=>n,fun|3=>3|4=>4|5=>5|9=>9|46=>77|51=>198|146=>234|n=>n,fun|1=>3|n=>n⟩
theorem agx:Lays.n219 Tryz.prog agw:={
 mixed:=by kernel_rfl
 f217:=Tryz.func228.trans (aR some (by kernel_rfl))
 f219:=Tryz.func193.trans (aR some (by kernel_rfl))
 f224:=Tryz.func230.trans (aR some (by kernel_rfl))
 f225:=Tryz.func229.trans (aR some (by kernel_rfl))
 f266:=Tryz.func275.trans (aR some (by kernel_rfl))
 f267:=Tryz.func231.trans (aR some (by kernel_rfl))
 f314:=Tryz.func276.trans (aR some (by kernel_rfl))
 t3:=Tryz.underlying3
 a3:=Tryz.isAgg3
 z3:=Tryz.sizeOf3
 v3:=Tryz.zeroValue3
 t4:=Tryz.underlying4
 a4:=Tryz.isAgg4
 z4:=Tryz.sizeOf4
 v4:=Tryz.zeroValue4
 t5:=Tryz.underlying5
 a5:=Tryz.isAgg5
 z5:=Tryz.sizeOf5
 v5:=Tryz.zeroValue5
 t9:=Tryz.underlying9
 a9:=Tryz.isAgg9
 z9:=Tryz.sizeOf9
 v9:=Tryz.zeroValue9
 t46:=Tryz.underlying77
 a46:=Tryz.isAgg77
 z46:=Tryz.sizeOf77
 v46:=Tryz.zeroValue77
 t51:=Tryz.underlying198
 a51:=Tryz.isAgg198
 z51:=Tryz.sizeOf198
 v51:=Tryz.zeroValue198
 t146:=Tryz.underlying234
 a146:=Tryz.isAgg234
 z146:=Tryz.sizeOf234
 v146:=Tryz.zeroValue234
 g1:=by kernel_rfl}
def WW:be:=DM
theorem agy:Sound Tryz.prog 193 WW:=aeK agx
def agz:af Tryz.prog:=ak sq Tryz.func162 Tryz.call162 [⟨193,WW,agy,Tryz.call193⟩] false [] fun
 |[.aa .str b,.aa .str c],[]=>⟨ad.a (w8 b c) fun t=>(dI t,[]),by refine ao ?_ (.ch ?_)<;>first|(intro d;simp only[w8,ae];kernel_rfl)|kernel_rfl⟩
 |_,_=>aj
def agA:af Tryz.prog:=ak sq Tryz.func120 Tryz.call120 [agz] false [(25,.t [⟨0,8,true,none,none⟩])] fun
 |[.aa .str g,.aa .str e,.aa (.int .i64) f,.aa (.int .i64) h],[]=>⟨ad.a (xa g e f h) fun t=>(.win 0 0 t.1,[some (.seq .str t.2)]),by refine ao ?_ (.group 7 (.aN (fun _=>rfl) (fun c=>([(0,dS g),(1,dS e),(2,dI f),(3,dI c.1),(9,.ab 0),(10,dI 0)],[some (.seq .str c.2)])) (.ch ?_) fun c=>(.seq (fun d=>([(0,dS d.1),(9,.ab 0),(10,dI d.2.1)],[some (.seq .str d.2.2)])) (.block (fun _=>true) (fun _=>rfl) (.loop (fun _=>rfl) (fun b=>([(0,dS b.1),(1,dS e),(2,dI f),(3,dI c.1),(9,.ab 0),(10,dI b.2.1)],[some (.seq .str b.2.2)])) ?_ fun b=> .map (.ch ?_))) fun d=>(.ch ?_))))<;>first|(intro i;simp only[Fh,py,w9,ae];kernel_rfl)|kernel_rfl⟩
 |_,_=>aj
def agB:af Tryz.prog:=ak sq Tryz.func83 Tryz.call83 [agA] false [] fun
 |[.aa .str b,.aa .str c,.aa (.int .i64) d],[]=>⟨ad.a (r0 b c d) fun t=>(.win 0 0 t.1,[some (.seq .str t.2)]),by refine ao ?_ (.ch ?_)<;>first|(intro e;simp only[r0,ae];kernel_rfl)|kernel_rfl⟩
 |_,_=>aj
def agC:af Tryz.prog:=ak sq Tryz.func84 Tryz.call84 [] false [] fun
 |[.aa .str c],[]=>⟨ad.a (xd c) fun t=>(dI t,[]),by refine ao ?_ (.seq (fun e=>([(0,dS c)],[])) (.ch ?_) fun e=>(.aN (fun _=>rfl) (fun f=>([],[])) (.seq (fun b=>([(0,dS c),(5,.agg [dS b.1,dS b.2.1,dS b.2.2.1,dS b.2.2.2.1,dS b.2.2.2.2.1,dS b.2.2.2.2.2]),(6,dI 0)],[])) (.ch ?_) fun b=>(.block (Sum.elim (fun _=>false) (fun _=>true)) (bm (fun _=>rfl) (fun _=>rfl)) (.loop (bm (fun _=>rfl) (fun _=>rfl)) (fun d=>([(0,dS c),(5,.agg [dS b.1,dS b.2.1,dS b.2.2.1,dS b.2.2.2.1,dS b.2.2.2.2.1,dS b.2.2.2.2.2]),(6,dI d)],[])) ?_ fun d=> .map (.ch ?_)))) fun f=>(.ch ?_)))<;>first|(intro g;simp only[Fj,Fk,xc,Fl,ae];kernel_rfl)|kernel_rfl⟩
 |_,_=>aj
def agD:Go.Shelf.Ren:=⟨fun|129=>278|171=>125|172=>85|205=>196|243=>168|244=>121|245=>122|246=>197|247=>163|279=>164|280=>165|281=>166|282=>167|283=>234|284=>235|285=>236|286=>237|287=>194|316=>195|317=>277|318=>279|319=>280|320=>189|321=>232|322=>233|337=>225|338=>226|n=>n,fun|0=>0|2=>2|3=>3|4=>4|5=>5|9=>9|20=>20|21=>21|37=>22|46=>77|51=>198|53=>147|75=>90|76=>91|80=>122|85=>134|127=>202|143=>203|145=>205|167=>133|168=>136|171=>206|173=>208|175=>148|210=>151|212=>237|213=>238|232=>228|233=>229|n=>n,fun|15=>1|16=>2|17=>8|18=>4|19=>5|n=>n⟩
theorem agE:LaysC.n172 Tryz.prog agD:={
 mixed:=by kernel_rfl
 f129:=Tryz.func278.trans (aR some (by kernel_rfl))
 f171:=Tryz.func125.trans (aR some (by kernel_rfl))
 f172:=Tryz.func85.trans (aR some (by kernel_rfl))
 f205:=Tryz.func196.trans (aR some (by kernel_rfl))
 f243:=Tryz.func168.trans (aR some (by kernel_rfl))
 f244:=Tryz.func121.trans (aR some (by kernel_rfl))
 f245:=Tryz.func122.trans (aR some (by kernel_rfl))
 f246:=Tryz.func197.trans (aR some (by kernel_rfl))
 f247:=Tryz.func163.trans (aR some (by kernel_rfl))
 f279:=Tryz.func164.trans (aR some (by kernel_rfl))
 f280:=Tryz.func165.trans (aR some (by kernel_rfl))
 f281:=Tryz.func166.trans (aR some (by kernel_rfl))
 f282:=Tryz.func167.trans (aR some (by kernel_rfl))
 f283:=Tryz.func234.trans (aR some (by kernel_rfl))
 f284:=Tryz.func235.trans (aR some (by kernel_rfl))
 f285:=Tryz.func236.trans (aR some (by kernel_rfl))
 f286:=Tryz.func237.trans (aR some (by kernel_rfl))
 f287:=Tryz.func194.trans (aR some (by kernel_rfl))
 f316:=Tryz.func195.trans (aR some (by kernel_rfl))
 f317:=Tryz.func277.trans (aR some (by kernel_rfl))
 f318:=Tryz.func279.trans (aR some (by kernel_rfl))
 f319:=Tryz.func280.trans (aR some (by kernel_rfl))
 f320:=Tryz.func189.trans (aR some (by kernel_rfl))
 f321:=Tryz.func232.trans (aR some (by kernel_rfl))
 f322:=Tryz.func233.trans (aR some (by kernel_rfl))
 f337:=Tryz.func225.trans (aR some (by kernel_rfl))
 f338:=Tryz.func226.trans (aR some (by kernel_rfl))
 t0:=Tryz.underlying0
 a0:=Tryz.isAgg0
 z0:=Tryz.sizeOf0
 v0:=Tryz.zeroValue0
 t2:=Tryz.underlying2
 a2:=Tryz.isAgg2
 z2:=Tryz.sizeOf2
 v2:=Tryz.zeroValue2
 t3:=Tryz.underlying3
 a3:=Tryz.isAgg3
 z3:=Tryz.sizeOf3
 v3:=Tryz.zeroValue3
 t4:=Tryz.underlying4
 a4:=Tryz.isAgg4
 z4:=Tryz.sizeOf4
 v4:=Tryz.zeroValue4
 t5:=Tryz.underlying5
 a5:=Tryz.isAgg5
 z5:=Tryz.sizeOf5
 v5:=Tryz.zeroValue5
 t9:=Tryz.underlying9
 a9:=Tryz.isAgg9
 z9:=Tryz.sizeOf9
 v9:=Tryz.zeroValue9
 t20:=Tryz.underlying20
 a20:=Tryz.isAgg20
 z20:=Tryz.sizeOf20
 v20:=Tryz.zeroValue20
 t21:=Tryz.underlying21
 a21:=Tryz.isAgg21
 z21:=Tryz.sizeOf21
 v21:=Tryz.zeroValue21
 t37:=Tryz.underlying22
 a37:=Tryz.isAgg22
 z37:=Tryz.sizeOf22
 v37:=Tryz.zeroValue22
 t46:=Tryz.underlying77
 a46:=Tryz.isAgg77
 z46:=Tryz.sizeOf77
 v46:=Tryz.zeroValue77
 t51:=Tryz.underlying198
 a51:=Tryz.isAgg198
 z51:=Tryz.sizeOf198
 v51:=Tryz.zeroValue198
 t53:=Tryz.underlying147
 a53:=Tryz.isAgg147
 z53:=Tryz.sizeOf147
 v53:=Tryz.zeroValue147
 t75:=Tryz.underlying90
 a75:=Tryz.isAgg90
 z75:=Tryz.sizeOf90
 v75:=Tryz.zeroValue90
 t76:=Tryz.underlying91
 a76:=Tryz.isAgg91
 z76:=Tryz.sizeOf91
 v76:=Tryz.zeroValue91
 t85:=Tryz.underlying134
 a85:=Tryz.isAgg134
 z85:=Tryz.sizeOf134
 v85:=Tryz.zeroValue134
 t127:=Tryz.underlying202
 a127:=Tryz.isAgg202
 z127:=Tryz.sizeOf202
 v127:=Tryz.zeroValue202
 t143:=Tryz.underlying203
 a143:=Tryz.isAgg203
 z143:=Tryz.sizeOf203
 v143:=Tryz.zeroValue203
 t145:=Tryz.underlying205
 a145:=Tryz.isAgg205
 z145:=Tryz.sizeOf205
 v145:=Tryz.zeroValue205
 t167:=Tryz.underlying133
 a167:=Tryz.isAgg133
 z167:=Tryz.sizeOf133
 v167:=Tryz.zeroValue133
 t168:=Tryz.underlying136
 a168:=Tryz.isAgg136
 z168:=Tryz.sizeOf136
 v168:=Tryz.zeroValue136
 t171:=Tryz.underlying206
 a171:=Tryz.isAgg206
 z171:=Tryz.sizeOf206
 v171:=Tryz.zeroValue206
 t173:=Tryz.underlying208
 a173:=Tryz.isAgg208
 z173:=Tryz.sizeOf208
 v173:=Tryz.zeroValue208
 t175:=Tryz.underlying148
 a175:=Tryz.isAgg148
 z175:=Tryz.sizeOf148
 v175:=Tryz.zeroValue148
 t210:=Tryz.underlying151
 a210:=Tryz.isAgg151
 z210:=Tryz.sizeOf151
 v210:=Tryz.zeroValue151
 t212:=Tryz.underlying237
 a212:=Tryz.isAgg237
 z212:=Tryz.sizeOf237
 v212:=Tryz.zeroValue237
 t213:=Tryz.underlying238
 a213:=Tryz.isAgg238
 z213:=Tryz.sizeOf238
 t232:=Tryz.underlying228
 a232:=Tryz.isAgg228
 z232:=Tryz.sizeOf228
 v232:=Tryz.zeroValue228
 t233:=Tryz.underlying229
 a233:=Tryz.isAgg229
 z233:=Tryz.sizeOf229
 v233:=Tryz.zeroValue229
 g15:=by kernel_rfl
 g16:=by kernel_rfl
 g17:=by kernel_rfl
 g18:=by kernel_rfl
 g19:=by kernel_rfl
 t80:=Tryz.underlying122
 a80:=Tryz.isAgg122
 z80:=Tryz.sizeOf122
 v80:=Tryz.zeroValue122
 i0:=by kernel_rfl
 i2:=by kernel_rfl
 i3:=by kernel_rfl
 i4:=by kernel_rfl
 i5:=by kernel_rfl
 i9:=by kernel_rfl
 i20:=by kernel_rfl
 i21:=by kernel_rfl
 i37:=by kernel_rfl
 i46:=by kernel_rfl
 i51:=by kernel_rfl
 i53:=by kernel_rfl
 i75:=by kernel_rfl
 i76:=by kernel_rfl
 i80:=by kernel_rfl
 i85:=by kernel_rfl
 i127:=by kernel_rfl
 i143:=by kernel_rfl
 i145:=by kernel_rfl
 i167:=by kernel_rfl
 i168:=by kernel_rfl
 i171:=by kernel_rfl
 i173:=by kernel_rfl
 i175:=by kernel_rfl
 i210:=by kernel_rfl
 i212:=by kernel_rfl
 i232:=by kernel_rfl
 i233:=by kernel_rfl
 m15:=by kernel_rfl
 m16:=by kernel_rfl
 m17:=by kernel_rfl
 m18:=by kernel_rfl
 m19:=by kernel_rfl
 c0:=by kernel_rfl
 c2:=by kernel_rfl
 c3:=by kernel_rfl
 c4:=by kernel_rfl
 c5:=by kernel_rfl
 c9:=by kernel_rfl
 c20:=by kernel_rfl
 c21:=by kernel_rfl
 c37:=by kernel_rfl
 c46:=by kernel_rfl
 c51:=by kernel_rfl
 c53:=by kernel_rfl
 c75:=by kernel_rfl
 c76:=by kernel_rfl
 c80:=by kernel_rfl
 c85:=by kernel_rfl
 c127:=by kernel_rfl
 c143:=by kernel_rfl
 c145:=by kernel_rfl
 c167:=by kernel_rfl
 c168:=by kernel_rfl
 c171:=by kernel_rfl
 c173:=by kernel_rfl
 c175:=by kernel_rfl
 c210:=by kernel_rfl
 c212:=by kernel_rfl
 c213:=by kernel_rfl
 c232:=by kernel_rfl
 c233:=by kernel_rfl}
def Kj:be:=DN
theorem WX:Sound Tryz.prog 85 Kj:=aeL agE rfl rfl
def WY:af Tryz.prog:=ak sq Tryz.func124 Tryz.call124 [] false [] fun
 |[.aa (.int .i64) b],[]=>⟨ad.a (r1 b) fun t=>(dI t,[]),by refine ao ?_ (.ch ?_)<;>first|(intro c;simp only[r1,ae];kernel_rfl)|kernel_rfl⟩
 |_,_=>aj
def WZ:af Tryz.prog:=ak sq Tryz.func91 Tryz.call91 [WY] false [] fun
 |[.agg [.aa (.int .i64) b,.aa (.int .i64) c,.aa (.int .i64) d]],[]=>⟨ad.a (xe b c d) fun t=>(dB t,[]),by refine ao ?_ (.ch ?_)<;>first|(intro e;simp only[xe,ae];kernel_rfl)|kernel_rfl⟩
 |_,_=>aj
def agF:af Tryz.prog:=ak sq Tryz.func123 Tryz.call123 [WZ] false [] fun
 |[.agg [.aa (.int .i64) b,.aa (.int .i64) c,.aa (.int .i64) d]],[]=>⟨ad.a (xg b c d) fun t=>(dB t,[]),by refine ao ?_ (.ch ?_)<;>first|(intro e;simp only[xg,ae];kernel_rfl)|kernel_rfl⟩
 |_,_=>aj
def agG:Go.Shelf.Ren:=⟨fun|129=>278|171=>125|243=>168|246=>197|283=>234|284=>235|285=>236|286=>237|317=>277|318=>279|319=>280|320=>189|337=>225|338=>226|n=>n,fun|0=>0|2=>2|3=>3|4=>4|5=>5|9=>9|20=>20|37=>22|46=>77|51=>198|53=>147|171=>206|173=>208|212=>237|213=>238|232=>228|233=>229|n=>n,fun|17=>8|18=>4|19=>5|n=>n⟩
theorem agH:LaysM.n171 Tryz.prog agG:={
 mixed:=by kernel_rfl
 f129:=Tryz.func278.trans (aR some (by kernel_rfl))
 f171:=Tryz.func125.trans (aR some (by kernel_rfl))
 f243:=Tryz.func168.trans (aR some (by kernel_rfl))
 f246:=Tryz.func197.trans (aR some (by kernel_rfl))
 f283:=Tryz.func234.trans (aR some (by kernel_rfl))
 f284:=Tryz.func235.trans (aR some (by kernel_rfl))
 f285:=Tryz.func236.trans (aR some (by kernel_rfl))
 f286:=Tryz.func237.trans (aR some (by kernel_rfl))
 f317:=Tryz.func277.trans (aR some (by kernel_rfl))
 f318:=Tryz.func279.trans (aR some (by kernel_rfl))
 f319:=Tryz.func280.trans (aR some (by kernel_rfl))
 f320:=Tryz.func189.trans (aR some (by kernel_rfl))
 f337:=Tryz.func225.trans (aR some (by kernel_rfl))
 f338:=Tryz.func226.trans (aR some (by kernel_rfl))
 t0:=Tryz.underlying0
 a0:=Tryz.isAgg0
 z0:=Tryz.sizeOf0
 v0:=Tryz.zeroValue0
 t2:=Tryz.underlying2
 a2:=Tryz.isAgg2
 z2:=Tryz.sizeOf2
 v2:=Tryz.zeroValue2
 t3:=Tryz.underlying3
 a3:=Tryz.isAgg3
 z3:=Tryz.sizeOf3
 v3:=Tryz.zeroValue3
 t4:=Tryz.underlying4
 a4:=Tryz.isAgg4
 z4:=Tryz.sizeOf4
 v4:=Tryz.zeroValue4
 t5:=Tryz.underlying5
 a5:=Tryz.isAgg5
 z5:=Tryz.sizeOf5
 v5:=Tryz.zeroValue5
 t9:=Tryz.underlying9
 a9:=Tryz.isAgg9
 z9:=Tryz.sizeOf9
 v9:=Tryz.zeroValue9
 t20:=Tryz.underlying20
 a20:=Tryz.isAgg20
 z20:=Tryz.sizeOf20
 v20:=Tryz.zeroValue20
 t37:=Tryz.underlying22
 a37:=Tryz.isAgg22
 z37:=Tryz.sizeOf22
 v37:=Tryz.zeroValue22
 t46:=Tryz.underlying77
 a46:=Tryz.isAgg77
 z46:=Tryz.sizeOf77
 v46:=Tryz.zeroValue77
 t51:=Tryz.underlying198
 a51:=Tryz.isAgg198
 z51:=Tryz.sizeOf198
 v51:=Tryz.zeroValue198
 t53:=Tryz.underlying147
 a53:=Tryz.isAgg147
 z53:=Tryz.sizeOf147
 v53:=Tryz.zeroValue147
 t171:=Tryz.underlying206
 a171:=Tryz.isAgg206
 z171:=Tryz.sizeOf206
 v171:=Tryz.zeroValue206
 t173:=Tryz.underlying208
 a173:=Tryz.isAgg208
 z173:=Tryz.sizeOf208
 v173:=Tryz.zeroValue208
 t212:=Tryz.underlying237
 a212:=Tryz.isAgg237
 z212:=Tryz.sizeOf237
 v212:=Tryz.zeroValue237
 t213:=Tryz.underlying238
 a213:=Tryz.isAgg238
 z213:=Tryz.sizeOf238
 t232:=Tryz.underlying228
 a232:=Tryz.isAgg228
 z232:=Tryz.sizeOf228
 v232:=Tryz.zeroValue228
 t233:=Tryz.underlying229
 a233:=Tryz.isAgg229
 z233:=Tryz.sizeOf229
 v233:=Tryz.zeroValue229
 g17:=by kernel_rfl
 g18:=by kernel_rfl
 g19:=by kernel_rfl
 i0:=by kernel_rfl
 i2:=by kernel_rfl
 i3:=by kernel_rfl
 i4:=by kernel_rfl
 i5:=by kernel_rfl
 i9:=by kernel_rfl
 i20:=by kernel_rfl
 i37:=by kernel_rfl
 i46:=by kernel_rfl
 i51:=by kernel_rfl
 i53:=by kernel_rfl
 i171:=by kernel_rfl
 i173:=by kernel_rfl
 i212:=by kernel_rfl
 i232:=by kernel_rfl
 i233:=by kernel_rfl
 m17:=by kernel_rfl
 m18:=by kernel_rfl
 m19:=by kernel_rfl}
def hQ:be:=DO
theorem iF:Sound Tryz.prog 125 hQ:=aeN agH (by kernel_rfl) (by kernel_rfl)
def agI:af Tryz.prog:=ak sq Tryz.func86 Tryz.call86 [agF,WY,⟨125,hQ,iF,Tryz.call125⟩] false [(8,.d [7,4] [0,1,2,3,4,5,6,10,7,8,9])] fun
 |[.agg [.aa (.int .i64) g,.aa (.int .i64) h,.aa (.int .i64) i]],[]=>⟨ad.a (xl g h i) fun t=>(dS t,[]),by refine ao ?_ (.group 2 (.aN (fun _=>rfl) (fun e=>([(1,.ptr 0 0),(3,dS e)],[some (.box [dI g,dI h,dI i])])) (.ch ?_) fun e=>(.seq (fun f=>([(3,dS f)],[])) (.seq (fun b=>([(3,dS e),(21,dL b.1),(22,dI b.2),(23,dI 0)],[])) (.ch ?_) fun b=>(.block (fun _=>true) (fun _=>rfl) (.loop (fun _=>rfl) (fun c=>([(3,dS c.1),(21,dL b.1),(22,dI b.2),(23,dI c.2)],[])) ?_ fun c=> .map (.ch ?_)))) fun f=>(.ch ?_))))<;>first|(intro j;simp only[Fo,r2,r3,r4,ae];kernel_rfl)|kernel_rfl⟩
 |_,_=>aj
def agJ:af Tryz.prog:=ak sq Tryz.func33 Tryz.call33 [agB,agC,⟨85,Kj,WX,Tryz.call85⟩,agI] false [] fun
 |[.aa .str b],[]=>⟨ad.a (r5 b) fun t=>(.aW [.agg [dI t.2.1,dI t.2.2.1,dI t.2.2.2],dB t.1],[some (.box [dI t.2.1,dI t.2.2.1,dI t.2.2.2])]),by refine eu (fun t=> [(2,.ptr 0 0),(3,dB t.1)]) ?_ (.ch ?_)<;>first|(intro c;simp only[r5,ae];kernel_rfl)|kernel_rfl⟩
 |_,_=>aj
def agK:Go.Shelf.Ren:=⟨fun|41=>87|n=>n,fun|4=>4|22=>23|23=>3|n=>n,fun n=>n⟩
theorem agL:SlLaysE0.n41 Tryz.prog agK:={
 mixed:=by kernel_rfl
 f41:=⟨Tryz.f87.name,by kernel_rfl,Tryz.func87.trans (aR some (by kernel_rfl))⟩
 t4:=Tryz.underlying4
 a4:=Tryz.isAgg4
 z4:=Tryz.sizeOf4
 v4:=Tryz.zeroValue4
 t22:=Tryz.underlying23
 a22:=Tryz.isAgg23
 z22:=Tryz.sizeOf23
 v22:=Tryz.zeroValue23}
def Kk:be:=wu
theorem W0:Sound Tryz.prog 87 Kk:=Oq agL (NY (Tryz.prog.info? 3)) (.int .i64 0) 8 (by kernel_rfl) (by kernel_rfl) (by kernel_rfl) (by kernel_rfl) (by kernel_rfl) (by decide) Tryz.sizeOf3
def Ar:af Tryz.prog:=ak sq Tryz.func34 Tryz.call34 [⟨87,Kk,W0,Tryz.call87⟩] true [(3,.d [3,100005] []),(8,.t [⟨3,5,true,some 1,some ((.int .i64))⟩])] fun
 |[.aa (.list (.int .i64)) h,.aa (.list (.list (.int .i64))) c],[]=>⟨ad.a (xm h c) fun t=>(.agg [.ab 1,.ab 2],[some (.box [.ab 1,.ab 2]),some (sI t.1),some (.nest (.int .i64) t.2 0 [])]),by refine eu (fun t=> [(4,.ptr 0 0)]) ?_ (.group 1 (.seq (fun b=>([(1,.aa (.list (.list (.int .i64))) c),(4,.ptr 0 0),(5,.ptr 1 0)],[some (.box [.aI,.aI]),some (.box [.ab 2,.aI]),some (sI b)])) (.ch ?_) fun b=>(.seq (fun g=>([(4,.ptr 0 0),(5,.ptr 1 0)],[some (.box [.aI,.aI]),some (.box [.ab 2,.ab 3]),some (sI b),some (.nest (.int .i64) g 0 [])])) (.seq (fun f=>([(4,.ptr 0 0),(5,.ptr 1 0),(11,.aa (.list (.list (.int .i64))) c),(12,dI f),(13,dI 0)],[some (.box [.aI,.aI]),some (.box [.ab 2,.ab 3]),some (sI b),some (.nest (.int .i64) ([]:List (List Int)) 0 [])])) (.ch ?_) fun f=>(.block (fun _=>true) (fun _=>rfl) (.loop (fun _=>rfl) (fun e=>([(4,.ptr 0 0),(5,.ptr 1 0),(11,.aa (.list (.list (.int .i64))) c),(12,dI f),(13,dI e.1)],[some (.box [.aI,.aI]),some (.box [.ab 2,.ab 3]),some (sI b),some (.nest (.int .i64) e.2 0 [])])) ?_ fun e=> .map (.ch ?_)))) fun g=>(.ch ?_))))<;>first|(intro i;simp only[Fp,Fq,r7,Fr,ae];kernel_rfl)|kernel_rfl⟩
 |_,_=>aj
def W1:be:=rv [(.string ⟨⟨[104,101,97,100,115]⟩⟩,.func 126),(.string ⟨⟨[100,101,112,116,104,115]⟩⟩,.func 127),(.string ⟨⟨[111,114,100,101,114]⟩⟩,.func 128),(.string ⟨⟨[114,111,111,116]⟩⟩,.func 129),(.string ⟨⟨[99,114,111,115,115,105,110,103,115]⟩⟩,.func 130),(.string ⟨⟨[103,97,112,115]⟩⟩,.func 131),(.string ⟨⟨[101,120,99,104,97,110,103,101,115]⟩⟩,.func 132),(.string ⟨⟨[108,101,110,103,116,104]⟩⟩,.func 133),(.string ⟨⟨[108,101,97,115,116]⟩⟩,.func 134),(.string ⟨⟨[97,112,97,114,116]⟩⟩,.func 135),(.string ⟨⟨[112,114,111,106,101,99,116,105,118,101]⟩⟩,.func 136),(.string ⟨⟨[110,101,115,116,101,100]⟩⟩,.func 137),(.string ⟨⟨[109,111,118,101,115]⟩⟩,.func 138),(.string ⟨⟨[101,97,103,101,114]⟩⟩,.func 139),(.string ⟨⟨[112,108,97,99,101]⟩⟩,.func 140)]
theorem agM:Sound Tryz.prog 88 W1:=
 Dx (mt:=95) (kt:=9) (et:=93) (d:= .string) Tryz.func88 (by kernel_rfl) (by kernel_rfl) (by kernel_rfl) (by kernel_rfl) (by kernel_rfl)
def W2:Go.Shelf.Ren:=⟨fun|156=>183|165=>219|166=>220|169=>221|240=>268|241=>269|276=>291|277=>292|n=>n,fun|0=>0|3=>3|4=>4|5=>5|9=>9|20=>20|31=>34|37=>22|70=>193|72=>195|75=>90|76=>91|80=>122|127=>202|164=>246|n=>n,fun|n=>n⟩
theorem agN:Lays.n156 Tryz.prog W2:={
 mixed:=by kernel_rfl
 f156:=Tryz.func183.trans (aR some (by kernel_rfl))
 f165:=Tryz.func219.trans (aR some (by kernel_rfl))
 f166:=Tryz.func220.trans (aR some (by kernel_rfl))
 f169:=Tryz.func221.trans (aR some (by kernel_rfl))
 f240:=Tryz.func268.trans (aR some (by kernel_rfl))
 f241:=Tryz.func269.trans (aR some (by kernel_rfl))
 f276:=Tryz.func291.trans (aR some (by kernel_rfl))
 f277:=Tryz.func292.trans (aR some (by kernel_rfl))
 t0:=Tryz.underlying0
 a0:=Tryz.isAgg0
 z0:=Tryz.sizeOf0
 v0:=Tryz.zeroValue0
 t3:=Tryz.underlying3
 a3:=Tryz.isAgg3
 z3:=Tryz.sizeOf3
 v3:=Tryz.zeroValue3
 t4:=Tryz.underlying4
 a4:=Tryz.isAgg4
 z4:=Tryz.sizeOf4
 v4:=Tryz.zeroValue4
 t9:=Tryz.underlying9
 a9:=Tryz.isAgg9
 z9:=Tryz.sizeOf9
 v9:=Tryz.zeroValue9
 t20:=Tryz.underlying20
 a20:=Tryz.isAgg20
 z20:=Tryz.sizeOf20
 v20:=Tryz.zeroValue20
 t31:=Tryz.underlying34
 a31:=Tryz.isAgg34
 z31:=Tryz.sizeOf34
 v31:=Tryz.zeroValue34
 t37:=Tryz.underlying22
 a37:=Tryz.isAgg22
 z37:=Tryz.sizeOf22
 v37:=Tryz.zeroValue22
 t70:=Tryz.underlying193
 a70:=Tryz.isAgg193
 z70:=Tryz.sizeOf193
 v70:=Tryz.zeroValue193
 t72:=Tryz.underlying195
 a72:=Tryz.isAgg195
 z72:=Tryz.sizeOf195
 v72:=Tryz.zeroValue195
 t75:=Tryz.underlying90
 a75:=Tryz.isAgg90
 z75:=Tryz.sizeOf90
 v75:=Tryz.zeroValue90
 t76:=Tryz.underlying91
 a76:=Tryz.isAgg91
 z76:=Tryz.sizeOf91
 v76:=Tryz.zeroValue91
 t127:=Tryz.underlying202
 a127:=Tryz.isAgg202
 z127:=Tryz.sizeOf202
 v127:=Tryz.zeroValue202
 t164:=Tryz.underlying246
 a164:=Tryz.isAgg246
 z164:=Tryz.sizeOf246
 v164:=Tryz.zeroValue246}
theorem agO:Builder.Extra Tryz.prog W2:={
 sizeBuilder:=by kernel_rfl
 liesBuilder:=by kernel_rfl
 t5:=Tryz.underlying5
 a5:=Tryz.isAgg5
 z5:=Tryz.sizeOf5
 v5:=Tryz.zeroValue5
 infoByte:=by kernel_rfl
 cellsByte:=by kernel_rfl
 sizeByte:=by kernel_rfl
 neB5:=by decide}
def W3:be:=DP
theorem agP:Sound Tryz.prog 183 W3:=aeO agN agO
def As:af Tryz.prog:=ak sq Tryz.func143 Tryz.call143 [⟨125,hQ,iF,Tryz.call125⟩,⟨183,W3,agP,Tryz.call183⟩] false [] fun
 |[.aa (.list (.int .i64)) b],[]=>⟨ad.a (xn b) fun t=>(dS t,[]),by refine ao ?_ (.group 1 (.seq (fun d=>([(0,dL b),(3,.ab 0)],[some (.seq .str d)])) (.ch ?_) fun d=>(.seq (fun f=>([(3,.ab 0)],[some (.seq .str f)])) (.seq (fun e=>([(3,.ab 0),(9,dL b),(10,dI e),(11,dI 0)],[some (.seq .str d)])) (.ch ?_) fun e=>(.block (fun _=>true) (fun _=>rfl) (.loop (fun _=>rfl) (fun c=>([(3,.ab 0),(9,dL b),(10,dI e),(11,dI c.1)],[some (.seq .str c.2)])) ?_ fun c=> .map (.ch ?_)))) fun f=>(.ch ?_))))<;>first|(intro g;simp only[Ft,Fu,r8,Fv,ae];kernel_rfl)|kernel_rfl⟩
 |_,_=>aj
def agQ:af Tryz.prog:=ak sq Tryz.func126 Tryz.call126 [As] false [] fun
 |[.agg [.aa (.list (.int .i64)) b,.aa (.list (.list (.int .i64))) d]],[]=>⟨ad.a (xo b) fun t=>(dS t,[]),by refine ao ?_ (.ch ?_)<;>first|(intro c;simp only[xo,ae];kernel_rfl)|kernel_rfl⟩
 |_,_=>aj
def agR:af Tryz.prog:=ak sq Tryz.func169 Tryz.call169 [gj,WV] false [] fun
 |[.aa (.list (.int .i64)) b],[]=>⟨ad.a (FA b) fun t=>(.ab 0,[some (sI t)]),by refine ao ?_ (.group 2 (.aN (fun _=>rfl) (fun d=>([(0,dL b),(3,.ab 0)],[some (sI d)])) (.ch ?_) fun d=>(.seq (fun f=>([(3,.ab 0)],[some (sI f)])) (.seq (fun e=>([(0,dL b),(3,.ab 0),(12,dI e),(13,dI 0)],[some (sI d)])) (.ch ?_) fun e=>(.block (fun _=>true) (fun _=>rfl) (.loop (fun _=>rfl) (fun c=>([(0,dL b),(3,.ab 0),(12,dI e),(13,dI c.1)],[some (sI c.2)])) ?_ fun c=> .map (.ch ?_)))) fun f=>(.ch ?_))))<;>first|(intro g;simp only[Fx,Fy,r9,Fz,ae];kernel_rfl)|kernel_rfl⟩
 |_,_=>aj
def agS:af Tryz.prog:=ak sq Tryz.func127 Tryz.call127 [agR,As] false [] fun
 |[.agg [.aa (.list (.int .i64)) b,.aa (.list (.list (.int .i64))) d]],[]=>⟨ad.a (sa b) fun t=>(dS t,[]),by refine ao ?_ (.ch ?_)<;>first|(intro c;simp only[sa,ae];kernel_rfl)|kernel_rfl⟩
 |_,_=>aj
def At:af Tryz.prog:=ak sq Tryz.func115 Tryz.call115 [gj,WU] false [] fun
 |[.aa (.list (.int .i64)) b],[]=>⟨ad.a (FE b) fun t=>(dI t,[]),by refine ao ?_ (.group 2 (.aN (fun _=>rfl) (fun e=>([(3,.ptr 0 0)],[some (.box [dL b,dI 1,dI 0])])) (.ch ?_) fun e=>(.seq (fun d=>([(3,.ptr 0 0)],[some (.box [dL b,dI d.1,dI d.2])])) (.block (fun _=>true) (fun _=>rfl) (.loop (fun _=>rfl) (fun c=>([(3,.ptr 0 0)],[some (.box [dL b,dI c.1,dI c.2])])) ?_ fun c=> .map (.ch ?_))) fun d=>(.ch ?_))))<;>first|(intro f;simp only[FC,xq,FD,ae];kernel_rfl)|kernel_rfl⟩
 |_,_=>aj
def qb:af Tryz.prog:=ak sq Tryz.func156 Tryz.call156 [] false [] fun
 |[.aa (.int .i64) b],[]=>⟨ad.a (FF b) fun t=>(dW t,[]),by refine ao ?_ (.ch ?_)<;>first|(intro c;simp only[FF,ae];kernel_rfl)|kernel_rfl⟩
 |_,_=>aj
def t1:af Tryz.prog:=ak sq Tryz.func157 Tryz.call157 [qb] false [] fun
 |[.aa (.list (.int .i64)) b,.aa (.int .i64) c],[]=>⟨ad.a (xr b c) fun t=>(dW t,[]),by refine ao ?_ (.group 1 (.seq (fun g=>([(0,dL b),(1,dI c),(5,dW 0)],[])) (.ch ?_) fun g=>(.seq (fun f=>([(5,dW f)],[])) (.seq (fun e=>([(0,dL b),(1,dI c),(5,dW 0),(8,dI e),(9,dI 0)],[])) (.ch ?_) fun e=>(.block (fun _=>true) (fun _=>rfl) (.loop (fun _=>rfl) (fun d=>([(0,dL b),(1,dI c),(5,dW d.1),(8,dI e),(9,dI d.2)],[])) ?_ fun d=> .map (.ch ?_)))) fun f=>(.ch ?_))))<;>first|(intro h;simp only[FG,FH,sb,Qt,ae];kernel_rfl)|kernel_rfl⟩
 |_,_=>aj
def agT:af Tryz.prog:=ak sq Tryz.func281 Tryz.call281 [qb] false [] fun
 |[.aa (.int .i64) b],[]=>⟨ad.a (FI b) fun t=>(dW t,[]),by refine ao ?_ (.ch ?_)<;>first|(intro c;simp only[FI,ae];kernel_rfl)|kernel_rfl⟩
 |_,_=>aj
def Au:af Tryz.prog:=ak sq Tryz.func238 Tryz.call238 [t1,agT] false [] fun
 |[.aa (.list (.int .i64)) b,.aa (.int .i64) c],[]=>⟨ad.a (sc b c) fun t=>(.aW [dW t.1,dW t.2],[]),by refine ao ?_ (.ch ?_)<;>first|(intro d;simp only[sc,ae];kernel_rfl)|kernel_rfl⟩
 |_,_=>aj
def agU:af Tryz.prog:=ak sq Tryz.func274 Tryz.call274 [] false [] fun
 |[.aa (.int .u64) i],[]=>⟨ad.a (QD i) fun t=>(dI t,[]),by refine ao ?_ (.group 1 (.seq (fun b=>([(0,dW b)],[])) (.ch ?_) fun b=>(.seq (fun c=>([(0,dW c)],[])) (.ch ?_) fun c=>(.seq (fun d=>([(0,dW d)],[])) (.ch ?_) fun d=>(.seq (fun e=>([(0,dW e)],[])) (.ch ?_) fun e=>(.seq (fun f=>([(0,dW f)],[])) (.ch ?_) fun f=>(.seq (fun g=>([(0,dW g)],[])) (.ch ?_) fun g=>(.seq (fun h=>([(2,dI h)],[])) (.ch ?_) fun h=>(.ch ?_)))))))))<;>first|(intro j;simp only[Qv,Qw,Qx,Qy,Qz,QA,QB,QC,ae];kernel_rfl)|kernel_rfl⟩
 |_,_=>aj
def agV:af Tryz.prog:=ak sq Tryz.func224 Tryz.call224 [agU] false [] fun
 |[.aa (.int .u64) b],[]=>⟨ad.a (FJ b) fun t=>(dI t,[]),by refine ao ?_ (.ch ?_)<;>first|(intro c;simp only[FJ,ae];kernel_rfl)|kernel_rfl⟩
 |_,_=>aj
def Kl:af Tryz.prog:=ak sq Tryz.func188 Tryz.call188 [agV] false [] fun
 |[.aa (.int .u64) b],[]=>⟨ad.a (FK b) fun t=>(dI t,[]),by refine ao ?_ (.ch ?_)<;>first|(intro c;simp only[FK,ae];kernel_rfl)|kernel_rfl⟩
 |_,_=>aj
def agW:af Tryz.prog:=ak sq Tryz.func226 Tryz.call226 [] false [] fun
 |[.aa (.int .u64) b],[]=>⟨ad.a (FL b) fun t=>(dI t,[]),by refine ao ?_ (.ch ?_)<;>first|(intro c;simp only[FL,ae];kernel_rfl)|kernel_rfl⟩
 |_,_=>aj
def agX:af Tryz.prog:=ak sq Tryz.func189 Tryz.call189 [agW] false [] fun
 |[.aa (.int .u64) b],[]=>⟨ad.a (FM b) fun t=>(dI t,[]),by refine ao ?_ (.ch ?_)<;>first|(intro c;simp only[FM,ae];kernel_rfl)|kernel_rfl⟩
 |_,_=>aj
def kI:af Tryz.prog:=ak sq Tryz.func158 Tryz.call158 [Kl,agX] false [] fun
 |[.aa (.int .u64) d],[]=>⟨ad.a (QI d) fun t=>(.ab 0,[some (sI t)]),by refine ao ?_ (.group 1 (.seq (fun c=>([(0,dW d),(3,.ab 0)],[some (sI c)])) (.ch ?_) fun c=>(.seq (fun e=>([(3,.ab 0)],[some (sI e)])) (.seq (fun f=>([(3,.ab 0),(4,dW d)],[some (sI c)])) (.ch ?_) fun f=>(.block (fun _=>true) (fun _=>rfl) (.loop (fun _=>rfl) (fun b=>([(3,.ab 0),(4,dW b.1)],[some (sI b.2)])) ?_ fun b=> .map (.ch ?_)))) fun e=>(.ch ?_))))<;>first|(intro g;simp only[QE,QF,QG,QH,ae];kernel_rfl)|kernel_rfl⟩
 |_,_=>aj
noncomputable def W4:bf:=fK [] Tryz.f198
noncomputable def W5:bf:=fK [] Tryz.f239
def jz (n:Nat):be:=fun avs a=>
 match avs,a with
 |[.ab 0,.aa (.list (.int .i64)) b,.aa (.int .i64) c],[some (.seq (.int .i64) d)]=>⟨_,kC n b c d,fun t=>(.ab 0,[some (sI t)]),[0],none⟩
 |_,_=>ad.no
def jA (n:Nat):be:=fun avs a=>
 match avs,a with
 |[.ab 0,.aa (.list (.int .i64)) b,.aa (.int .u64) c],[some (.seq (.int .i64) d)]=>⟨_,pA n b c d,fun t=>(.ab 0,[some (sI t)]),[0],none⟩
 |_,_=>ad.no
noncomputable def W6 (n:Nat):Ctx:=⟨bs cw,cF [(238,(af.F Au)),(239,jA n)],fO,1,false,[0]⟩
noncomputable def W7 (n:Nat):Ctx:=⟨bs cw,cF [(158,(af.F kI)),(198,jz n)],fO,1,false,[0]⟩
theorem agY (n:Nat) (a:List Int) (b:Int) (c:List Int) {r:AV} {d:Heap} (h:(ad.mk _ (kC (n+1) a b c) (fun t=>(.ab 0,[some (sI t)])) [0] none).run=some (r,d)):bK (W6 n) LL (bY Tryz.f198) W4 ⟨bU 26 0 [(0,.ab 0),(1,dL a),(2,dI b)],[some (sI c)]⟩ (dh (bs cw) Tryz.f198.results.toList r d):=
 gf (Lk.go (N:=26) (n:=sf (kC n) (pA n) a b c) (fin:=(fun t=>(ret,⟨bU 26 0 [(6,.ab 0)],[some (sI t)]⟩))) (.ch fun e=>by simp only[sf,ae];kernel_rfl) (by kernel_rfl)) (by kernel_rfl) (fun t=>es (by kernel_rfl)) h
theorem agZ (n:Nat) (a:List Int) (d:Int) (c:List Int) {r:AV} {g:Heap} (h:(ad.mk _ (pA (n+1) a d c) (fun t=>(.ab 0,[some (sI t)])) [0] none).run=some (r,g)):bK (W7 n) LL (bY Tryz.f239) W5 ⟨bU 22 0 [(0,.ab 0),(1,dL a),(2,dW d)],[some (sI c)]⟩ (dh (bs cw) Tryz.f239.results.toList r g):=
 gf (Lk.go (N:=22) (n:=FQ (kC n) (pA n) a d c) (fin:=(fun t=>(ret,⟨bU 22 0 [(6,.ab 0)],[some (sI t)]⟩))) (.seq (fun j=>([(0,.ab 0),(1,dL a),(2,dW d)],[some (sI c)])) (.ch fun e=>by simp only[FN,ae];kernel_rfl) fun j=>(.seq (fun i=>([(0,.ab 0)],[some (sI i)])) (.seq (fun b=>([(0,.ab 0),(1,dL a),(10,.ab 1),(11,dI b.1),(12,dI 0)],[some (sI c),some (sI b.2)])) (.ch fun e=>by simp only[FO,ae];kernel_rfl) fun b=>(.block (fun _=>true) (fun _=>rfl) (.loop (fun _=>rfl) (fun f=>([(0,.ab 0),(1,dL a),(10,.ab 1),(11,dI b.1),(12,dI f.1)],[some (sI f.2),some (sI b.2)])) (by kernel_rfl) fun f=> .map (.ch fun e=>by simp only[sg,ae];kernel_rfl)))) fun i=>(.ch fun e=>by simp only[FP,ae];kernel_rfl))) (by kernel_rfl)) (by kernel_rfl) (fun t=>es (by kernel_rfl)) h
theorem ag0 (n:Nat) (e:Sound Tryz.prog 198 (jz n)) (a:Sound Tryz.prog 239 (jA n)):Sound Tryz.prog 198 (jz (n+1)):=by
 refine gg (C:=W6 n) (c:=bY Tryz.f198) (ge gi (aY (af.s Au) (aY a cQ)) (aY Tryz.call238 (aY Tryz.call239 cQ)) (by kernel_rfl)) Tryz.func198 (by kernel_rfl) LL W4 ?_
 intro avs b r d h
 unfold jz at h
 split at h
 ·refine bK.cast ?_ ?_ ?_ (agY n _ _ _ h)<;>kernel_rfl
 ·simp[ad.no,ad.run] at h
theorem ag1:Sound Tryz.prog 198 (jz 0):=by
 intro avs a r b h
 unfold jz at h
 split at h
 ·simp[kC,fo,ad.run] at h
 ·simp[ad.no,ad.run] at h
theorem ag2 (n:Nat) (a:Sound Tryz.prog 198 (jz n)) (e:Sound Tryz.prog 239 (jA n)):Sound Tryz.prog 239 (jA (n+1)):=by
 refine gg (C:=W7 n) (c:=bY Tryz.f239) (ge gi (aY (af.s kI) (aY a cQ)) (aY Tryz.call158 (aY Tryz.call198 cQ)) (by kernel_rfl)) Tryz.func239 (by kernel_rfl) LL W5 ?_
 intro avs b r d h
 unfold jA at h
 split at h
 ·refine bK.cast ?_ ?_ ?_ (agZ n _ _ _ h)<;>kernel_rfl
 ·simp[ad.no,ad.run] at h
theorem ag3:Sound Tryz.prog 239 (jA 0):=by
 intro avs a r b h
 unfold jA at h
 split at h
 ·simp[pA,fo,ad.run] at h
 ·simp[ad.no,ad.run] at h
theorem Km: ∀n,Sound Tryz.prog 198 (jz n)/\Sound Tryz.prog 239 (jA n)
 |0=>⟨ag1,ag3⟩
 |n+1=>by
  obtain⟨a,b⟩:=Km n
  exact⟨ag0 n a b,ag2 n a b⟩
def Av:be:=fun avs a=>
 match avs,a with
 |[.ab 0,.aa (.list (.int .i64)) b,.aa (.int .i64) c],[some (.seq (.int .i64) d)]=>⟨_,sh b c d,fun t=>(.ab 0,[some (sI t)]),[0],none⟩
 |_,_=>ad.no
theorem ag4:Sound Tryz.prog 198 Av:=by
 have e:Av=jz RR:=by
  funext avs H
  unfold Av jz
  split<;>first|rfl|(simp only[sh])
 rw[e]
 exact(Km RR).1
def Kn:be:=fun avs a=>
 match avs,a with
 |[.ab 0,.aa (.list (.int .i64)) b,.aa (.int .u64) c],[some (.seq (.int .i64) d)]=>⟨_,QN b c d,fun t=>(.ab 0,[some (sI t)]),[0],none⟩
 |_,_=>ad.no
theorem apx:Sound Tryz.prog 239 Kn:=by
 have e:Kn=jA RR:=by
  funext avs H
  unfold Kn jA
  split<;>first|rfl|(simp only[QN])
 rw[e]
 exact(Km RR).2
def Ko:af Tryz.prog:=ak sq Tryz.func170 Tryz.call170 [gj,At,⟨198,Av,ag4,Tryz.call198⟩] false [(1,.d [5,100006] [0,1,3,4,5,2,6,7])] fun
 |[.aa (.list (.int .i64)) b],[]=>⟨ad.a (si b) fun t=>(.ab 0,[some (sI t)]),by refine ao ?_ (.ch ?_)<;>first|(intro c;simp only[si,ae];kernel_rfl)|kernel_rfl⟩
 |_,_=>aj
def ag5:af Tryz.prog:=ak sq Tryz.func128 Tryz.call128 [Ko,As] false [] fun
 |[.agg [.aa (.list (.int .i64)) b,.aa (.list (.list (.int .i64))) d]],[]=>⟨ad.a (sj b) fun t=>(dS t,[]),by refine ao ?_ (.ch ?_)<;>first|(intro c;simp only[sj,ae];kernel_rfl)|kernel_rfl⟩
 |_,_=>aj
def ag6:af Tryz.prog:=ak sq Tryz.func129 Tryz.call129 [At,⟨125,hQ,iF,Tryz.call125⟩] false [] fun
 |[.agg [.aa (.list (.int .i64)) b,.aa (.list (.list (.int .i64))) d]],[]=>⟨ad.a (xw b) fun t=>(dS t,[]),by refine ao ?_ (.ch ?_)<;>first|(intro c;simp only[xw,ae];kernel_rfl)|kernel_rfl⟩
 |_,_=>aj
def W8:af Tryz.prog:=ak sq Tryz.func240 Tryz.call240 [] false [] fun
 |[.aa (.int .i64) b,.aa (.int .i64) c],[]=>⟨ad.a (xx b c) fun t=>(.aW [.agg [dI t.2.1,dI t.2.2],dB t.1],[some (.box [dI t.2.1,dI t.2.2])]),by refine eu (fun t=> [(4,.ptr 0 0),(5,dB t.1)]) ?_ (.ch ?_)<;>first|(intro d;simp only[xx,ae];kernel_rfl)|kernel_rfl⟩
 |_,_=>aj
def Kp:af Tryz.prog:=ak sq Tryz.func200 Tryz.call200 [W8] false [] fun
 |[.aa (.list (.int .i64)) b],[]=>⟨ad.a (xy b) fun t=>(.ab 0,[some (.seq (.pair (.int .i64) (.pair (.int .i64) .unit)) t)]),by refine ao ?_ (.group 1 (.seq (fun d=>([(0,dL b),(3,.ab 0)],[some (.seq (.pair (.int .i64) (.pair (.int .i64) .unit)) d)])) (.ch ?_) fun d=>(.seq (fun f=>([(3,.ab 0)],[some (.seq (.pair (.int .i64) (.pair (.int .i64) .unit)) f)])) (.seq (fun e=>([(3,.ab 0),(11,dL b),(12,dI e),(13,dI 0)],[some (.seq (.pair (.int .i64) (.pair (.int .i64) .unit)) d)])) (.ch ?_) fun e=>(.block (fun _=>true) (fun _=>rfl) (.loop (fun _=>rfl) (fun c=>([(3,.ab 0),(11,dL b),(12,dI e),(13,dI c.1)],[some (.seq (.pair (.int .i64) (.pair (.int .i64) .unit)) c.2)])) ?_ fun c=> .map (.ch ?_)))) fun f=>(.ch ?_))))<;>first|(intro g;simp only[FT,FU,sl,FV,ae];kernel_rfl)|kernel_rfl⟩
 |_,_=>aj
def ag7:af Tryz.prog:=ak sq Tryz.func241 Tryz.call241 [] false [] fun
 |[.agg [.aa (.int .i64) b,.aa (.int .i64) c],.aa (.int .i64) d],[]=>⟨ad.a (xz b c d) fun t=>(dB t,[]),by refine ao ?_ (.ch ?_)<;>first|(intro e;simp only[xz,ae];kernel_rfl)|kernel_rfl⟩
 |_,_=>aj
def ag8:af Tryz.prog:=ak sq Tryz.func242 Tryz.call242 [] false [] fun
 |[.agg [.aa (.int .i64) b,.aa (.int .i64) c],.aa (.int .i64) d],[]=>⟨ad.a (xA b c d) fun t=>(dB t,[]),by refine ao ?_ (.ch ?_)<;>first|(intro e;simp only[xA,ae];kernel_rfl)|kernel_rfl⟩
 |_,_=>aj
def W9:af Tryz.prog:=ak sq Tryz.func201 Tryz.call201 [ag7,ag8] false [] fun
 |[.agg [.aa (.int .i64) b,.aa (.int .i64) c],.agg [.aa (.int .i64) d,.aa (.int .i64) e]],[]=>⟨ad.a (xB b c d e) fun t=>(dB t,[]),by refine ao ?_ (.ch ?_)<;>first|(intro f;simp only[xB,ae];kernel_rfl)|kernel_rfl⟩
 |_,_=>aj
def ag9:af Tryz.prog:=ak sq Tryz.func199 Tryz.call199 [W9] false [] fun
 |[.aa (.list (.pair (.int .i64) (.pair (.int .i64) .unit))) b,.fn 201 [] []],[]=>⟨ad.a (xD b) fun t=>(dI t,[]),by refine ao ?_ (.group 1 (.seq (fun i=>([(0,.aa (.list (.pair (.int .i64) (.pair (.int .i64) .unit))) b),(1,.fn 201 [] []),(5,dI 0)],[])) (.ch ?_) fun i=>(.seq (fun g=>([(5,dI g)],[])) (.seq (fun e=>([(0,.aa (.list (.pair (.int .i64) (.pair (.int .i64) .unit))) b),(1,.fn 201 [] []),(5,dI 0),(10,.aa (.list (.pair (.int .i64) (.pair (.int .i64) .unit))) b),(11,dI e),(12,dI 0)],[])) (.ch ?_) fun e=>(.block (fun _=>true) (fun _=>rfl) (.loop (fun _=>rfl) (fun c=>([(0,.aa (.list (.pair (.int .i64) (.pair (.int .i64) .unit))) b),(1,.fn 201 [] []),(5,dI c.1),(10,.aa (.list (.pair (.int .i64) (.pair (.int .i64) .unit))) b),(11,dI e),(12,dI c.2)],[])) ?_ fun c=> .map (.group 1 (.aN (fun _=>rfl) (fun j=>([(0,.aa (.list (.pair (.int .i64) (.pair (.int .i64) .unit))) b),(1,.fn 201 [] []),(5,dI c.1),(10,.aa (.list (.pair (.int .i64) (.pair (.int .i64) .unit))) b),(11,dI e),(12,dI c.2)],[])) (.ch ?_) fun j=>(.map (.seq (fun h=>([(0,.aa (.list (.pair (.int .i64) (.pair (.int .i64) .unit))) b),(1,.fn 201 [] []),(5,dI h),(10,.aa (.list (.pair (.int .i64) (.pair (.int .i64) .unit))) b),(11,dI e),(12,dI c.2)],[])) (.block (fun _=>false) (fun _=>rfl) (.group 1 (.seq (fun d=>([(0,.aa (.list (.pair (.int .i64) (.pair (.int .i64) .unit))) b),(1,.fn 201 [] []),(5,dI c.1),(7,.ptr 0 0),(10,.aa (.list (.pair (.int .i64) (.pair (.int .i64) .unit))) b),(11,dI e),(12,dI c.2),(20,.aa (.list (.pair (.int .i64) (.pair (.int .i64) .unit))) d.1),(21,dI d.2.1),(22,dI 0)],[some (.box [dI d.2.2.1,dI d.2.2.2])])) (.ch ?_) fun d=>(.block (fun _=>true) (fun _=>rfl) (.loop (fun _=>rfl) (fun f=>([(0,.aa (.list (.pair (.int .i64) (.pair (.int .i64) .unit))) b),(1,.fn 201 [] []),(5,dI f.1),(7,.ptr 0 0),(10,.aa (.list (.pair (.int .i64) (.pair (.int .i64) .unit))) b),(11,dI e),(12,dI c.2),(20,.aa (.list (.pair (.int .i64) (.pair (.int .i64) .unit))) d.1),(21,dI d.2.1),(22,dI f.2)],[some (.box [dI d.2.2.1,dI d.2.2.2])])) ?_ fun f=> .map (.ch ?_)))))) fun h=>(.map (.ch ?_))))))))) fun g=>(.ch ?_))))<;>first|(intro k;simp only[FW,FX,FY,FZ,sp,F1,F3,ae];kernel_rfl)|kernel_rfl⟩
 |_,_=>aj
def aha:af Tryz.prog:=ak sq Tryz.func171 Tryz.call171 [gj,Kp,ag9] false [] fun
 |[.aa (.list (.int .i64)) b],[]=>⟨ad.a (sr b) fun t=>(dI t,[]),by refine ao ?_ (.ch ?_)<;>first|(intro c;simp only[sr,ae];kernel_rfl)|kernel_rfl⟩
 |_,_=>aj
def ahb:af Tryz.prog:=ak sq Tryz.func130 Tryz.call130 [aha,⟨125,hQ,iF,Tryz.call125⟩] false [] fun
 |[.agg [.aa (.list (.int .i64)) b,.aa (.list (.list (.int .i64))) d]],[]=>⟨ad.a (xG b) fun t=>(dS t,[]),by refine ao ?_ (.ch ?_)<;>first|(intro c;simp only[xG,ae];kernel_rfl)|kernel_rfl⟩
 |_,_=>aj
noncomputable def Xa:bf:=fK [] Tryz.f114
def kJ (n:Nat):be:=fun avs a=>
 match avs,a with
 |[.ab 0,.aa (.list (.int .i64)) b,.aa (.int .i64) c],[some (.seq (.int .u64) d)]=>⟨_,pE n b c d,fun t=>(dW t.1,[some (.seq (.int .u64) t.2)]),[],none⟩
 |_,_=>ad.no
noncomputable def Xb (n:Nat):Ctx:=⟨bs cw,cF [(156,(af.F qb)),(157,(af.F t1)),(158,(af.F kI)),(114,kJ n)],fO,1,false,[]⟩
theorem ahc (n:Nat) (b:List Int) (a:Int) (d:List Int) {r:AV} {j:Heap} (h:(ad.mk _ (pE (n+1) b a d) (fun t=>(dW t.1,[some (.seq (.int .u64) t.2)])) [] none).run=some (r,j)):bK (Xb n) LL (bY Tryz.f114) Xa ⟨bU 34 0 [(0,.ab 0),(1,dL b),(2,dI a)],[some (.seq (.int .u64) d)]⟩ (dh (bs cw) Tryz.f114.results.toList r j):=
 gf (Lk.go (N:=34) (n:=F8 (pE n) b a d) (fin:=(fun t=>(ret,⟨bU 34 0 [(6,dW t.1)],[some (.seq (.int .u64) t.2)]⟩))) (.group 1 (.seq (fun g=>([(0,.ab 0),(1,dL b),(2,dI a),(7,dW g)],[some (.seq (.int .u64) d)])) (.ch fun f=>by simp only[F5,ae];kernel_rfl) fun g=>(.seq (fun i=>([(0,.ab 0),(2,dI a),(7,dW i.1)],[some (.seq (.int .u64) i.2)])) (.seq (fun c=>([(0,.ab 0),(1,dL b),(2,dI a),(7,dW g),(15,.ab 1),(16,dI c.1),(17,dI 0)],[some (.seq (.int .u64) d),some (sI c.2)])) (.ch fun f=>by simp only[F6,ae];kernel_rfl) fun c=>(.block (fun _=>true) (fun _=>rfl) (.loop (fun _=>rfl) (fun e=>([(0,.ab 0),(1,dL b),(2,dI a),(7,dW e.1),(15,.ab 1),(16,dI c.1),(17,dI e.2.1)],[some (.seq (.int .u64) e.2.2),some (sI c.2)])) (by kernel_rfl) fun e=> .map (.ch fun f=>by simp only[pD,ae];kernel_rfl)))) fun i=>(.ch fun f=>by simp only[F7,ae];kernel_rfl)))) (by kernel_rfl)) (by kernel_rfl) (fun t=>es (by kernel_rfl)) h
theorem ahd (n:Nat) (a:Sound Tryz.prog 114 (kJ n)):Sound Tryz.prog 114 (kJ (n+1)):=by
 refine gg (C:=Xb n) (c:=bY Tryz.f114) (ge gi (aY (af.s qb) (aY (af.s t1) (aY (af.s kI) (aY a cQ)))) (aY Tryz.call156 (aY Tryz.call157 (aY Tryz.call158 (aY Tryz.call114 cQ)))) (by kernel_rfl)) Tryz.func114 (by kernel_rfl) LL Xa ?_
 intro avs b r d h
 unfold kJ at h
 split at h
 ·refine bK.cast ?_ ?_ ?_ (ahc n _ _ _ h)<;>kernel_rfl
 ·simp[ad.no,ad.run] at h
theorem ahe:Sound Tryz.prog 114 (kJ 0):=by
 intro avs a r b h
 unfold kJ at h
 split at h
 ·simp[pE,lQ,ad.run] at h
 ·simp[ad.no,ad.run] at h
theorem Xc: ∀n,Sound Tryz.prog 114 (kJ n)
 |0=>ahe
 |n+1=>by
  have a:=Xc n
  exact ahd n a
def Aw:be:=fun avs a=>
 match avs,a with
 |[.ab 0,.aa (.list (.int .i64)) b,.aa (.int .i64) c],[some (.seq (.int .u64) d)]=>⟨_,ss b c d,fun t=>(dW t.1,[some (.seq (.int .u64) t.2)]),[],none⟩
 |_,_=>ad.no
theorem ahf:Sound Tryz.prog 114 Aw:=by
 have e:Aw=kJ RR:=by
  funext avs H
  unfold Aw kJ
  split<;>first|rfl|(simp only[ss])
 rw[e]
 exact(Xc RR)
def t6:af Tryz.prog:=ak sq Tryz.func66 Tryz.call66 [At,⟨114,Aw,ahf,Tryz.call114⟩] false [] fun
 |[.aa (.list (.int .i64)) b],[]=>⟨ad.a (su b) fun t=>(.ab 0,[some (.seq (.int .u64) t)]),by refine ao ?_ (.ch ?_)<;>first|(intro c;simp only[su,ae];kernel_rfl)|kernel_rfl⟩
 |_,_=>aj
def ahg:af Tryz.prog:=ak sq Tryz.func243 Tryz.call243 [] false [] fun
 |[.aa (.int .u64) b],[]=>⟨ad.a (F9 b) fun t=>(dW t,[]),by refine ao ?_ (.ch ?_)<;>first|(intro c;simp only[F9,ae];kernel_rfl)|kernel_rfl⟩
 |_,_=>aj
def ahh:af Tryz.prog:=ak sq Tryz.func202 Tryz.call202 [ahg,Kl] false [] fun
 |[.aa (.int .u64) b],[]=>⟨ad.a (Ga b) fun t=>(dI t,[]),by refine ao ?_ (.ch ?_)<;>first|(intro c;simp only[Ga,ae];kernel_rfl)|kernel_rfl⟩
 |_,_=>aj
def ahi:af Tryz.prog:=ak sq Tryz.func172 Tryz.call172 [gj,t6,ahh] false [] fun
 |[.aa (.list (.int .i64)) e],[]=>⟨ad.a (xH e) fun t=>(dI t,[]),by refine ao ?_ (.group 2 (.aN (fun _=>rfl) (fun f=>([(0,dL e),(3,dI 0)],[])) (.ch ?_) fun f=>(.seq (fun d=>([(3,dI d)],[])) (.seq (fun b=>([(3,dI 0),(10,.ab 0),(11,dI b.1),(12,dI 0)],[some (.seq (.int .u64) b.2)])) (.ch ?_) fun b=>(.block (fun _=>true) (fun _=>rfl) (.loop (fun _=>rfl) (fun c=>([(3,dI c.1),(10,.ab 0),(11,dI b.1),(12,dI c.2)],[some (.seq (.int .u64) b.2)])) ?_ fun c=> .map (.ch ?_)))) fun d=>(.ch ?_))))<;>first|(intro g;simp only[Gc,Gd,sv,Ge,ae];kernel_rfl)|kernel_rfl⟩
 |_,_=>aj
def ahj:af Tryz.prog:=ak sq Tryz.func131 Tryz.call131 [ahi,⟨125,hQ,iF,Tryz.call125⟩] false [] fun
 |[.agg [.aa (.list (.int .i64)) b,.aa (.list (.list (.int .i64))) d]],[]=>⟨ad.a (xJ b) fun t=>(dS t,[]),by refine ao ?_ (.ch ?_)<;>first|(intro c;simp only[xJ,ae];kernel_rfl)|kernel_rfl⟩
 |_,_=>aj
def Xd:af Tryz.prog:=ak sq Tryz.func244 Tryz.call244 [] false [] fun
 |[.aa (.list (.int .i64)) b,.aa (.int .i64) c],[]=>⟨ad.a (Gj b c) fun t=>(dB t,[]),by refine ao ?_ (.group 2 (.aN (fun _=>rfl) (fun f=>([(0,dL b),(1,dI c),(5,.ptr 0 0)],[some (.seq .bool (replicate 9 false))])) (.ch ?_) fun f=>(.aN (fun _=>rfl) (fun g=>([],[])) (.seq (fun e=>([(1,dI c),(5,.ptr 0 0),(20,dL b),(21,dI e),(22,dI 0)],[some (.seq .bool (replicate 9 false))])) (.ch ?_) fun e=>(.block (Sum.elim (fun _=>false) (fun _=>true)) (bm (fun _=>rfl) (fun _=>rfl)) (.loop (bm (fun _=>rfl) (fun _=>rfl)) (fun d=>([(1,dI c),(5,.ptr 0 0),(20,dL b),(21,dI e),(22,dI d.1)],[some (.seq .bool d.2)])) ?_ fun d=> .map (.ch ?_)))) fun g=>(.ch ?_))))<;>first|(intro h;simp only[Gg,Gh,xK,Gi,ae];kernel_rfl)|kernel_rfl⟩
 |_,_=>aj
def ahk:af Tryz.prog:=ak sq Tryz.func298 Tryz.call298 [] false [(0,.t [⟨0,4,true,none,none⟩])] fun
 |[.aI,.aa (.int .i64) b],[]=>⟨ad.a (sw b) fun t=>(.win 0 0 t.1,[some (sI t.2)]),by refine ao ?_ (.ch ?_)<;>first|(intro c;simp only[sw,ae];kernel_rfl)|kernel_rfl⟩
 |_,_=>aj
def ahl:af Tryz.prog:=ak sq Tryz.func293 Tryz.call293 [ahk] false [(2,.t [⟨2,6,true,none,none⟩])] fun
 |[.aa (.list (.list (.int .i64))) b],[]=>⟨ad.a (xN b) fun t=>(.win 0 0 t.1,[some (sI t.2)]),by refine ao ?_ (.group 1 (.seq (fun j=>([(0,.aa (.list (.list (.int .i64))) b),(3,dI 0)],[])) (.ch ?_) fun j=>(.seq (fun i=>([(0,.aa (.list (.list (.int .i64))) b),(3,dI i)],[])) (.seq (fun f=>([(0,.aa (.list (.list (.int .i64))) b),(3,dI 0),(9,.aa (.list (.list (.int .i64))) b),(10,dI f),(11,dI 0)],[])) (.ch ?_) fun f=>(.block (fun _=>true) (fun _=>rfl) (.loop (fun _=>rfl) (fun e=>([(0,.aa (.list (.list (.int .i64))) b),(3,dI e.1),(9,.aa (.list (.list (.int .i64))) b),(10,dI f),(11,dI e.2)],[])) ?_ fun e=> .map (.ch ?_)))) fun i=>(.seq (fun c=>([(0,.aa (.list (.list (.int .i64))) b),(6,.win 0 0 c.1)],[some (sI c.2)])) (.ch ?_) fun c=>(.seq (fun g=>([(6,.win 0 0 g.1)],[some (sI g.2)])) (.seq (fun h=>([(6,.win 0 0 c.1),(25,.aa (.list (.list (.int .i64))) b),(26,dI h),(27,dI 0)],[some (sI c.2)])) (.ch ?_) fun h=>(.block (fun _=>true) (fun _=>rfl) (.loop (fun _=>rfl) (fun d=>([(6,.win 0 0 d.1),(25,.aa (.list (.list (.int .i64))) b),(26,dI h),(27,dI d.2.1)],[some (sI d.2.2)])) ?_ fun d=> .map (.ch ?_)))) fun g=>(.ch ?_))))))<;>first|(intro k;simp only[Gk,Gl,sx,Gm,Gn,sy,Gp,ae];kernel_rfl)|kernel_rfl⟩
 |_,_=>aj
def Xe:af Tryz.prog:=ak sq Tryz.func282 Tryz.call282 [ahl] true [(1,.t [⟨3,49,false,none,none⟩])] fun
 |[.aa (.list (.int .i64)) e,.aa (.list (.int .i64)) f],[]=>⟨ad.a (xP e f) fun t=>(.aW [.win 0 0 t.1,dI t.2.1],[some (sI t.2.2)]),by refine ao ?_ (.group 2 (.seq (fun d=>([(0,dL e),(1,dL f),(6,.ab 0),(7,dI 0)],[some (sI d)])) (.ch ?_) fun d=>(.seq (fun c=>([(0,dL c.1),(1,dL c.2.1),(6,.ab 0),(7,dI c.2.2.1)],[some (sI c.2.2.2)])) (.block (fun _=>true) (fun _=>rfl) (.loop (fun _=>rfl) (fun b=>([(0,dL b.1),(1,dL b.2.1),(6,.ab 0),(7,dI b.2.2.1)],[some (sI b.2.2.2)])) ?_ fun b=> .map (.ch ?_))) fun c=>(.ch ?_))))<;>first|(intro g;simp only[Gq,pF,Gr,ae];kernel_rfl)|kernel_rfl⟩
 |_,_=>aj
noncomputable def Xf:bf:=fK [(0,.t [⟨0,2,false,none,none⟩])] Tryz.f245
def kK (n:Nat):be:=fun avs a=>
 match avs,a with
 |[.aa (.list (.int .i64)) b],[]=>⟨_,lS n b,fun t=>(.aW [dL t.1,dI t.2],[]),[],none⟩
 |_,_=>ad.no
noncomputable def Xg (n:Nat):Ctx:=⟨bs cw,cF [(245,kK n),(282,(af.F Xe))],fO,0,false,[]⟩
theorem ahm (n:Nat) (a:List Int) {r:AV} {b:Heap} (h:(ad.mk _ (lS (n+1) a) (fun t=>(.aW [dL t.1,dI t.2],[])) [] none).run=some (r,b)):bK (Xg n) LL (bY Tryz.f245) Xf ⟨bU 44 0 [(0,dL a)],[]⟩ (dh (bs cw) Tryz.f245.results.toList r b):=
 gf (Lk.go (N:=44) (n:=sz (lS n) a) (fin:=(fun t=>(ret,⟨bU 44 0 [(2,dL t.1),(3,dI t.2)],[]⟩))) (.ch fun c=>by simp only[sz,ae];kernel_rfl) (by kernel_rfl)) (by kernel_rfl) (fun t=>es (by kernel_rfl)) h
theorem ahn (n:Nat) (a:Sound Tryz.prog 245 (kK n)):Sound Tryz.prog 245 (kK (n+1)):=by
 refine gg (C:=Xg n) (c:=bY Tryz.f245) (ge gi (aY a (aY (af.s Xe) cQ)) (aY Tryz.call245 (aY Tryz.call282 cQ)) (by kernel_rfl)) Tryz.func245 (by kernel_rfl) LL Xf ?_
 intro avs b r d h
 unfold kK at h
 split at h
 ·refine bK.cast ?_ ?_ ?_ (ahm n _ h)<;>kernel_rfl
 ·simp[ad.no,ad.run] at h
theorem aho:Sound Tryz.prog 245 (kK 0):=by
 intro avs a r b h
 unfold kK at h
 split at h
 ·simp[lS,pG,ad.run] at h
 ·simp[ad.no,ad.run] at h
theorem Xh: ∀n,Sound Tryz.prog 245 (kK n)
 |0=>aho
 |n+1=>by
  have a:=Xh n
  exact ahn n a
def Ax:be:=fun avs a=>
 match avs,a with
 |[.aa (.list (.int .i64)) b],[]=>⟨_,xR b,fun t=>(.aW [dL t.1,dI t.2],[]),[],none⟩
 |_,_=>ad.no
theorem ahp:Sound Tryz.prog 245 Ax:=by
 have e:Ax=kK RR:=by
  funext avs H
  unfold Ax kK
  split<;>first|rfl|(simp only[xR])
 rw[e]
 exact(Xh RR)
def ahq:af Tryz.prog:=ak sq Tryz.func203 Tryz.call203 [Xd,⟨245,Ax,ahp,Tryz.call245⟩] false [] fun
 |[.aa (.list (.int .i64)) b],[]=>⟨ad.a (sA b) fun t=>(dI t,[]),by refine ao ?_ (.ch ?_)<;>first|(intro c;simp only[sA,ae];kernel_rfl)|kernel_rfl⟩
 |_,_=>aj
def ahr:af Tryz.prog:=ak sq Tryz.func173 Tryz.call173 [Ko,ahq] false [] fun
 |[.aa (.list (.int .i64)) b],[]=>⟨ad.a (sB b) fun t=>(dI t,[]),by refine ao ?_ (.ch ?_)<;>first|(intro c;simp only[sB,ae];kernel_rfl)|kernel_rfl⟩
 |_,_=>aj
def ahs:af Tryz.prog:=ak sq Tryz.func132 Tryz.call132 [ahr,⟨125,hQ,iF,Tryz.call125⟩] false [] fun
 |[.agg [.aa (.list (.int .i64)) b,.aa (.list (.list (.int .i64))) d]],[]=>⟨ad.a (xU b) fun t=>(dS t,[]),by refine ao ?_ (.ch ?_)<;>first|(intro c;simp only[xU,ae];kernel_rfl)|kernel_rfl⟩
 |_,_=>aj
def aht:af Tryz.prog:=ak sq Tryz.func204 Tryz.call204 [] false [] fun
 |[.agg [.aa (.int .i64) b,.aa (.int .i64) c]],[]=>⟨ad.a (Gt b c) fun t=>(dI t,[]),by refine ao ?_ (.ch ?_)<;>first|(intro d;simp only[Gt,ae];kernel_rfl)|kernel_rfl⟩
 |_,_=>aj
def ahu:af Tryz.prog:=ak sq Tryz.func174 Tryz.call174 [gj,Kp,aht] false [] fun
 |[.aa (.list (.int .i64)) e],[]=>⟨ad.a (xV e) fun t=>(dI t,[]),by refine ao ?_ (.group 2 (.aN (fun _=>rfl) (fun f=>([(0,dL e),(3,dI 0)],[])) (.ch ?_) fun f=>(.seq (fun d=>([(3,dI d)],[])) (.seq (fun b=>([(3,dI 0),(10,.ab 0),(11,dI b.1),(12,dI 0)],[some (.seq (.pair (.int .i64) (.pair (.int .i64) .unit)) b.2)])) (.ch ?_) fun b=>(.block (fun _=>true) (fun _=>rfl) (.loop (fun _=>rfl) (fun c=>([(3,dI c.1),(10,.ab 0),(11,dI b.1),(12,dI c.2)],[some (.seq (.pair (.int .i64) (.pair (.int .i64) .unit)) b.2)])) ?_ fun c=> .map (.ch ?_)))) fun d=>(.ch ?_))))<;>first|(intro g;simp only[Gv,Gw,sC,Rs,ae];kernel_rfl)|kernel_rfl⟩
 |_,_=>aj
def ahv:af Tryz.prog:=ak sq Tryz.func133 Tryz.call133 [ahu,⟨125,hQ,iF,Tryz.call125⟩] false [] fun
 |[.agg [.aa (.list (.int .i64)) b,.aa (.list (.list (.int .i64))) d]],[]=>⟨ad.a (xX b) fun t=>(dS t,[]),by refine ao ?_ (.ch ?_)<;>first|(intro c;simp only[xX,ae];kernel_rfl)|kernel_rfl⟩
 |_,_=>aj
def ahw:Go.Shelf.Ren:=⟨fun|21=>283|27=>294|28=>295|35=>299|39=>300|n=>n,fun|0=>0|3=>3|4=>4|22=>23|n=>n,fun n=>n⟩
theorem ahx:Lays2.n21 Tryz.prog ahw:={
 mixed:=by kernel_rfl
 f21:=Tryz.func283.trans (aR some (by kernel_rfl))
 f27:=Tryz.func294.trans (aR some (by kernel_rfl))
 f28:=Tryz.func295.trans (aR some (by kernel_rfl))
 f35:=Tryz.func299.trans (aR some (by kernel_rfl))
 f39:=Tryz.func300.trans (aR some (by kernel_rfl))
 t0:=Tryz.underlying0
 a0:=Tryz.isAgg0
 z0:=Tryz.sizeOf0
 v0:=Tryz.zeroValue0
 t3:=Tryz.underlying3
 a3:=Tryz.isAgg3
 z3:=Tryz.sizeOf3
 v3:=Tryz.zeroValue3
 t4:=Tryz.underlying4
 a4:=Tryz.isAgg4
 z4:=Tryz.sizeOf4
 v4:=Tryz.zeroValue4
 t22:=Tryz.underlying23
 a22:=Tryz.isAgg23
 z22:=Tryz.sizeOf23
 v22:=Tryz.zeroValue23
 i3:=by kernel_rfl}
def Xi:be:=DK
theorem ahy:Sound Tryz.prog 283 Xi:=aeJ ahx
def ahz:af Tryz.prog:=ak sq Tryz.func247 Tryz.call247 [⟨283,Xi,ahy,Tryz.call283⟩] false [] fun
 |[.ab 0,.aa (.int .i64) a],[some (.seq (.int .i64) b)]=>⟨⟨_,xY a b,fun t=>(.ab 0,[some (sI t)]),[0],none⟩,by refine ao ?_ (.group 1 (.seq (fun d=>([(0,.ab 0),(1,dI a),(5,dI d)],[some (sI b)])) (.ch ?_) fun d=>(.seq (fun e=>([(0,.ab 0),(1,dI a),(5,dI e)],[some (sI b)])) (.block (fun _=>true) (fun _=>rfl) (.loop (fun _=>rfl) (fun c=>([(0,.ab 0),(1,dI a),(5,dI c)],[some (sI b)])) ?_ fun c=> .map (.ch ?_))) fun e=>(.ch ?_))))<;>first|(intro f;simp only[Gy,pH,Gz,ae];kernel_rfl)|kernel_rfl⟩
 |_,_=>aj
def ahA:af Tryz.prog:=ak sq Tryz.func206 Tryz.call206 [t1,kI,Kl,ahz] false [] fun
 |[.aa (.list (.int .i64)) f,.aa (.list (.int .u64)) c,.aa (.int .i64) g],[]=>⟨ad.a (x0 f c g) fun t=>(.ab 0,[some (sI t)]),by refine ao ?_ (.group 1 (.seq (fun h=>([(0,dL f),(1,.aa (.list (.int .u64)) c),(2,dI g),(7,.ab 0)],[some (sI ([]:List Int))])) (.ch ?_) fun h=>(.seq (fun e=>([(7,.ab 0)],[some (sI e)])) (.seq (fun b=>([(1,.aa (.list (.int .u64)) c),(7,.ab 0),(13,.ab 1),(14,dI b.1),(15,dI 0)],[some (sI ([]:List Int)),some (sI b.2)])) (.ch ?_) fun b=>(.block (fun _=>true) (fun _=>rfl) (.loop (fun _=>rfl) (fun d=>([(1,.aa (.list (.int .u64)) c),(7,.ab 0),(13,.ab 1),(14,dI b.1),(15,dI d.1)],[some (sI d.2),some (sI b.2)])) ?_ fun d=> .map (.ch ?_)))) fun e=>(.ch ?_))))<;>first|(intro i;simp only[GA,GB,sD,RC,ae];kernel_rfl)|kernel_rfl⟩
 |_,_=>aj
def ahB:af Tryz.prog:=ak sq Tryz.func246 Tryz.call246 [] false [] fun
 |[.aa (.list (.int .i64)) d,.aa (.int .u64) e,.aa .bool b],[]=>⟨ad.a (x2 d e b) fun t=>(dI t,[]),by refine ao ?_ (.group 2 (.seq (fun h=>([(0,dL d),(1,dW e),(2,dB b),(7,dI 0),(8,.ptr 0 0)],[some (sI (replicate 2 (0:Int)))])) (.ch ?_) fun h=>(.seq (fun f=>([(2,dB b),(7,dI f.1),(8,.ptr 0 0)],[some (sI f.2)])) (.seq (fun g=>([(1,dW e),(2,dB b),(7,dI 0),(8,.ptr 0 0),(12,dL d),(13,dI g),(14,dI 0)],[some (sI (replicate 2 (0:Int)))])) (.ch ?_) fun g=>(.block (fun _=>true) (fun _=>rfl) (.loop (fun _=>rfl) (fun c=>([(1,dW e),(2,dB b),(7,dI c.1),(8,.ptr 0 0),(12,dL d),(13,dI g),(14,dI c.2.1)],[some (sI c.2.2)])) ?_ fun c=> .map (.ch ?_)))) fun f=>(.ch ?_))))<;>first|(intro i;simp only[GC,GD,sE,GF,ae];kernel_rfl)|kernel_rfl⟩
 |_,_=>aj
def ahC:af Tryz.prog:=ak sq Tryz.func205 Tryz.call205 [ahB] false [] fun
 |[.aa (.list (.int .i64)) b,.aa .bool c],[]=>⟨ad.a (x3 b c) fun t=>(dI t,[]),by refine ao ?_ (.group 1 (.seq (fun e=>([(0,dL b),(1,dB c),(5,dI e)],[])) (.ch ?_) fun e=>(.seq (fun g=>([(5,dI g)],[])) (.seq (fun f=>([(0,dL b),(1,dB c),(5,dI e),(12,dW f),(13,dW 0)],[])) (.ch ?_) fun f=>(.block (fun _=>true) (fun _=>rfl) (.loop (fun _=>rfl) (fun d=>([(0,dL b),(1,dB c),(5,dI d.1),(12,dW f),(13,dW d.2)],[])) ?_ fun d=> .map (.ch ?_)))) fun g=>(.ch ?_))))<;>first|(intro h;simp only[GG,GH,sF,GI,ae];kernel_rfl)|kernel_rfl⟩
 |_,_=>aj
def ahD:af Tryz.prog:=ak sq Tryz.func175 Tryz.call175 [gj,t6,ahA,ahC] false [] fun
 |[.aa (.list (.int .i64)) b],[]=>⟨ad.a (x5 b) fun t=>(dI t,[]),by refine ao ?_ (.group 3 (.aN (fun _=>rfl) (fun c=>([(0,dL b),(3,.ab 0),(4,dI 0)],[some (.seq (.int .u64) c)])) (.ch ?_) fun c=>(.seq (fun f=>([(4,dI f)],[])) (.seq (fun e=>([(0,dL b),(3,.ab 0),(4,dI 0),(12,dL b),(13,dI e),(14,dI 0)],[some (.seq (.int .u64) c)])) (.ch ?_) fun e=>(.block (fun _=>true) (fun _=>rfl) (.loop (fun _=>rfl) (fun d=>([(0,dL b),(3,.ab 0),(4,dI d.1),(12,dL b),(13,dI e),(14,dI d.2)],[some (.seq (.int .u64) c)])) ?_ fun d=> .map (.ch ?_)))) fun f=>(.ch ?_))))<;>first|(intro g;simp only[GJ,GK,sG,RQ,ae];kernel_rfl)|kernel_rfl⟩
 |_,_=>aj
def ahE:af Tryz.prog:=ak sq Tryz.func134 Tryz.call134 [ahD,⟨125,hQ,iF,Tryz.call125⟩] false [] fun
 |[.agg [.aa (.list (.int .i64)) b,.aa (.list (.list (.int .i64))) d]],[]=>⟨ad.a (x7 b) fun t=>(dS t,[]),by refine ao ?_ (.ch ?_)<;>first|(intro c;simp only[x7,ae];kernel_rfl)|kernel_rfl⟩
 |_,_=>aj
def ahF:af Tryz.prog:=ak sq Tryz.func207 Tryz.call207 [] false [] fun
 |[.aa (.int .i64) b],[]=>⟨ad.a (sH b) fun t=>(dI t,[]),by refine ao ?_ (.ch ?_)<;>first|(intro c;simp only[sH,ae];kernel_rfl)|kernel_rfl⟩
 |_,_=>aj
def ahG:af Tryz.prog:=ak sq Tryz.func208 Tryz.call208 [] false [] fun
 |[.aa (.list (.pair (.int .i64) (.pair (.int .i64) .unit))) b],[]=>⟨ad.a (x8 b) fun t=>(.agg [dI t.1,dI t.2.1,dI t.2.2.1,dI t.2.2.2.1,dI t.2.2.2.2.1,dI t.2.2.2.2.2.1,dI t.2.2.2.2.2.2.1,dI t.2.2.2.2.2.2.2.1,dI t.2.2.2.2.2.2.2.2],[some (sI ([t.1,t.2.1,t.2.2.1,t.2.2.2.1,t.2.2.2.2.1,t.2.2.2.2.2.1,t.2.2.2.2.2.2.1,t.2.2.2.2.2.2.2.1,t.2.2.2.2.2.2.2.2]))]),by refine eu (fun t=> [(2,.ptr 0 0)]) ?_ (.group 1 (.seq (fun f=>([(0,.aa (.list (.pair (.int .i64) (.pair (.int .i64) .unit))) b),(2,.ptr 0 0),(3,.ptr 1 0)],[some (sI (replicate 9 (0:Int))),some (sI (replicate 9 (0:Int)))])) (.ch ?_) fun f=>(.seq (fun e=>([(2,.ptr 0 0),(3,.ptr 1 0)],[some (sI (replicate 9 (0:Int))),some (sI e)])) (.seq (fun d=>([(2,.ptr 0 0),(3,.ptr 1 0),(6,.aa (.list (.pair (.int .i64) (.pair (.int .i64) .unit))) b),(7,dI d),(8,dI 0)],[some (sI (replicate 9 (0:Int))),some (sI (replicate 9 (0:Int)))])) (.ch ?_) fun d=>(.block (fun _=>true) (fun _=>rfl) (.loop (fun _=>rfl) (fun c=>([(2,.ptr 0 0),(3,.ptr 1 0),(6,.aa (.list (.pair (.int .i64) (.pair (.int .i64) .unit))) b),(7,dI d),(8,dI c.1)],[some (sI (replicate 9 (0:Int))),some (sI c.2)])) ?_ fun c=> .map (.ch ?_)))) fun e=>(.ch ?_))))<;>first|(intro g;simp only[GM,GN,sK,GO,ae];kernel_rfl)|kernel_rfl⟩
 |_,_=>aj
def ahH:af Tryz.prog:=ak sq Tryz.func176 Tryz.call176 [gj,Kp,ahF,ahG] false [] fun
 |[.aa (.list (.int .i64)) f],[]=>⟨ad.a (ya f) fun t=>(dI t,[]),by refine ao ?_ (.group 3 (.aN (fun _=>rfl) (fun c=>([(3,.ab 0),(4,dI c.1)],[some (.seq (.pair (.int .i64) (.pair (.int .i64) .unit)) c.2)])) (.ch ?_) fun c=>(.seq (fun e=>([(4,dI e)],[])) (.seq (fun b=>([(4,dI c.1),(16,.agg [dI b.1,dI b.2.1,dI b.2.2.1,dI b.2.2.2.1,dI b.2.2.2.2.1,dI b.2.2.2.2.2.1,dI b.2.2.2.2.2.2.1,dI b.2.2.2.2.2.2.2.1,dI b.2.2.2.2.2.2.2.2]),(17,dI 0)],[])) (.ch ?_) fun b=>(.block (fun _=>true) (fun _=>rfl) (.loop (fun _=>rfl) (fun d=>([(4,dI d.1),(16,.agg [dI b.1,dI b.2.1,dI b.2.2.1,dI b.2.2.2.1,dI b.2.2.2.2.1,dI b.2.2.2.2.2.1,dI b.2.2.2.2.2.2.1,dI b.2.2.2.2.2.2.2.1,dI b.2.2.2.2.2.2.2.2]),(17,dI d.2)],[])) ?_ fun d=> .map (.ch ?_)))) fun e=>(.ch ?_))))<;>first|(intro g;simp only[GP,x9,sM,GQ,ae];kernel_rfl)|kernel_rfl⟩
 |_,_=>aj
def ahI:af Tryz.prog:=ak sq Tryz.func135 Tryz.call135 [ahH,⟨125,hQ,iF,Tryz.call125⟩] false [] fun
 |[.agg [.aa (.list (.int .i64)) b,.aa (.list (.list (.int .i64))) d]],[]=>⟨ad.a (yc b) fun t=>(dS t,[]),by refine ao ?_ (.ch ?_)<;>first|(intro c;simp only[yc,ae];kernel_rfl)|kernel_rfl⟩
 |_,_=>aj
def ahJ:af Tryz.prog:=ak sq Tryz.func67 Tryz.call67 [] false [] fun
 |[.aa (.int .u64) b],[]=>⟨ad.a (GS b) fun t=>(dB t,[]),by refine ao ?_ (.ch ?_)<;>first|(intro c;simp only[GS,ae];kernel_rfl)|kernel_rfl⟩
 |_,_=>aj
def Ay:af Tryz.prog:=ak sq Tryz.func19 Tryz.call19 [gj,t6,ahJ] false [] fun
 |[.aa (.list (.int .i64)) d],[]=>⟨ad.a (yd d) fun t=>(dB t,[]),by refine ao ?_ (.group 1 (.aN (fun _=>rfl) (fun e=>([(0,dL d)],[])) (.ch ?_) fun e=>(.aN (fun _=>rfl) (fun f=>([],[])) (.seq (fun b=>([(9,.ab 0),(10,dI b.1),(11,dI 0)],[some (.seq (.int .u64) b.2)])) (.ch ?_) fun b=>(.block (Sum.elim (fun _=>false) (fun _=>true)) (bm (fun _=>rfl) (fun _=>rfl)) (.loop (bm (fun _=>rfl) (fun _=>rfl)) (fun c=>([(9,.ab 0),(10,dI b.1),(11,dI c)],[some (.seq (.int .u64) b.2)])) ?_ fun c=> .map (.ch ?_)))) fun f=>(.ch ?_))))<;>first|(intro g;simp only[GV,GW,pJ,GX,ae];kernel_rfl)|kernel_rfl⟩
 |_,_=>aj
def Xj:af Tryz.prog:=ak sq Tryz.func177 Tryz.call177 [] false [] fun
 |[.aa .bool b],[]=>⟨ad.a (ye b) fun t=>(dS t,[]),by refine ao ?_ (.ch ?_)<;>first|(intro c;simp only[ye,ae];kernel_rfl)|kernel_rfl⟩
 |_,_=>aj
def ahK:af Tryz.prog:=ak sq Tryz.func136 Tryz.call136 [Ay,Xj] false [] fun
 |[.agg [.aa (.list (.int .i64)) b,.aa (.list (.list (.int .i64))) d]],[]=>⟨ad.a (yf b) fun t=>(dS t,[]),by refine ao ?_ (.ch ?_)<;>first|(intro c;simp only[yf,ae];kernel_rfl)|kernel_rfl⟩
 |_,_=>aj
def ahL:af Tryz.prog:=ak sq Tryz.func251 Tryz.call251 [W8,W9] false [] fun
 |[.aa (.int .i64) b,.aa (.int .i64) c,.aa (.int .i64) d,.aa (.int .i64) e],[]=>⟨ad.a (yg b c d e) fun t=>(dB t,[]),by refine ao ?_ (.ch ?_)<;>first|(intro f;simp only[yg,ae];kernel_rfl)|kernel_rfl⟩
 |_,_=>aj
def ahM:af Tryz.prog:=ak sq Tryz.func250 Tryz.call250 [ahL] false [] fun
 |[.aa (.int .i64) d,.aa (.int .i64) e,.ptr 0 0,.ptr 1 0],[some (.box [.aa (.int .i64) b]),some (.box [.aa (.int .i64) c])]=>⟨ad.a (yh d e b c) fun t=>(dB t,[some (.box [dI b]),some (.box [dI c])]),by refine ao ?_ (.ch ?_)<;>first|(intro f;simp only[yh,ae];kernel_rfl)|kernel_rfl⟩
 |_,_=>aj
def ahN:af Tryz.prog:=ak sq Tryz.func248 Tryz.call248 [ahM] false [] fun
 |[.aa (.list (.int .i64)) b,.fn 250 [] [.ptr 0 0,.ptr 1 0]],[some (.box [.aa (.int .i64) c]),some (.box [.aa (.int .i64) d])]=>⟨ad.a (Se b c d) fun t=>(dI t,[some (.box [dI c]),some (.box [dI d])]),by refine ao ?_ (.group 1 (.seq (fun k=>([(0,dL b),(1,.fn 250 [] [.ptr 0 0,.ptr 1 0]),(5,dI 0)],[some (.box [dI c]),some (.box [dI d])])) (.ch ?_) fun k=>(.seq (fun i=>([(5,dI i)],[some (.box [dI c]),some (.box [dI d])])) (.seq (fun f=>([(0,dL b),(1,.fn 250 [] [.ptr 0 0,.ptr 1 0]),(5,dI 0),(10,dL b),(11,dI f),(12,dI 0)],[some (.box [dI c]),some (.box [dI d])])) (.ch ?_) fun f=>(.block (fun _=>true) (fun _=>rfl) (.loop (fun _=>rfl) (fun e=>([(0,dL b),(1,.fn 250 [] [.ptr 0 0,.ptr 1 0]),(5,dI e.1),(10,dL b),(11,dI f),(12,dI e.2)],[some (.box [dI c]),some (.box [dI d])])) ?_ fun e=> .map (.group 1 (.aN (fun _=>rfl) (fun l=>([(0,dL b),(1,.fn 250 [] [.ptr 0 0,.ptr 1 0]),(5,dI e.1),(10,dL b),(11,dI f),(12,dI e.2)],[some (.box [dI c]),some (.box [dI d])])) (.ch ?_) fun l=>(.map (.seq (fun j=>([(0,dL b),(1,.fn 250 [] [.ptr 0 0,.ptr 1 0]),(5,dI j),(10,dL b),(11,dI f),(12,dI e.2)],[some (.box [dI c]),some (.box [dI d])])) (.block (fun _=>false) (fun _=>rfl) (.group 1 (.seq (fun g=>([(0,dL b),(1,.fn 250 [] [.ptr 0 0,.ptr 1 0]),(5,dI e.1),(7,dI g.1),(10,dL b),(11,dI f),(12,dI e.2),(20,dL g.2.1),(21,dI g.2.2),(22,dI 0)],[some (.box [dI c]),some (.box [dI d])])) (.ch ?_) fun g=>(.block (fun _=>true) (fun _=>rfl) (.loop (fun _=>rfl) (fun h=>([(0,dL b),(1,.fn 250 [] [.ptr 0 0,.ptr 1 0]),(5,dI h.1),(7,dI g.1),(10,dL b),(11,dI f),(12,dI e.2),(20,dL g.2.1),(21,dI g.2.2),(22,dI h.2)],[some (.box [dI c]),some (.box [dI d])])) ?_ fun h=> .map (.ch ?_)))))) fun j=>(.map (.ch ?_))))))))) fun i=>(.ch ?_))))<;>first|(intro m;simp only[R7,R8,R9,Sa,Sb,Sc,Sd,ae];kernel_rfl)|kernel_rfl⟩
 |_,_=>aj
def ahO:af Tryz.prog:=ak sq Tryz.func249 Tryz.call249 [ahN] false [] fun
 |[.aa (.int .i64) c,.aa (.int .i64) d,.ptr 0 0],[some (.box [.ab 1]),some (.seq (.int .i64) b)]=>⟨ad.a (sO c d b) fun t=>(dB t,[some (.box [.ab 1]),some (sI b)]),by refine ao ?_ (.ch ?_)<;>first|(intro e;simp only[sO,ae];kernel_rfl)|kernel_rfl⟩
 |_,_=>aj
def ahP:af Tryz.prog:=ak sq Tryz.func248 Tryz.call248 [ahO] false [] fun
 |[.aa (.list (.int .i64)) b,.fn 249 [] [.ptr 0 0]],[some (.box [.ab 1]),some (.seq (.int .i64) c)]=>⟨ad.a (Sm b c) fun t=>(dI t,[some (.box [.ab 1]),some (sI c)]),by refine ao ?_ (.group 1 (.seq (fun j=>([(0,dL b),(1,.fn 249 [] [.ptr 0 0]),(5,dI 0)],[some (.box [.ab 1]),some (sI c)])) (.ch ?_) fun j=>(.seq (fun h=>([(5,dI h)],[some (.box [.ab 1]),some (sI c)])) (.seq (fun e=>([(0,dL b),(1,.fn 249 [] [.ptr 0 0]),(5,dI 0),(10,dL b),(11,dI e),(12,dI 0)],[some (.box [.ab 1]),some (sI c)])) (.ch ?_) fun e=>(.block (fun _=>true) (fun _=>rfl) (.loop (fun _=>rfl) (fun d=>([(0,dL b),(1,.fn 249 [] [.ptr 0 0]),(5,dI d.1),(10,dL b),(11,dI e),(12,dI d.2)],[some (.box [.ab 1]),some (sI c)])) ?_ fun d=> .map (.group 1 (.aN (fun _=>rfl) (fun k=>([(0,dL b),(1,.fn 249 [] [.ptr 0 0]),(5,dI d.1),(10,dL b),(11,dI e),(12,dI d.2)],[some (.box [.ab 1]),some (sI c)])) (.ch ?_) fun k=>(.map (.seq (fun i=>([(0,dL b),(1,.fn 249 [] [.ptr 0 0]),(5,dI i),(10,dL b),(11,dI e),(12,dI d.2)],[some (.box [.ab 1]),some (sI c)])) (.block (fun _=>false) (fun _=>rfl) (.group 1 (.seq (fun f=>([(0,dL b),(1,.fn 249 [] [.ptr 0 0]),(5,dI d.1),(7,dI f.1),(10,dL b),(11,dI e),(12,dI d.2),(20,dL f.2.1),(21,dI f.2.2),(22,dI 0)],[some (.box [.ab 1]),some (sI c)])) (.ch ?_) fun f=>(.block (fun _=>true) (fun _=>rfl) (.loop (fun _=>rfl) (fun g=>([(0,dL b),(1,.fn 249 [] [.ptr 0 0]),(5,dI g.1),(7,dI f.1),(10,dL b),(11,dI e),(12,dI d.2),(20,dL f.2.1),(21,dI f.2.2),(22,dI g.2)],[some (.box [.ab 1]),some (sI c)])) ?_ fun g=> .map (.ch ?_)))))) fun i=>(.map (.ch ?_))))))))) fun h=>(.ch ?_))))<;>first|(intro l;simp only[Sf,Sg,Sh,Si,Sj,Sk,Sl,ae];kernel_rfl)|kernel_rfl⟩
 |_,_=>aj
def ahQ:af Tryz.prog:=ak sq Tryz.func210 Tryz.call210 [kI,ahP] false [] fun
 |[.aa (.int .u64) b,.aa (.int .u64) c],[]=>⟨ad.a (sQ b c) fun t=>(dB t,[]),by refine ao ?_ (.ch ?_)<;>first|(intro d;simp only[sQ,ae];kernel_rfl)|kernel_rfl⟩
 |_,_=>aj
def ahR:af Tryz.prog:=ak sq Tryz.func209 Tryz.call209 [ahQ] false [] fun
 |[.aa (.list (.int .u64)) b,.fn 210 [] []],[]=>⟨ad.a (Sv b) fun t=>(dI t,[]),by refine ao ?_ (.group 1 (.seq (fun i=>([(0,.aa (.list (.int .u64)) b),(1,.fn 210 [] []),(5,dI 0)],[])) (.ch ?_) fun i=>(.seq (fun g=>([(5,dI g)],[])) (.seq (fun d=>([(0,.aa (.list (.int .u64)) b),(1,.fn 210 [] []),(5,dI 0),(10,.aa (.list (.int .u64)) b),(11,dI d),(12,dI 0)],[])) (.ch ?_) fun d=>(.block (fun _=>true) (fun _=>rfl) (.loop (fun _=>rfl) (fun c=>([(0,.aa (.list (.int .u64)) b),(1,.fn 210 [] []),(5,dI c.1),(10,.aa (.list (.int .u64)) b),(11,dI d),(12,dI c.2)],[])) ?_ fun c=> .map (.group 1 (.aN (fun _=>rfl) (fun j=>([(0,.aa (.list (.int .u64)) b),(1,.fn 210 [] []),(5,dI c.1),(10,.aa (.list (.int .u64)) b),(11,dI d),(12,dI c.2)],[])) (.ch ?_) fun j=>(.map (.seq (fun h=>([(0,.aa (.list (.int .u64)) b),(1,.fn 210 [] []),(5,dI h),(10,.aa (.list (.int .u64)) b),(11,dI d),(12,dI c.2)],[])) (.block (fun _=>false) (fun _=>rfl) (.group 1 (.seq (fun e=>([(0,.aa (.list (.int .u64)) b),(1,.fn 210 [] []),(5,dI c.1),(7,dW e.1),(10,.aa (.list (.int .u64)) b),(11,dI d),(12,dI c.2),(20,.aa (.list (.int .u64)) e.2.1),(21,dI e.2.2),(22,dI 0)],[])) (.ch ?_) fun e=>(.block (fun _=>true) (fun _=>rfl) (.loop (fun _=>rfl) (fun f=>([(0,.aa (.list (.int .u64)) b),(1,.fn 210 [] []),(5,dI f.1),(7,dW e.1),(10,.aa (.list (.int .u64)) b),(11,dI d),(12,dI c.2),(20,.aa (.list (.int .u64)) e.2.1),(21,dI e.2.2),(22,dI f.2)],[])) ?_ fun f=> .map (.ch ?_)))))) fun h=>(.map (.ch ?_))))))))) fun g=>(.ch ?_))))<;>first|(intro k;simp only[Sn,So,Sp,Sq,Sr,Ss,Su,ae];kernel_rfl)|kernel_rfl⟩
 |_,_=>aj
def ahS:af Tryz.prog:=ak sq Tryz.func178 Tryz.call178 [gj,t6,ahR] false [] fun
 |[.aa (.list (.int .i64)) b],[]=>⟨ad.a (sS b) fun t=>(dB t,[]),by refine ao ?_ (.ch ?_)<;>first|(intro c;simp only[sS,ae];kernel_rfl)|kernel_rfl⟩
 |_,_=>aj
def ahT:af Tryz.prog:=ak sq Tryz.func137 Tryz.call137 [ahS,Xj] false [] fun
 |[.agg [.aa (.list (.int .i64)) b,.aa (.list (.list (.int .i64))) d]],[]=>⟨ad.a (yj b) fun t=>(dS t,[]),by refine ao ?_ (.ch ?_)<;>first|(intro c;simp only[yj,ae];kernel_rfl)|kernel_rfl⟩
 |_,_=>aj
def Xk:af Tryz.prog:=ak sq Tryz.func211 Tryz.call211 [] false [] fun
 |[.aa (.int .i64) b],[]=>⟨ad.a (sT b) fun t=>(.ptr 0 0,[some (.box [.ab 1,.aI,dI 0,dI 0]),some (sI t)]),by refine ao ?_ (.ch ?_)<;>first|(intro c;simp only[sT,ae];kernel_rfl)|kernel_rfl⟩
 |_,_=>aj
def Xl:be:=rv [(.int .u8 83,.func 252),(.int .u8 76,.func 253),(.int .u8 82,.func 254)]
theorem ahU:Sound Tryz.prog 212 Xl:=
 Dx (mt:=170) (kt:=5) (et:=174) (d:= .int .u8) Tryz.func212 (by kernel_rfl) (by kernel_rfl) (by kernel_rfl) (by kernel_rfl) (by kernel_rfl)
def ahV:af Tryz.prog:=ak sq Tryz.func213 Tryz.call213 [] false [] fun
 |[.ptr 0 0,.aa (.list (.int .i64)) b],[some (.box [.ab 1,.aI,.aa (.int .i64) c,.aa (.int .i64) d]),some (.seq (.int .i64) e)]=>⟨ad.a (yk) fun t=>(.fn 256 [] [.ptr 2 0,.ptr 3 0],[some (.box [.ab 1,.aI,dI c,dI d]),some (sI e),some (.box [.ptr 0 0]),some (.box [.fn 255 [] [.ptr 4 0,.ptr 2 0]]),some (.box [dL b])]),by refine ao ?_ (.ch ?_)<;>first|(intro f;simp only[yk,ae];kernel_rfl)|kernel_rfl⟩
 |_,_=>aj
def Kq:af Tryz.prog:=ak sq Tryz.func257 Tryz.call257 [] false [] fun
 |[.ptr 0 0],[some (.box [.ab 1,.ab 2,.aa (.int .i64) c,.aa (.int .i64) d]),some (.seq (.int .i64) e),some (.seq (.int .i64) b)]=>⟨ad.a (pK b) fun t=>(.aW [dI t.1,dI t.2.1,dB t.2.2],[some (.box [.ab 1,.ab 2,dI c,dI d]),some (sI e),some (sI b)]),by refine ao ?_ (.ch ?_)<;>first|(intro f;simp only[pK,ae];kernel_rfl)|kernel_rfl⟩
 |_,_=>aj
def ahW:af Tryz.prog:=ak sq Tryz.func255 Tryz.call255 [t1] false [(1,.d [10,16] [0,1,2,3,4,5,6,7,8,9,11,12,13,14,15,10,16,17,18,19])] fun
 |[.aa (.int .i64) e,.aa (.int .i64) f,.ptr 0 0,.ptr 1 0],[some (.box [.aa (.list (.int .i64)) b]),some (.box [.ptr 2 0]),some (.box [.ab 3,.ab 4,.aa (.int .i64) g,.aa (.int .i64) h]),some (.seq (.int .i64) c),some (.seq (.int .i64) i)]=>⟨ad.a (yl e f b c) fun t=>(dB t,[some (.box [dL b]),some (.box [.ptr 2 0]),some (.box [.ab 3,.ab 4,dI g,dI h]),some (sI c),some (sI i)]),by refine ao ?_ (.ch ?_)<;>first|(intro j;simp only[yl,ae];kernel_rfl)|kernel_rfl⟩
 |_,_=>aj
def ahX:af Tryz.prog:=ak sq Tryz.func256 Tryz.call256 [Kq,ahW] false [] fun
 |[.ptr 0 0,.ptr 1 0],[some (.box [.ptr 2 0]),some (.box [.fn 255 [] [.ptr 3 0,.ptr 0 0]]),some (.box [.ab 4,.ab 5,.aa (.int .i64) b,.aa (.int .i64) c]),some (.box [.aa (.list (.int .i64)) d]),some (.seq (.int .i64) e),some (.seq (.int .i64) f)]=>⟨ad.a (ym b c d e f) fun t=>(dU t,[some (.box [.ptr 2 0]),some (.box [.fn 255 [] [.ptr 3 0,.ptr 0 0]]),some (.box [.ab 4,.ab 5,dI b,dI c]),some (.box [dL d]),some (sI e),some (sI f)]),by refine ao ?_ (.ch ?_)<;>first|(intro g;simp only[ym,ae];kernel_rfl)|kernel_rfl⟩
 |_,_=>aj
def ahY:af Tryz.prog:=ak sq Tryz.func252 Tryz.call252 [] false [] fun
 |[.ptr 0 0],[some (.box [.ab 1,.ab 2,.aa (.int .i64) b,.aa (.int .i64) c]),some (.seq (.int .i64) a),some (.seq (.int .i64) d)]=>⟨⟨_,yn b c a d,fun t=>(dB t.1,[some (.box [.ab 1,.ab 2,dI t.2.1,dI t.2.2.1]),some (sI a),some (sI t.2.2.2)]),[2],none⟩,by refine ao ?_ (.ch ?_)<;>first|(intro e;simp only[yn,ae];kernel_rfl)|kernel_rfl⟩
 |_,_=>aj
def Xm:af Tryz.prog:=ak sq Tryz.func284 Tryz.call284 [] false [] fun
 |[.ptr 0 0,.aa (.int .i64) c,.aa (.int .i64) d],[some (.box [.ab 1,.ab 2,.aa (.int .i64) a,.aa (.int .i64) b]),some (.seq (.int .i64) e),some (.seq (.int .i64) f)]=>⟨⟨_,sX c d a b e f,fun t=>(.aW [],[some (.box [.ab 1,.ab 2,dI a,dI b]),some (sI t.1),some (sI t.2)]),[2],none⟩,DG (by kernel_rfl) fun r g h=>rq (Lk.go (N:=31) (n:=yo c d e f) (fin:=(fun t=>(normal,⟨bU 31 0 [],[some (.box [.ab 1,.ab 2,dI a,dI b]),some (sI t.1),some (sI t.2)]⟩))) (.ch fun i=>by simp only[yo,ae];kernel_rfl) (by kernel_rfl)) (fun t=>(t.1,t.2)) (by kernel_rfl) (by
   rintro t
   ·exact es (by kernel_rfl)) h⟩
 |_,_=>aj
def ahZ:af Tryz.prog:=ak sq Tryz.func253 Tryz.call253 [Kq,Xm] false [] fun
 |[.ptr 0 0],[some (.box [.ab 1,.ab 2,.aa (.int .i64) a,.aa (.int .i64) b]),some (.seq (.int .i64) c),some (.seq (.int .i64) d)]=>⟨⟨_,yp a b c d,fun t=>(dB t.1,[some (.box [.ab 1,.ab 2,dI a,dI b]),some (sI t.2.1),some (sI t.2.2)]),[2],none⟩,by refine ao ?_ (.ch ?_)<;>first|(intro e;simp only[yp,ae];kernel_rfl)|kernel_rfl⟩
 |_,_=>aj
def ah0:af Tryz.prog:=ak sq Tryz.func254 Tryz.call254 [Kq,Xm] false [] fun
 |[.ptr 0 0],[some (.box [.ab 1,.ab 2,.aa (.int .i64) a,.aa (.int .i64) b]),some (.seq (.int .i64) c),some (.seq (.int .i64) d)]=>⟨⟨_,yq a b c d,fun t=>(dB t.1,[some (.box [.ab 1,.ab 2,dI a,dI b]),some (sI t.2.1),some (sI t.2.2)]),[2],none⟩,by refine ao ?_ (.ch ?_)<;>first|(intro e;simp only[yq,ae];kernel_rfl)|kernel_rfl⟩
 |_,_=>aj
def ah1:af Tryz.prog:=ak sq Tryz.func179 Tryz.call179 [Ay,Xk,⟨212,Xl,ahU,Tryz.call212⟩,ahV,ahX,ahY,ahZ,ah0] false [(1,.t [⟨1,37,false,none,none⟩]),(9,.t [⟨5,4,false,some 1,some ((.int .i64))⟩])] fun
 |[.aa (.list (.int .i64)) c],[]=>⟨ad.a (yr c) fun t=>(.aW [dS t.1,dB t.2],[]),by refine ao ?_ (.group 4 (.aN (fun _=>rfl) (fun d=>([(0,dL c),(4,.ptr 0 0),(5,.gw [(.int .u8 83,.func 252),(.int .u8 76,.func 253),(.int .u8 82,.func 254)]),(6,.fn 256 [] [.ptr 1 0,.ptr 2 0]),(7,.ab 3)],[some (.box [.ab 4,.aI,dI 0,dI 0]),some (.box [.ptr 0 0]),some (.box [.fn 255 [] [.ptr 5 0,.ptr 1 0]]),some (sU ([]:List Int)),some (sI d),some (.box [dL c])])) (.ch ?_) fun d=>(.seq (fun f=>([(7,.ab 0)],[some (sU f)])) (.seq (fun e=>([(4,.ptr 0 0),(5,.gw [(.int .u8 83,.func 252),(.int .u8 76,.func 253),(.int .u8 82,.func 254)]),(6,.fn 256 [] [.ptr 1 0,.ptr 2 0]),(7,.ab 3),(22,dI e),(23,dI 0)],[some (.box [.ab 4,.ab 5,dI 0,dI 0]),some (.box [.ptr 0 0]),some (.box [.fn 255 [] [.ptr 6 0,.ptr 1 0]]),some (sU ([]:List Int)),some (sI d),some (sI ([]:List Int)),some (.box [dL c])])) (.ch ?_) fun e=>(.block (fun _=>true) (fun _=>rfl) (.loop (fun _=>rfl) (fun b=>([(4,.ptr 0 0),(5,.gw [(.int .u8 83,.func 252),(.int .u8 76,.func 253),(.int .u8 82,.func 254)]),(6,.fn 256 [] [.ptr 1 0,.ptr 2 0]),(7,.ab 3),(22,dI e),(23,dI b.1)],[some (.box [.ab 4,.ab 5,dI b.2.1,dI b.2.2.1]),some (.box [.ptr 0 0]),some (.box [.fn 255 [] [.ptr 6 0,.ptr 1 0]]),some (sU b.2.2.2.1),some (sI b.2.2.2.2.1),some (sI b.2.2.2.2.2),some (.box [dL c])])) ?_ fun b=> .map (.ch ?_)))) fun f=>(.ch ?_))))<;>first|(intro g;simp only[Hb,Hc,pL,Hd,ae];kernel_rfl)|kernel_rfl⟩
 |_,_=>aj
def Az:af Tryz.prog:=ak sq Tryz.func142 Tryz.call142 [] false [] fun
 |[.aa .str b],[]=>⟨ad.a (sY b) fun t=>(dS t,[]),by refine ao ?_ (.ch ?_)<;>first|(intro c;simp only[sY,ae];kernel_rfl)|kernel_rfl⟩
 |_,_=>aj
def ah2:af Tryz.prog:=ak sq Tryz.func138 Tryz.call138 [ah1,Az] false [] fun
 |[.agg [.aa (.list (.int .i64)) b,.aa (.list (.list (.int .i64))) d]],[]=>⟨ad.a (sZ b) fun t=>(dS t,[]),by refine ao ?_ (.ch ?_)<;>first|(intro c;simp only[sZ,ae];kernel_rfl)|kernel_rfl⟩
 |_,_=>aj
def ah3:af Tryz.prog:=ak sq Tryz.func214 Tryz.call214 [Xk] false [] fun
 |[.aa (.int .i64) b],[]=>⟨ad.a (yv b) fun t=>(.ptr 0 0,[some (.box [.ab 1,.aI,dI 0,dI 0,dW 0]),some (sI t)]),by refine ao ?_ (.ch ?_)<;>first|(intro c;simp only[yv,ae];kernel_rfl)|kernel_rfl⟩
 |_,_=>aj
def Xn:be:=rv [(.int .u8 83,.methodOf 175 "loop.example/headtrees/impl.putNext"),(.int .u8 76,.func 258),(.int .u8 82,.func 259),(.int .u8 68,.func 260)]
theorem ah4:Sound Tryz.prog 215 Xn:=
 Dx (mt:=177) (kt:=5) (et:=184) (d:= .int .u8) Tryz.func215 (by kernel_rfl) (by kernel_rfl) (by kernel_rfl) (by kernel_rfl) (by kernel_rfl)
def Kr:af Tryz.prog:=ak sq Tryz.func261 Tryz.call261 [] false [] fun
 |[.ptr 0 0],[some (.box [.ab 1,.win 2 b c,.aa (.int .i64) d,.aa (.int .i64) g,.aa (.int .u64) h]),some (.seq (.int .i64) e),some (.seq (.int .i64) f)]=>⟨ad.a (s0 b c d e f) fun t=>(.aW [dI t.1,dI t.2.1,dB t.2.2],[some (.box [.ab 1,.win 2 b c,dI d,dI g,dW h]),some (sI e),some (sI f)]),by refine ao ?_ (.ch ?_)<;>first|(intro i;simp only[s0,ae];kernel_rfl)|kernel_rfl⟩
 |_,_=>aj
def ah5:af Tryz.prog:=ak sq Tryz.func289 Tryz.call289 [] false [] fun
 |[.aa (.int .i64) d,.ptr 0 0,.ptr 1 0],[some (.box [.aa (.list (.int .i64)) b]),some (.box [.aa (.int .i64) c])]=>⟨ad.a (s1 d b c) fun t=>(dB t,[some (.box [dL b]),some (.box [dI c])]),by refine ao ?_ (.ch ?_)<;>first|(intro e;simp only[s1,ae];kernel_rfl)|kernel_rfl⟩
 |_,_=>aj
def ah6:af Tryz.prog:=ak sq Tryz.func297 Tryz.call297 [ah5] false [] fun
 |[.aa (.list (.int .i64)) d,.fn 289 [] [.ptr 0 0,.ptr 1 0]],[some (.box [.aa (.list (.int .i64)) b]),some (.box [.aa (.int .i64) c])]=>⟨ad.a (yx d b c) fun t=>(dI t,[some (.box [dL b]),some (.box [dI c])]),by refine ao ?_ (.seq (fun g=>([(0,dL d),(1,.fn 289 [] [.ptr 0 0,.ptr 1 0])],[some (.box [dL b]),some (.box [dI c])])) (.ch ?_) fun g=>(.aN (fun _=>rfl) (fun h=>([],[some (.box [dL b]),some (.box [dI c])])) (.seq (fun e=>([(0,dL d),(1,.fn 289 [] [.ptr 0 0,.ptr 1 0]),(7,dI e),(8,dI 0)],[some (.box [dL b]),some (.box [dI c])])) (.ch ?_) fun e=>(.block (Sum.elim (fun _=>false) (fun _=>true)) (bm (fun _=>rfl) (fun _=>rfl)) (.loop (bm (fun _=>rfl) (fun _=>rfl)) (fun f=>([(0,dL d),(1,.fn 289 [] [.ptr 0 0,.ptr 1 0]),(7,dI e),(8,dI f)],[some (.box [dL b]),some (.box [dI c])])) ?_ fun f=> .map (.ch ?_)))) fun h=>(.ch ?_)))<;>first|(intro i;simp only[Hg,Hh,s2,SD,ae];kernel_rfl)|kernel_rfl⟩
 |_,_=>aj
def ah7:af Tryz.prog:=ak sq Tryz.func288 Tryz.call288 [ah6] false [] fun
 |[.aa (.list (.int .i64)) d,.fn 289 [] [.ptr 0 0,.ptr 1 0]],[some (.box [.aa (.list (.int .i64)) b]),some (.box [.aa (.int .i64) c])]=>⟨ad.a (yy d b c) fun t=>(dB t,[some (.box [dL b]),some (.box [dI c])]),by refine ao ?_ (.ch ?_)<;>first|(intro e;simp only[yy,ae];kernel_rfl)|kernel_rfl⟩
 |_,_=>aj
def ah8:af Tryz.prog:=ak sq Tryz.func262 Tryz.call262 [af.forget ah7] false [] fun
 |[.ptr 0 0,.aa (.list (.int .i64)) e,.aa (.int .i64) f],[some (.box [.ab 1,.win 2 b c,.aa (.int .i64) g,.aa (.int .i64) h,.aa (.int .u64) i]),some (.seq (.int .i64) j),some (.seq (.int .i64) d)]=>⟨ad.a (s3 e f b c d) fun t=>(dB t,[some (.box [.ab 1,.win 2 b c,dI g,dI h,dW i]),some (sI j),some (sI d)]),by refine ao ?_ (.ch ?_)<;>first|(intro k;simp only[s3,ae];kernel_rfl)|kernel_rfl⟩
 |_,_=>aj
def ah9:af Tryz.prog:=ak sq Tryz.func216 Tryz.call216 [Kr,ah8] false [] fun
 |[.ptr 0 0,.aa (.list (.int .i64)) i],[some (.box [.ab 1,.win 2 b c,.aa (.int .i64) d,.aa (.int .i64) e,.aa (.int .u64) f]),some (.seq (.int .i64) g),some (.seq (.int .i64) h)]=>⟨ad.a (s4 i b c d e f g h) fun t=>(dU t,[some (.box [.ab 1,.win 2 b c,dI d,dI e,dW f]),some (sI g),some (sI h)]),by refine ao ?_ (.ch ?_)<;>first|(intro j;simp only[s4,ae];kernel_rfl)|kernel_rfl⟩
 |_,_=>aj
def Xo:af Tryz.prog:=ak sq Tryz.func252 Tryz.call252 [] false [(0,.t [⟨0,0,true,some 1,none⟩]),(0,.p [0])] fun
 |[.ptr 0 0],[some (.box [.ab 1,.win 2 b c,.aa (.int .i64) d,.aa (.int .i64) e,.aa (.int .u64) f]),some (.seq (.int .i64) a),some (.seq (.int .i64) g)]=>⟨⟨_,s5 b c d e a g,fun t=>(dB t.1,[some (.box [.ab 1,.win 2 t.2.1 t.2.2.1,dI t.2.2.2.1,dI t.2.2.2.2.1,dW f]),some (sI a),some (sI t.2.2.2.2.2)]),[2],none⟩,by refine eu (fun t=> [(0,.ptr 0 0),(2,dB t.1)]) ?_ (.ch ?_)<;>first|(intro h;simp only[s5,ae];kernel_rfl)|kernel_rfl⟩
 |_,_=>aj
def aia:af Tryz.prog:=ak sq Tryz.func296 Tryz.call296 [] false [] fun
 |[.aa (.int .u64) b,.aa (.int .u64) c],[]=>⟨ad.a (Hk b c) fun t=>(dB t,[]),by refine ao ?_ (.ch ?_)<;>first|(intro d;simp only[Hk,ae];kernel_rfl)|kernel_rfl⟩
 |_,_=>aj
def Xp:af Tryz.prog:=ak sq Tryz.func285 Tryz.call285 [qb,aia] false [(1,.d [5,6] [])] fun
 |[.ptr 0 0,.aa (.int .i64) c],[some (.box [.ab 1,.win 2 e f,.aa (.int .i64) g,.aa (.int .i64) h,.aa (.int .u64) b]),some (.seq (.int .i64) i),some (.seq (.int .i64) j)]=>⟨ad.a (s6 c b) fun t=>(dB t,[some (.box [.ab 1,.win 2 e f,dI g,dI h,dW b]),some (sI i),some (sI j)]),by refine ao ?_ (.ch ?_)<;>first|(intro k;simp only[s6,ae];kernel_rfl)|kernel_rfl⟩
 |_,_=>aj
def Xq:af Tryz.prog:=ak sq Tryz.func286 Tryz.call286 [qb] false [(0,.d [5] [])] fun
 |[.ptr 0 0,.aa (.int .i64) g,.aa (.int .i64) i],[some (.box [.ab 1,.win 2 a b,.aa (.int .i64) c,.aa (.int .i64) e,.aa (.int .u64) j]),some (.seq (.int .i64) k),some (.seq (.int .i64) f)]=>⟨⟨_,pO g i a b c e j k f,fun t=>(.aW [],[some (.box [.ab 1,.win 2 a b,dI c,dI e,dW t.1]),some (sI t.2),some (sI f)]),[],none⟩,DG (by kernel_rfl) fun r l h=>rq (Lk.go (N:=24) (n:=s8 g i j k) (fin:=(fun t=>(normal,⟨bU 24 0 [],[some (.box [.ab 1,.win 2 a b,dI c,dI e,dW t.1]),some (sI t.2),some (sI f)]⟩))) (.ch fun m=>by simp only[s8,ae];kernel_rfl) (by kernel_rfl)) (fun t=>(t.1,t.2)) (by kernel_rfl) (by
   rintro t
   ·exact es (by kernel_rfl)) h⟩
 |_,_=>aj
def Xr:af Tryz.prog:=ak sq Tryz.func287 Tryz.call287 [] false [] fun
 |[.ptr 0 0],[some (.box [.ab 1,.win 2 f g,.aa (.int .i64) a,.aa (.int .i64) b,.aa (.int .u64) c]),some (.seq (.int .i64) d),some (.seq (.int .i64) e)]=>⟨⟨_,s9 f g a b c d e,fun t=>(.aW [],[some (.box [.ab 1,.win 2 t.1 t.2,dI a,dI b,dW c]),some (sI d),some (sI e)]),[],none⟩,DG (by kernel_rfl) fun r i h=>rq (Lk.go (N:=19) (n:=yB f g) (fin:=(fun t=>(normal,⟨bU 19 0 [],[some (.box [.ab 1,.win 2 t.1 t.2,dI a,dI b,dW c]),some (sI d),some (sI e)]⟩))) (.ch fun j=>by simp only[yB,ae];kernel_rfl) (by kernel_rfl)) (fun t=>(t.1,t.2)) (by kernel_rfl) (by
   rintro t
   ·exact es (by kernel_rfl)) h⟩
 |_,_=>aj
def aib:af Tryz.prog:=ak sq Tryz.func258 Tryz.call258 [Kr,Xp,Xq,Xr] false [] fun
 |[.ptr 0 0],[some (.box [.ab 1,.win 2 e f,.aa (.int .i64) b,.aa (.int .i64) c,.aa (.int .u64) g]),some (.seq (.int .i64) h),some (.seq (.int .i64) d)]=>⟨ad.a (nE e f b c g h d) fun t=>(dB t.1,[some (.box [.ab 1,.win 2 t.2.1 t.2.2.1,dI b,dI c,dW t.2.2.2.1]),some (sI t.2.2.2.2),some (sI d)]),by refine ao ?_ (.ch ?_)<;>first|(intro i;simp only[nE,ae];kernel_rfl)|kernel_rfl⟩
 |_,_=>aj
def aic:af Tryz.prog:=ak sq Tryz.func259 Tryz.call259 [Kr,Xq,Xo] false [] fun
 |[.ptr 0 0],[some (.box [.ab 1,.win 2 a b,.aa (.int .i64) c,.aa (.int .i64) d,.aa (.int .u64) e]),some (.seq (.int .i64) f),some (.seq (.int .i64) g)]=>⟨⟨_,pP a b c d e f g,fun t=>(dB t.1,[some (.box [.ab 1,.win 2 t.2.1 t.2.2.1,dI t.2.2.2.1,dI t.2.2.2.2.1,dW t.2.2.2.2.2.1]),some (sI t.2.2.2.2.2.2.1),some (sI t.2.2.2.2.2.2.2)]),[2],none⟩,by refine ao ?_ (.ch ?_)<;>first|(intro h;simp only[pP,ae];kernel_rfl)|kernel_rfl⟩
 |_,_=>aj
def aid:af Tryz.prog:=ak sq Tryz.func260 Tryz.call260 [Xp,Xr] false [] fun
 |[.ptr 0 0],[some (.box [.ab 1,.win 2 g h,.aa (.int .i64) b,.aa (.int .i64) c,.aa (.int .u64) d]),some (.seq (.int .i64) e),some (.seq (.int .i64) f)]=>⟨ad.a (ta g h b c d e f) fun t=>(dB t.1,[some (.box [.ab 1,.win 2 t.2.1 t.2.2,dI b,dI c,dW d]),some (sI e),some (sI f)]),by refine ao ?_ (.ch ?_)<;>first|(intro i;simp only[ta,ae];kernel_rfl)|kernel_rfl⟩
 |_,_=>aj
def aie:af Tryz.prog:=ak sq Tryz.func180 Tryz.call180 [Ay,ah3,⟨215,Xn,ah4,Tryz.call215⟩,ah9,Xo,aib,aic,aid] false [(1,.t [⟨1,35,false,none,none⟩]),(2,.t [⟨5,4,true,some 1,none⟩]),(8,.t [⟨1,4,false,some 1,some ((.int .i64))⟩,⟨1,4,true,some 1,none⟩])] fun
 |[.aa (.list (.int .i64)) d],[]=>⟨ad.a (yC d) fun t=>(.aW [dS t.1,dB t.2],[]),by refine ao ?_ (.group 3 (.aN (fun _=>rfl) (fun c=>([(0,dL d),(4,.ptr 0 0),(5,.gw [(.int .u8 83,.methodOf 175 "loop.example/headtrees/impl.putNext"),(.int .u8 76,.func 258),(.int .u8 82,.func 259),(.int .u8 68,.func 260)]),(6,.ab 1)],[some (.box [.ab 2,.win 3 0 c.1,dI 0,dI 0,dW 0]),some (sU ([]:List Int)),some (sI c.2),some (sI ([]:List Int))])) (.ch ?_) fun c=>(.seq (fun e=>([(6,.ab 0)],[some (sU e)])) (.block (fun _=>true) (fun _=>rfl) (.loop (fun _=>rfl) (fun b=>([(0,dL d),(4,.ptr 0 0),(5,.gw [(.int .u8 83,.methodOf 175 "loop.example/headtrees/impl.putNext"),(.int .u8 76,.func 258),(.int .u8 82,.func 259),(.int .u8 68,.func 260)]),(6,.ab 1)],[some (.box [.ab 2,.win 3 b.1 b.2.1,dI b.2.2.1,dI b.2.2.2.1,dW b.2.2.2.2.1]),some (sU b.2.2.2.2.2.1),some (sI b.2.2.2.2.2.2.1),some (sI b.2.2.2.2.2.2.2)])) ?_ fun b=> .map (.ch ?_))) fun e=>(.ch ?_))))<;>first|(intro f;simp only[Hm,pS,Hn,ae];kernel_rfl)|kernel_rfl⟩
 |_,_=>aj
def aif:af Tryz.prog:=ak sq Tryz.func139 Tryz.call139 [aie,Az] false [] fun
 |[.agg [.aa (.list (.int .i64)) b,.aa (.list (.list (.int .i64))) d]],[]=>⟨ad.a (tb b) fun t=>(dS t,[]),by refine ao ?_ (.ch ?_)<;>first|(intro c;simp only[tb,ae];kernel_rfl)|kernel_rfl⟩
 |_,_=>aj
def Ks:af Tryz.prog:=ak sq Tryz.func263 Tryz.call263 [] false [] fun
 |[.agg [.aa (.int .i64) j,.aa (.int .i64) k,.aa (.int .i64) l,.aa (.int .i64) m,.aa (.int .i64) n,.aa (.int .i64) o,.aa (.int .i64) p,.aa (.int .i64) b,.aa (.int .i64) c,.aa (.int .i64) d,.aa (.int .i64) e,.aa (.int .i64) f,.aa (.int .i64) g,.aa (.int .i64) h]],[]=>⟨ad.a (Ho) fun t=>(.agg [dI b,dI c,dI d,dI e,dI f,dI g,dI h,dI b,dI c,dI d,dI e,dI f,dI g,dI h],[some (.box [dI b,dI c,dI d,dI e,dI f,dI g,dI h,dI b,dI c,dI d,dI e,dI f,dI g,dI h])]),by refine eu (fun t=> [(2,.ptr 0 0)]) ?_ (.ch ?_)<;>first|(intro i;simp only[Ho,ae];kernel_rfl)|kernel_rfl⟩
 |_,_=>aj
def Xs:af Tryz.prog:=ak sq Tryz.func290 Tryz.call290 [] false [] fun
 |[.agg [.aa (.int .i64) b,.aa (.int .i64) c,.aa (.int .i64) d,.aa (.int .i64) e,.aa (.int .i64) f,.aa (.int .i64) g,.aa (.int .i64) h,.aa (.int .i64) i,.aa (.int .i64) j,.aa (.int .i64) k,.aa (.int .i64) l,.aa (.int .i64) m,.aa (.int .i64) n,.aa (.int .i64) o],.aa (.int .i64) p,.aa (.int .i64) q],[]=>⟨ad.a (SN b c d e f g h i j k l m n o p q) fun t=>(dI t,[]),by refine ao ?_ (.group 1 (.seq (fun u=>([(1,dI p),(2,dI q),(3,.ptr 0 0),(7,dI 0)],[some (.box [dI b,dI c,dI d,dI e,dI f,dI g,dI h,dI i,dI j,dI k,dI l,dI m,dI n,dI o])])) (.ch ?_) fun u=>(.seq (fun s=>([(7,dI s)],[])) (.seq (fun v=>([(1,dI p),(3,.ptr 0 0),(7,dI 0),(9,dI q),(10,dI 0)],[some (.box [dI b,dI c,dI d,dI e,dI f,dI g,dI h,dI i,dI j,dI k,dI l,dI m,dI n,dI o])])) (.ch ?_) fun v=>(.block (fun _=>true) (fun _=>rfl) (.loop (fun _=>rfl) (fun r=>([(1,dI p),(3,.ptr 0 0),(7,dI r.1),(9,dI q),(10,dI r.2)],[some (.box [dI b,dI c,dI d,dI e,dI f,dI g,dI h,dI i,dI j,dI k,dI l,dI m,dI n,dI o])])) ?_ fun r=> .map (.ch ?_)))) fun s=>(.ch ?_))))<;>first|(intro w;simp only[SJ,SK,SL,SM,ae];kernel_rfl)|kernel_rfl⟩
 |_,_=>aj
def aig:af Tryz.prog:=ak sq Tryz.func264 Tryz.call264 [Xs] false [] fun
 |[.agg [.aa (.int .i64) b,.aa (.int .i64) c,.aa (.int .i64) d,.aa (.int .i64) e,.aa (.int .i64) f,.aa (.int .i64) g,.aa (.int .i64) h,.aa (.int .i64) i,.aa (.int .i64) j,.aa (.int .i64) k,.aa (.int .i64) l,.aa (.int .i64) m,.aa (.int .i64) n,.aa (.int .i64) o],.aa (.int .i64) p],[]=>⟨ad.a (Hp b c d e f g h i j k l m n o p) fun t=>(dI t,[]),by refine ao ?_ (.ch ?_)<;>first|(intro q;simp only[Hp,ae];kernel_rfl)|kernel_rfl⟩
 |_,_=>aj
def Kt:af Tryz.prog:=ak sq Tryz.func265 Tryz.call265 [] false [] fun
 |[.agg [.aa (.int .i64) b,.aa (.int .i64) c,.aa (.int .i64) d,.aa (.int .i64) e,.aa (.int .i64) f,.aa (.int .i64) g,.aa (.int .i64) h,.aa (.int .i64) i,.aa (.int .i64) j,.aa (.int .i64) k,.aa (.int .i64) l,.aa (.int .i64) m,.aa (.int .i64) n,.aa (.int .i64) o]],[]=>⟨ad.a (Hq) fun t=>(.agg [dI b,dI c,dI d,dI e,dI f,dI g,dI h,dI i,dI j,dI k,dI l,dI m,dI n,dI o],[some (.box [dI b,dI c,dI d,dI e,dI f,dI g,dI h,dI i,dI j,dI k,dI l,dI m,dI n,dI o])]),by refine eu (fun t=> [(2,.ptr 0 0)]) ?_ (.ch ?_)<;>first|(intro p;simp only[Hq,ae];kernel_rfl)|kernel_rfl⟩
 |_,_=>aj
def aih:af Tryz.prog:=ak sq Tryz.func217 Tryz.call217 [Ks,aig,Kt] false [] fun
 |[],[]=>⟨ad.a (SW) fun t=>(.agg [dI t.1,dI t.2.1,dI t.2.2.1,dI t.2.2.2.1,dI t.2.2.2.2.1,dI t.2.2.2.2.2.1,dI t.2.2.2.2.2.2.1,dI t.2.2.2.2.2.2.2.1,dI t.2.2.2.2.2.2.2.2.1,dI t.2.2.2.2.2.2.2.2.2.1,dI t.2.2.2.2.2.2.2.2.2.2.1,dI t.2.2.2.2.2.2.2.2.2.2.2.1,dI t.2.2.2.2.2.2.2.2.2.2.2.2.1,dI t.2.2.2.2.2.2.2.2.2.2.2.2.2],[some (.box [dI t.1,dI t.2.1,dI t.2.2.1,dI t.2.2.2.1,dI t.2.2.2.2.1,dI t.2.2.2.2.2.1,dI t.2.2.2.2.2.2.1,dI t.2.2.2.2.2.2.2.1,dI t.2.2.2.2.2.2.2.2.1,dI t.2.2.2.2.2.2.2.2.2.1,dI t.2.2.2.2.2.2.2.2.2.2.1,dI t.2.2.2.2.2.2.2.2.2.2.2.1,dI t.2.2.2.2.2.2.2.2.2.2.2.2.1,dI t.2.2.2.2.2.2.2.2.2.2.2.2.2])]),by refine eu (fun t=> [(0,.ptr 0 0)]) ?_ (.group 2 (.seq (fun c=>([(0,.ptr 0 0),(1,.ptr 1 0)],[some (.box [dI 0,dI 0,dI 0,dI 0,dI 0,dI 0,dI 0,dI 0,dI 0,dI 0,dI 0,dI 0,dI 0,dI 0]),some (.box [dI 0,dI 0,dI 0,dI 0,dI 0,dI 0,dI 0,dI c.1,dI c.2.1,dI c.2.2.1,dI c.2.2.2.1,dI c.2.2.2.2.1,dI c.2.2.2.2.2.1,dI c.2.2.2.2.2.2])])) (.ch ?_) fun c=>(.seq (fun d=>([(0,.ptr 0 0),(1,.ptr 1 0)],[some (.box [dI 0,dI 0,dI 0,dI 0,dI 0,dI 0,dI 0,dI 0,dI 0,dI 0,dI 0,dI 0,dI 0,dI 0]),some (.box [dI d.1,dI d.2.1,dI d.2.2.1,dI d.2.2.2.1,dI d.2.2.2.2.1,dI d.2.2.2.2.2.1,dI d.2.2.2.2.2.2.1,dI d.2.2.2.2.2.2.2.1,dI d.2.2.2.2.2.2.2.2.1,dI d.2.2.2.2.2.2.2.2.2.1,dI d.2.2.2.2.2.2.2.2.2.2.1,dI d.2.2.2.2.2.2.2.2.2.2.2.1,dI d.2.2.2.2.2.2.2.2.2.2.2.2.1,dI d.2.2.2.2.2.2.2.2.2.2.2.2.2])])) (.seq (fun e=>([(0,.ptr 0 0),(1,.ptr 1 0),(2,dI 1)],[some (.box [dI 0,dI 0,dI 0,dI 0,dI 0,dI 0,dI 0,dI 0,dI 0,dI 0,dI 0,dI 0,dI 0,dI 0]),some (.box [dI 0,dI 0,dI 0,dI 0,dI 0,dI 0,dI 0,dI c.1,dI c.2.1,dI c.2.2.1,dI c.2.2.2.1,dI c.2.2.2.2.1,dI c.2.2.2.2.2.1,dI c.2.2.2.2.2.2])])) (.ch ?_) fun e=>(.block (fun _=>true) (fun _=>rfl) (.loop (fun _=>rfl) (fun b=>([(0,.ptr 0 0),(1,.ptr 1 0),(2,dI b.1)],[some (.box [dI 0,dI 0,dI 0,dI 0,dI 0,dI 0,dI 0,dI 0,dI 0,dI 0,dI 0,dI 0,dI 0,dI 0]),some (.box [dI b.2.1,dI b.2.2.1,dI b.2.2.2.1,dI b.2.2.2.2.1,dI b.2.2.2.2.2.1,dI b.2.2.2.2.2.2.1,dI b.2.2.2.2.2.2.2.1,dI b.2.2.2.2.2.2.2.2.1,dI b.2.2.2.2.2.2.2.2.2.1,dI b.2.2.2.2.2.2.2.2.2.2.1,dI b.2.2.2.2.2.2.2.2.2.2.2.1,dI b.2.2.2.2.2.2.2.2.2.2.2.2.1,dI b.2.2.2.2.2.2.2.2.2.2.2.2.2.1,dI b.2.2.2.2.2.2.2.2.2.2.2.2.2.2])])) ?_ fun b=> .map (.ch ?_)))) fun d=>(.ch ?_))))<;>first|(intro f;simp only[SR,SS,SU,SV,ae];kernel_rfl)|kernel_rfl⟩
 |_,_=>aj
def AA:af Tryz.prog:=ak sq Tryz.func267 Tryz.call267 [Xs] false [(1,.d [8] [0,1,2,3,4,5,6,7,9,10,11,12,13,14,15,16,18,19,8,17,20,21])] fun
 |[.agg [.aa (.int .i64) b,.aa (.int .i64) c,.aa (.int .i64) e,.aa (.int .i64) f,.aa (.int .i64) g,.aa (.int .i64) h,.aa (.int .i64) i,.aa (.int .i64) j,.aa (.int .i64) k,.aa (.int .i64) l,.aa (.int .i64) m,.aa (.int .i64) n,.aa (.int .i64) o,.aa (.int .i64) p],.agg [.aa (.int .i64) q,.aa (.int .i64) r],.agg [.aa (.int .i64) s,.aa (.int .i64) u]],[]=>⟨ad.a (Hr b c e f g h i j k l m n o p q r s u) fun t=>(dI t,[]),by refine ao ?_ (.ch ?_)<;>first|(intro v;simp only[Hr,ae];kernel_rfl)|kernel_rfl⟩
 |_,_=>aj
noncomputable def Xt:bf:=fK [(1,.d [7,10] [0,1,2,3,4,5,6,8,9,7,10,11,12]),(2,.d [3,4] []),(3,.d [3,4] [])] Tryz.f218
noncomputable def Xu:bf:=fK [(1,.d [6,9] [0,1,2,3,4,5,7,8,6,9,10,11]),(2,.d [4] []),(3,.d [5] [])] Tryz.f266
def jB (n:Nat):be:=fun avs a=>
 match avs,a with
 |[.agg [.aa (.int .i64) b,.aa (.int .i64) c,.aa (.int .i64) d,.aa (.int .i64) e,.aa (.int .i64) f,.aa (.int .i64) g,.aa (.int .i64) h,.aa (.int .i64) i,.aa (.int .i64) j,.aa (.int .i64) k,.aa (.int .i64) l,.aa (.int .i64) m,.aa (.int .i64) o,.aa (.int .i64) p],.aa (.list (.int .i64)) q,.aa (.int .i64) r],[]=>⟨_,pT n b c d e f g h i j k l m o p q r,fun t=>(.agg [dI t.1,dI t.2],[some (.box [dI t.1,dI t.2])]),[],none⟩
 |_,_=>ad.no
def iG (n:Nat):be:=fun avs a=>
 match avs,a with
 |[.agg [.aa (.int .i64) b,.aa (.int .i64) c,.aa (.int .i64) d,.aa (.int .i64) e,.aa (.int .i64) f,.aa (.int .i64) g,.aa (.int .i64) h,.aa (.int .i64) i,.aa (.int .i64) j,.aa (.int .i64) k,.aa (.int .i64) l,.aa (.int .i64) m,.aa (.int .i64) o,.aa (.int .i64) p],.aa (.list (.int .i64)) q,.aa (.list (.int .i64)) r],[]=>⟨_,pU n b c d e f g h i j k l m o p q r,fun t=>(.agg [dI t.1,dI t.2],[some (.box [dI t.1,dI t.2])]),[],none⟩
 |_,_=>ad.no
noncomputable def Xv (n:Nat):Ctx:=⟨bs cw,cF [(238,(af.F Au)),(158,(af.F kI)),(266,iG n),(263,(af.F Ks)),(267,(af.F AA))],fO,0,false,[]⟩
noncomputable def Xw (n:Nat):Ctx:=⟨bs cw,cF [(218,jB n),(266,iG n),(265,(af.F Kt)),(267,(af.F AA))],fO,0,false,[]⟩
theorem aii (n:Nat) (a:Int) (b:Int) (c:Int) (d:Int) (e:Int) (f:Int) (g:Int) (i:Int) (j:Int) (k:Int) (l:Int) (m:Int) (o:Int) (p:Int) (q:List Int) (s:Int) {r:AV} {u:Heap} (h:(ad.mk _ (pT (n+1) a b c d e f g i j k l m o p q s) (fun t=>(.agg [dI t.1,dI t.2],[some (.box [dI t.1,dI t.2])])) [] none).run=some (r,u)):bK (Xv n) LL (bY Tryz.f218) Xt ⟨bU 39 0 [(0,.agg [dI a,dI b,dI c,dI d,dI e,dI f,dI g,dI i,dI j,dI k,dI l,dI m,dI o,dI p]),(1,dL q),(2,dI s)],[]⟩ (dh (bs cw) Tryz.f218.results.toList r u):=
 gf (Lk.go (N:=39) (n:=Hs (pT n) (pU n) a b c d e f g i j k l m o p q s) (fin:=(fun t=>(ret,⟨bU 39 0 [(6,.ptr 0 0)],[some (.box [dI t.1,dI t.2])]⟩))) (.ch fun v=>by simp only[Hs,ae];kernel_rfl) (by kernel_rfl)) (by kernel_rfl) (fun t=>es (by kernel_rfl)) h
theorem aij (n:Nat) (a:Int) (b:Int) (c:Int) (d:Int) (e:Int) (f:Int) (g:Int) (i:Int) (j:Int) (k:Int) (l:Int) (m:Int) (o:Int) (p:Int) (q:List Int) (s:List Int) {r:AV} {u:Heap} (h:(ad.mk _ (pU (n+1) a b c d e f g i j k l m o p q s) (fun t=>(.agg [dI t.1,dI t.2],[some (.box [dI t.1,dI t.2])])) [] none).run=some (r,u)):bK (Xw n) LL (bY Tryz.f266) Xu ⟨bU 35 0 [(0,.agg [dI a,dI b,dI c,dI d,dI e,dI f,dI g,dI i,dI j,dI k,dI l,dI m,dI o,dI p]),(1,dL q),(2,dL s)],[]⟩ (dh (bs cw) Tryz.f266.results.toList r u):=
 gf (Lk.go (N:=35) (n:=Ht (pT n) (pU n) a b c d e f g i j k l m o p q s) (fin:=(fun t=>(ret,⟨bU 35 0 [(6,.ptr 0 0)],[some (.box [dI t.1,dI t.2])]⟩))) (.ch fun v=>by simp only[Ht,ae];kernel_rfl) (by kernel_rfl)) (by kernel_rfl) (fun t=>es (by kernel_rfl)) h
theorem aik (n:Nat) (e:Sound Tryz.prog 218 (jB n)) (a:Sound Tryz.prog 266 (iG n)):Sound Tryz.prog 218 (jB (n+1)):=by
 refine gg (C:=Xv n) (c:=bY Tryz.f218) (ge gi (aY (af.s Au) (aY (af.s kI) (aY a (aY (af.s Ks) (aY (af.s AA) cQ))))) (aY Tryz.call238 (aY Tryz.call158 (aY Tryz.call266 (aY Tryz.call263 (aY Tryz.call267 cQ))))) (by kernel_rfl)) Tryz.func218 (by kernel_rfl) LL Xt ?_
 intro avs b r d h
 unfold jB at h
 split at h
 ·refine bK.cast ?_ ?_ ?_ (aii n _ _ _ _ _ _ _ _ _ _ _ _ _ _ _ _ h)<;>kernel_rfl
 ·simp[ad.no,ad.run] at h
theorem ail:Sound Tryz.prog 218 (jB 0):=by
 intro avs a r b h
 unfold jB at h
 split at h
 ·simp[pT,lV,ad.run] at h
 ·simp[ad.no,ad.run] at h
theorem aim (n:Nat) (a:Sound Tryz.prog 218 (jB n)) (b:Sound Tryz.prog 266 (iG n)):Sound Tryz.prog 266 (iG (n+1)):=by
 refine gg (C:=Xw n) (c:=bY Tryz.f266) (ge gi (aY a (aY b (aY (af.s Kt) (aY (af.s AA) cQ)))) (aY Tryz.call218 (aY Tryz.call266 (aY Tryz.call265 (aY Tryz.call267 cQ)))) (by kernel_rfl)) Tryz.func266 (by kernel_rfl) LL Xu ?_
 intro avs d r e h
 unfold iG at h
 split at h
 ·refine bK.cast ?_ ?_ ?_ (aij n _ _ _ _ _ _ _ _ _ _ _ _ _ _ _ _ h)<;>kernel_rfl
 ·simp[ad.no,ad.run] at h
theorem ain:Sound Tryz.prog 266 (iG 0):=by
 intro avs a r b h
 unfold iG at h
 split at h
 ·simp[pU,lV,ad.run] at h
 ·simp[ad.no,ad.run] at h
theorem Ku: ∀n,Sound Tryz.prog 218 (jB n)/\Sound Tryz.prog 266 (iG n)
 |0=>⟨ail,ain⟩
 |n+1=>by
  obtain⟨a,b⟩:=Ku n
  exact⟨aik n a b,aim n a b⟩
def AB:be:=fun avs a=>
 match avs,a with
 |[.agg [.aa (.int .i64) b,.aa (.int .i64) c,.aa (.int .i64) d,.aa (.int .i64) e,.aa (.int .i64) f,.aa (.int .i64) g,.aa (.int .i64) h,.aa (.int .i64) i,.aa (.int .i64) j,.aa (.int .i64) k,.aa (.int .i64) l,.aa (.int .i64) m,.aa (.int .i64) n,.aa (.int .i64) o],.aa (.list (.int .i64)) p,.aa (.int .i64) q],[]=>⟨_,yF b c d e f g h i j k l m n o p q,fun t=>(.agg [dI t.1,dI t.2],[some (.box [dI t.1,dI t.2])]),[],none⟩
 |_,_=>ad.no
theorem aio:Sound Tryz.prog 218 AB:=by
 have e:AB=jB RR:=by
  funext avs H
  unfold AB jB
  split<;>first|rfl|(simp only[yF])
 rw[e]
 exact(Ku RR).1
def Kv:be:=fun avs a=>
 match avs,a with
 |[.agg [.aa (.int .i64) b,.aa (.int .i64) c,.aa (.int .i64) d,.aa (.int .i64) e,.aa (.int .i64) f,.aa (.int .i64) g,.aa (.int .i64) h,.aa (.int .i64) i,.aa (.int .i64) j,.aa (.int .i64) k,.aa (.int .i64) l,.aa (.int .i64) m,.aa (.int .i64) n,.aa (.int .i64) o],.aa (.list (.int .i64)) p,.aa (.list (.int .i64)) q],[]=>⟨_,SZ b c d e f g h i j k l m n o p q,fun t=>(.agg [dI t.1,dI t.2],[some (.box [dI t.1,dI t.2])]),[],none⟩
 |_,_=>ad.no
theorem apy:Sound Tryz.prog 266 Kv:=by
 have e:Kv=iG RR:=by
  funext avs H
  unfold Kv iG
  split<;>first|rfl|(simp only[SZ])
 rw[e]
 exact(Ku RR).2
def aip:af Tryz.prog:=ak sq Tryz.func181 Tryz.call181 [Ay,aih,At,⟨218,AB,aio,Tryz.call218⟩] false [] fun
 |[.aa (.list (.int .i64)) b],[]=>⟨ad.a (yG b) fun t=>(dI t,[]),by refine ao ?_ (.ch ?_)<;>first|(intro c;simp only[yG,ae];kernel_rfl)|kernel_rfl⟩
 |_,_=>aj
def aiq:af Tryz.prog:=ak sq Tryz.func140 Tryz.call140 [aip,Az,⟨125,hQ,iF,Tryz.call125⟩] false [] fun
 |[.agg [.aa (.list (.int .i64)) b,.aa (.list (.list (.int .i64))) d]],[]=>⟨ad.a (tc b) fun t=>(dS t,[]),by refine ao ?_ (.ch ?_)<;>first|(intro c;simp only[tc,ae];kernel_rfl)|kernel_rfl⟩
 |_,_=>aj
def air:af Tryz.prog:=ak sq Tryz.func182 Tryz.call182 [] false [] fun
 |[.aa .str b,.aa .str c],[]=>⟨ad.a (td b c) fun t=>(dB t,[]),by refine ao ?_ (.ch ?_)<;>first|(intro d;simp only[td,ae];kernel_rfl)|kernel_rfl⟩
 |_,_=>aj
def ais:af Tryz.prog:=ak sq Tryz.func141 Tryz.call141 [air] false [] fun
 |[.aa .str b,.aa .str c],[]=>⟨ad.a (te b c) fun t=>(.aW [dS t.1,dB t.2],[]),by refine ao ?_ (.ch ?_)<;>first|(intro d;simp only[te,ae];kernel_rfl)|kernel_rfl⟩
 |_,_=>aj
def ait:af Tryz.prog:=ak sq Tryz.func89 Tryz.call89 [ais] false [] fun
 |[.aa .str b,.aa .str c],[]=>⟨ad.a (tf b c) fun t=>(.aW [dS t.1,dB t.2],[]),by refine ao ?_ (.ch ?_)<;>first|(intro d;simp only[tf,ae];kernel_rfl)|kernel_rfl⟩
 |_,_=>aj
def Xx:af Tryz.prog:=ak sq Tryz.func184 Tryz.call184 [gj] false [] fun
 |[.aa (.list (.int .i64)) b,.aa (.int .i64) c],[]=>⟨ad.a (yJ b c) fun t=>(dB t,[]),by refine ao ?_ (.ch ?_)<;>first|(intro d;simp only[yJ,ae];kernel_rfl)|kernel_rfl⟩
 |_,_=>aj
def aiu:af Tryz.prog:=ak sq Tryz.func144 Tryz.call144 [Xx,t6,kI] false [] fun
 |[.aa (.list (.int .i64)) b,.aa (.int .i64) c],[]=>⟨ad.a (th b c) fun t=>(.ab 0,[some (sI t)]),by refine ao ?_ (.ch ?_)<;>first|(intro d;simp only[th,ae];kernel_rfl)|kernel_rfl⟩
 |_,_=>aj
def aiv:af Tryz.prog:=ak sq Tryz.func90 Tryz.call90 [⟨85,Kj,WX,Tryz.call85⟩,⟨125,hQ,iF,Tryz.call125⟩,aiu,As,Az] false [] fun
 |[.agg [.aa (.list (.int .i64)) b,.aa (.list (.list (.int .i64))) e],.aa .str c],[]=>⟨ad.a (tj b c) fun t=>(dS t,[]),by refine ao ?_ (.ch ?_)<;>first|(intro d;simp only[tj,ae];kernel_rfl)|kernel_rfl⟩
 |_,_=>aj
def aiw:af Tryz.prog:=ak sq Tryz.func35 Tryz.call35 [⟨88,W1,agM,Tryz.call88⟩,agQ,agS,ag5,ag6,ahb,ahj,ahs,ahv,ahE,ahI,ahK,ahT,ah2,aif,aiq,ait,aiv] false [] fun
 |[.agg [.aa (.list (.int .i64)) b,.aa (.list (.list (.int .i64))) c],.aa .str d],[]=>⟨ad.a (tk b c d) fun t=>(dS t,[]),by refine ao ?_ (.ch ?_)<;>first|(intro e;simp only[tk,ae];kernel_rfl)|kernel_rfl⟩
 |_,_=>aj
def aix:af Tryz.prog:=ak sq Tryz.func92 Tryz.call92 [Ar] true [(1,.d [9] [])] fun
 |[.agg [.aa (.list (.int .i64)) b,.aa (.list (.list (.int .i64))) c]],[]=>⟨ad.a (tl b c) fun t=>(.aW [.agg [.ab 1,.ab 2],dB t.1],[some (.box [.ab 1,.ab 2]),some (sI t.2.1),some (.nest (.int .i64) t.2.2 0 [])]),by refine eu (fun t=> [(2,.ptr 0 0),(3,dB t.1)]) ?_ (.ch ?_)<;>first|(intro e;simp only[tl,ae];kernel_rfl)|kernel_rfl⟩
 |_,_=>aj
def aiy:af Tryz.prog:=ak sq Tryz.func223 Tryz.call223 [] false [] fun
 |[.aa (.int .i64) b],[]=>⟨ad.a (yP b) fun t=>(.ab 0,[some (sI t)]),by refine ao ?_ (.group 1 (.seq (fun d=>([(0,dI b),(3,.ab 0)],[some (sI d)])) (.ch ?_) fun d=>(.seq (fun f=>([(3,.ab 0)],[some (sI f)])) (.seq (fun e=>([(0,dI b),(3,.ab 0),(8,dI e),(9,dI 0)],[some (sI d)])) (.ch ?_) fun e=>(.block (fun _=>true) (fun _=>rfl) (.loop (fun _=>rfl) (fun c=>([(0,dI b),(3,.ab 0),(8,dI e),(9,dI c.1)],[some (sI c.2)])) ?_ fun c=> .map (.ch ?_)))) fun f=>(.ch ?_))))<;>first|(intro g;simp only[Hw,Hy,tm,Hz,ae];kernel_rfl)|kernel_rfl⟩
 |_,_=>aj
def aiz:af Tryz.prog:=ak sq Tryz.func270 Tryz.call270 [] false [] fun
 |[.aa (.list (.int .i64)) b],[]=>⟨ad.a (HD b) fun t=>(.ab 0,[some (sI t)]),by refine ao ?_ (.group 1 (.seq (fun d=>([(0,dL b),(3,.ab 0)],[some (sI d)])) (.ch ?_) fun d=>(.seq (fun f=>([(3,.ab 0)],[some (sI f)])) (.seq (fun e=>([(3,.ab 0),(10,dL b),(11,dI e),(12,dI 0)],[some (sI d)])) (.ch ?_) fun e=>(.block (fun _=>true) (fun _=>rfl) (.loop (fun _=>rfl) (fun c=>([(3,.ab 0),(10,dL b),(11,dI e),(12,dI c.1)],[some (sI c.2)])) ?_ fun c=> .map (.ch ?_)))) fun f=>(.ch ?_))))<;>first|(intro g;simp only[HA,HB,tn,HC,ae];kernel_rfl)|kernel_rfl⟩
 |_,_=>aj
def aiA:af Tryz.prog:=ak sq Tryz.func272 Tryz.call272 [] false [] fun
 |[.aa (.int .i64) c,.ptr 0 0],[some (.box [.ab 1]),some (.seq (.int .i64) b)]=>⟨ad.a (yR c b) fun t=>(dI t,[some (.box [.ab 1]),some (sI b)]),by refine ao ?_ (.ch ?_)<;>first|(intro d;simp only[yR,ae];kernel_rfl)|kernel_rfl⟩
 |_,_=>aj
def aiB:af Tryz.prog:=ak sq Tryz.func271 Tryz.call271 [aiA] false [] fun
 |[.aa (.list (.int .i64)) c,.aa (.list (.int .i64)) d,.fn 272 [] [.ptr 0 0]],[some (.box [.ab 1]),some (.seq (.int .i64) b)]=>⟨ad.a (HJ c d b) fun t=>(.ab 2,[some (.box [.ab 1]),some (sI b),some (sI t)]),by refine ao ?_ (.group 1 (.seq (fun f=>([(0,dL c),(1,dL d),(2,.fn 272 [] [.ptr 0 0]),(7,.ab 2)],[some (.box [.ab 1]),some (sI b),some (sI f)])) (.ch ?_) fun f=>(.seq (fun h=>([(7,.ab 2)],[some (.box [.ab 1]),some (sI b),some (sI h)])) (.seq (fun g=>([(0,dL c),(2,.fn 272 [] [.ptr 0 0]),(7,.ab 2),(13,dL d),(14,dI g),(15,dI 0)],[some (.box [.ab 1]),some (sI b),some (sI f)])) (.ch ?_) fun g=>(.block (fun _=>true) (fun _=>rfl) (.loop (fun _=>rfl) (fun e=>([(0,dL c),(2,.fn 272 [] [.ptr 0 0]),(7,.ab 2),(13,dL d),(14,dI g),(15,dI e.1)],[some (.box [.ab 1]),some (sI b),some (sI e.2)])) ?_ fun e=> .map (.ch ?_)))) fun h=>(.ch ?_))))<;>first|(intro i;simp only[HG,HH,yS,HI,ae];kernel_rfl)|kernel_rfl⟩
 |_,_=>aj
def Xy:af Tryz.prog:=ak sq Tryz.func222 Tryz.call222 [gj,Xd,aiz,aiB] false [] fun
 |[.aa (.list (.int .i64)) b,.aa (.list (.int .i64)) c],[]=>⟨ad.a (yT b c) fun t=>(.aW [.ab 0,dB t.1],[some (sI t.2)]),by refine ao ?_ (.ch ?_)<;>first|(intro d;simp only[yT,ae];kernel_rfl)|kernel_rfl⟩
 |_,_=>aj
def aiC:af Tryz.prog:=ak sq Tryz.func185 Tryz.call185 [gj,aiy,Xy] false [] fun
 |[.aa (.list (.int .i64)) b],[]=>⟨ad.a (to b) fun t=>(.ab 0,[some (sI t)]),by refine ao ?_ (.ch ?_)<;>first|(intro c;simp only[to,ae];kernel_rfl)|kernel_rfl⟩
 |_,_=>aj
def aiD:af Tryz.prog:=ak sq Tryz.func186 Tryz.call186 [Ko,Xy] false [] fun
 |[.aa (.list (.int .i64)) b],[]=>⟨ad.a (tp b) fun t=>(.ab 0,[some (sI t)]),by refine ao ?_ (.ch ?_)<;>first|(intro c;simp only[tp,ae];kernel_rfl)|kernel_rfl⟩
 |_,_=>aj
def aiE:af Tryz.prog:=ak sq Tryz.func145 Tryz.call145 [Xx,⟨87,Kk,W0,Tryz.call87⟩,aiC,aiD] false [(13,.d [1,4] [0,2,3,4,1,5,6])] fun
 |[.aa (.list (.int .i64)) b,.agg [.aa (.int .i64) c,.aa (.int .i64) e,.aa (.int .i64) f]],[]=>⟨ad.a (tq b c e f) fun t=>(.ab 0,[some (sI t)]),by refine ao ?_ (.ch ?_)<;>first|(intro g;simp only[tq,ae];kernel_rfl)|kernel_rfl⟩
 |_,_=>aj
def aiF:af Tryz.prog:=ak sq Tryz.func146 Tryz.call146 [] false [] fun
 |[.aa (.list (.int .i64)) b,.aa (.list (.int .i64)) c],[]=>⟨ad.a (yY b c) fun t=>(dB t,[]),by refine ao ?_ (.group 1 (.aN (fun _=>rfl) (fun f=>([(0,dL b),(1,dL c)],[])) (.ch ?_) fun f=>(.aN (fun _=>rfl) (fun g=>([],[])) (.seq (fun d=>([(0,dL b),(1,dL c),(12,dI d),(13,dI 0)],[])) (.ch ?_) fun d=>(.block (Sum.elim (fun _=>false) (fun _=>true)) (bm (fun _=>rfl) (fun _=>rfl)) (.loop (bm (fun _=>rfl) (fun _=>rfl)) (fun e=>([(0,dL b),(1,dL c),(12,dI d),(13,dI e)],[])) ?_ fun e=> .map (.ch ?_)))) fun g=>(.ch ?_))))<;>first|(intro h;simp only[HK,HL,pV,Th,ae];kernel_rfl)|kernel_rfl⟩
 |_,_=>aj
def aiG:Go.Shelf.Ren:=⟨fun|41=>147|n=>n,fun|4=>4|22=>24|23=>23|n=>n,fun n=>n⟩
theorem aiH:SlLaysE0.n41 Tryz.prog aiG:={
 mixed:=by kernel_rfl
 f41:=⟨Tryz.f147.name,by kernel_rfl,Tryz.func147.trans (aR some (by kernel_rfl))⟩
 t4:=Tryz.underlying4
 a4:=Tryz.isAgg4
 z4:=Tryz.sizeOf4
 v4:=Tryz.zeroValue4
 t22:=Tryz.underlying24
 a22:=Tryz.isAgg24
 z22:=Tryz.sizeOf24
 v22:=Tryz.zeroValue24}
def Xz:be:=wu
theorem aiI:Sound Tryz.prog 147 Xz:=Oq aiH (NY (Tryz.prog.info? 23)) (.slice none 0 0) 24 (by kernel_rfl) (by kernel_rfl) (by kernel_rfl) (by kernel_rfl) (by kernel_rfl) (by decide) Tryz.sizeOf23
def aiJ:af Tryz.prog:=ak sq Tryz.func93 Tryz.call93 [aiE,gj,Ar,aiF,⟨147,Xz,aiI,Tryz.call147⟩] true [(2,.d [2,5] [0,1,3,4,5,2,6,7])] fun
 |[.agg [.aa (.list (.int .i64)) b,.aa (.list (.list (.int .i64))) c],.agg [.aa (.int .i64) e,.aa (.int .i64) f,.aa (.int .i64) g]],[]=>⟨ad.a (tr b c e f g) fun t=>(.aW [.agg [.ab 1,.ab 2],dB t.1],[some (.box [.ab 1,.ab 2]),some (sI t.2.1),some (.nest (.int .i64) t.2.2 0 [])]),by refine eu (fun t=> [(4,.ptr 0 0),(5,dB t.1)]) ?_ (.ch ?_)<;>first|(intro h;simp only[tr,ae];kernel_rfl)|kernel_rfl⟩
 |_,_=>aj
def aiK:af Tryz.prog:=ak sq Tryz.func36 Tryz.call36 [Ki,WZ,Ar,aix,aiJ] true [(11,.t [⟨0,4,false,some 0,some ((.int .i64))⟩,⟨0,4,true,some 1,some ((.int .i64))⟩])] fun
 |[.agg [.aa (.list (.int .i64)) b,.aa (.list (.list (.int .i64))) c],.agg [.aa (.int .i64) d,.aa (.int .i64) e,.aa (.int .i64) f]],[]=>⟨ad.a (ts b c d e f) fun t=>(.aW [.agg [.ab 1,.ab 2],dB t.1],[some (.box [.ab 1,.ab 2]),some (sI t.2.1),some (.nest (.int .i64) t.2.2 0 [])]),by refine eu (fun t=> [(4,.ptr 0 0),(5,dB t.1)]) ?_ (.ch ?_)<;>first|(intro g;simp only[ts,ae];kernel_rfl)|kernel_rfl⟩
 |_,_=>aj
def aiL:af Tryz.prog:=ak sq Tryz.func8 Tryz.call8 [Ki,agJ,Ar,aiw,aiK] true [(9,.d [4,7] [0,1,2,3,5,6,4,7,8,9]),(13,.t [⟨0,4,false,some 0,some ((.int .i64))⟩,⟨0,4,true,some 1,some ((.int .i64))⟩])] fun
 |[.agg [.aa (.list (.int .i64)) b,.aa (.list (.list (.int .i64))) c],.aa .str e],[]=>⟨ad.a (tt b c e) fun t=>(.aW [.agg [.ab 1,.ab 2],dS t.1],[some (.box [.ab 1,.ab 2]),some (sI t.2.1),some (.nest (.int .i64) t.2.2 0 [])]),by refine eu (fun t=> [(4,.ptr 0 0),(5,dS t.1)]) ?_ (.ch ?_)<;>first|(intro f;simp only[tt,ae];kernel_rfl)|kernel_rfl⟩
 |_,_=>aj
def XA:af Tryz.prog:=ak sq Tryz.func57 Tryz.call57 [] false [] fun
 |[.aa .str b,.aa (.int .u8) d],[]=>⟨ad.a (y2 b d) fun t=>(.ab 0,[some (.seq .str t)]),by refine ao ?_ (.group 2 (.seq (fun f=>([(0,dS b),(1,dU d),(5,.ab 0),(6,dI 0)],[some (.seq .str ([]:List ByteArray))])) (.ch ?_) fun f=>(.seq (fun e=>([(0,dS b),(5,.ab 0),(6,dI e.1)],[some (.seq .str e.2)])) (.seq (fun g=>([(0,dS b),(1,dU d),(5,.ab 0),(6,dI 0),(7,dI 0)],[some (.seq .str ([]:List ByteArray))])) (.ch ?_) fun g=>(.block (fun _=>true) (fun _=>rfl) (.loop (fun _=>rfl) (fun c=>([(0,dS b),(1,dU d),(5,.ab 0),(6,dI c.1),(7,dI c.2.1)],[some (.seq .str c.2.2)])) ?_ fun c=> .map (.ch ?_)))) fun e=>(.ch ?_))))<;>first|(intro h;simp only[HN,HO,pW,HP,ae];kernel_rfl)|kernel_rfl⟩
 |_,_=>aj
def XB:af Tryz.prog:=ak sq Tryz.func58 Tryz.call58 [mc] false [] fun
 |[.aa .str b],[]=>⟨ad.a (pX b) fun t=>(dI t,[]),by refine ao ?_ (.group 2 (.aN (fun _=>rfl) (fun e=>([(0,dS b),(3,dI 0)],[])) (.ch ?_) fun e=>(.aN (fun _=>rfl) (fun d=>([(3,dI d)],[])) (.seq (fun f=>([(0,dS b),(3,dI 0),(4,dI 0)],[])) (.ch ?_) fun f=>(.block (Sum.elim (fun _=>false) (fun _=>true)) (bm (fun _=>rfl) (fun _=>rfl)) (.loop (bm (fun _=>rfl) (fun _=>rfl)) (fun c=>([(0,dS b),(3,dI c.1),(4,dI c.2)],[])) ?_ fun c=> .map (.ch ?_)))) fun d=>(.ch ?_))))<;>first|(intro g;simp only[y3,y4,nG,y5,ae];kernel_rfl)|kernel_rfl⟩
 |_,_=>aj
def aiM:af Tryz.prog:=ak sq Tryz.func38 Tryz.call38 [XA,XB,WT] false [(15,.d [4,8] [0,1,2,3,5,6,7,4,8,9,10,11,12])] fun
 |[.aa .str b],[]=>⟨ad.a (y7 b) fun t=>(.aW [.agg [dI t.2.1,dI t.2.2.1,dI t.2.2.2],dB t.1],[some (.box [dI t.2.1,dI t.2.2.1,dI t.2.2.2])]),by refine eu (fun t=> [(2,.ptr 0 0),(3,dB t.1)]) ?_ (.group 2 (.seq (fun c=>([(0,dS b),(2,.ptr 0 0),(4,.ab 1),(5,.ab 2)],[some (.box [dI 0,dI 0,dI 0]),some (.seq .str c.1),some (.seq (.pair (.int .i64) (.pair (.int .i64) (.pair (.int .i64) .unit))) c.2)])) (.ch ?_) fun c=>(.seq (fun g=>([(0,dS b),(2,.ptr 0 0),(4,.ab 1),(5,.ab 2)],[some (.box [dI 0,dI 0,dI 0]),some (.seq .str c.1),some (.seq (.pair (.int .i64) (.pair (.int .i64) (.pair (.int .i64) .unit))) g)])) (.seq (fun h=>([(0,dS b),(2,.ptr 0 0),(4,.ab 1),(5,.ab 2),(16,dB h)],[some (.box [dI 0,dI 0,dI 0]),some (.seq .str c.1),some (.seq (.pair (.int .i64) (.pair (.int .i64) (.pair (.int .i64) .unit))) c.2)])) (.ch ?_) fun h=>(.cond ?_ (.map (.ch ?_)) (.map (.ch ?_)))) fun g=>(.seq (fun e=>([(0,dS b),(2,.ptr 0 0),(5,.ab 1)],[some (.box [dI 0,dI 0,dI 0]),some (.seq (.pair (.int .i64) (.pair (.int .i64) (.pair (.int .i64) .unit))) e)])) (.ch ?_) fun e=>(.aN (fun _=>rfl) (fun i=>([(2,.ptr 0 0)],[some (.box [dI 0,dI 0,dI 0])])) (.seq (fun j=>([(0,dS b),(2,.ptr 0 0),(5,.ab 1),(6,dI 0)],[some (.box [dI 0,dI 0,dI 0]),some (.seq (.pair (.int .i64) (.pair (.int .i64) (.pair (.int .i64) .unit))) e)])) (.ch ?_) fun j=>(.block (Sum.elim (fun _=>false) (fun _=>true)) (bm (fun _=>rfl) (fun _=>rfl)) (.loop (bm (fun _=>rfl) (fun _=>rfl)) (fun f=>([(0,dS b),(2,.ptr 0 0),(5,.ab 1),(6,dI f)],[some (.box [dI 0,dI 0,dI 0]),some (.seq (.pair (.int .i64) (.pair (.int .i64) (.pair (.int .i64) .unit))) e)])) ?_ fun f=> .map (.ch ?_)))) fun i=>(.ch ?_))))))<;>first|(intro k;simp only[HT,HU,HV,HW,y6,HX,tw,HY,ae];kernel_rfl)|kernel_rfl⟩
 |_,_=>aj
def aiN:af Tryz.prog:=ak sq Tryz.func40 Tryz.call40 [⟨43,nJ,Aq,Tryz.call43⟩] false [] fun
 |[.aa (.list (.int .i64)) b],[]=>⟨ad.a (y9 b) fun t=>(dS t,[]),by refine ao ?_ (.group 1 (.seq (fun e=>([(0,dL b),(3,dS empty)],[])) (.ch ?_) fun e=>(.seq (fun d=>([(0,dL b),(3,dS d)],[])) (.seq (fun f=>([(0,dL b),(3,dS empty),(4,dI 0)],[])) (.ch ?_) fun f=>(.block (fun _=>true) (fun _=>rfl) (.loop (fun _=>rfl) (fun c=>([(0,dL b),(3,dS c.1),(4,dI c.2)],[])) ?_ fun c=> .map (.ch ?_)))) fun d=>(.ch ?_))))<;>first|(intro g;simp only[H1,H2,tx,H3,ae];kernel_rfl)|kernel_rfl⟩
 |_,_=>aj
def aiO:af Tryz.prog:=ak sq Tryz.func41 Tryz.call41 [ev] false [] fun
 |[.aa (.list (.int .i64)) c],[]=>⟨ad.a (Ic c) fun t=>(.ab 0,[some (sI t)]),by refine ao ?_ (.group 1 (.seq (fun i=>([(0,dL c),(3,.ab 0)],[some (sI ([]:List Int))])) (.ch ?_) fun i=>(.seq (fun e=>([(3,.ab 0)],[some (sI e)])) (.seq (fun j=>([(0,dL c),(3,.ab 0),(4,dI 0)],[some (sI ([]:List Int))])) (.ch ?_) fun j=>(.block (fun _=>true) (fun _=>rfl) (.loop (fun _=>rfl) (fun b=>([(0,dL c),(3,.ab 0),(4,dI b.1)],[some (sI b.2)])) ?_ fun b=> .map (.aN (fun _=>rfl) (fun k=>([(0,dL c),(3,.ab 0),(4,dI b.1)],[some (sI b.2)])) (.ch ?_) fun k=>(.map (.seq (fun f=>([(0,dL c),(3,.ab 0),(4,dI b.1)],[some (sI f)])) (.block (fun _=>false) (fun _=>rfl) (.seq (fun l=>([(0,dL c),(3,.ab 0),(4,dI b.1),(5,dI 0)],[some (sI b.2)])) (.ch ?_) fun l=>(.seq (fun g=>([(0,dL c),(3,.ab 0),(4,dI b.1),(5,dI g)],[some (sI b.2)])) (.seq (fun h=>([(0,dL c),(3,.ab 0),(4,dI b.1),(5,dI 0),(6,dI h)],[some (sI b.2)])) (.ch ?_) fun h=>(.block (fun _=>true) (fun _=>rfl) (.loop (fun _=>rfl) (fun d=>([(0,dL c),(3,.ab 0),(4,dI b.1),(5,dI d.1),(6,dI d.2)],[some (sI b.2)])) ?_ fun d=> .map (.ch ?_)))) fun g=>(.ch ?_)))) fun f=>(.map (.ch ?_)))))))) fun e=>(.ch ?_))))<;>first|(intro m;simp only[H4,H5,za,H6,H7,zb,H9,Ia,Ib,ae];kernel_rfl)|kernel_rfl⟩
 |_,_=>aj
def aiP:af Tryz.prog:=ak sq Tryz.func96 Tryz.call96 [] false [(4,.d [15] [])] fun
 |[.aa (.list (.int .i64)) b],[]=>⟨ad.a (zc b) fun t=>(.ab 0,[some (.seq (.list (.int .i64)) t)]),by refine ao ?_ (.group 1 (.seq (fun f=>([(0,dL b),(3,.ab 0)],[some (.seq (.list (.int .i64)) ([]:List (List Int)))])) (.ch ?_) fun f=>(.seq (fun e=>([(3,.ab 0)],[some (.seq (.list (.int .i64)) e)])) (.seq (fun g=>([(0,dL b),(3,.ab 0),(4,dI 0)],[some (.seq (.list (.int .i64)) ([]:List (List Int)))])) (.ch ?_) fun g=>(.block (fun _=>true) (fun _=>rfl) (.loop (fun _=>rfl) (fun c=>([(0,dL b),(3,.ab 0),(4,dI c.1)],[some (.seq (.list (.int .i64)) c.2)])) ?_ fun c=> .map (.ch ?_)))) fun e=>(.ch ?_))))<;>first|(intro h;simp only[If,Ig,tA,Ih,ae];kernel_rfl)|kernel_rfl⟩
 |_,_=>aj
def aiQ:af Tryz.prog:=ak sq Tryz.func97 Tryz.call97 [] false [] fun
 |[.aa (.int .i64) c,.aa (.int .i64) d,.aa (.int .i64) e,.aa (.int .i64) f],[]=>⟨ad.a (Ik c d e f) fun t=>(dB t,[]),by refine ao ?_ (.group 5 (.aN (fun _=>rfl) (fun b=>([(9,dI b.1),(10,dI b.2.1),(11,dI b.2.2.1),(12,dI b.2.2.2)],[])) (.ch ?_) fun b=>(.ch ?_)))<;>first|(intro g;simp only[Ii,Ij,ae];kernel_rfl)|kernel_rfl⟩
 |_,_=>aj
def aiR:af Tryz.prog:=ak sq Tryz.func45 Tryz.call45 [ev,aiP,aiQ] false [(6,.d [24] [])] fun
 |[.aa (.list (.int .i64)) k],[]=>⟨ad.a (zg k) fun t=>(dI t,[]),by refine ao ?_ (.group 3 (.aN (fun _=>rfl) (fun c=>([(3,dI 0),(4,.ab 0)],[some (.seq (.list (.int .i64)) c)])) (.ch ?_) fun c=>(.seq (fun f=>([(3,dI f)],[])) (.seq (fun h=>([(3,dI 0),(4,.ab 0),(5,dI 0)],[some (.seq (.list (.int .i64)) c)])) (.ch ?_) fun h=>(.block (fun _=>true) (fun _=>rfl) (.loop (fun _=>rfl) (fun b=>([(3,dI b.1),(4,.ab 0),(5,dI b.2)],[some (.seq (.list (.int .i64)) c)])) ?_ fun b=> .map (.aN (fun _=>rfl) (fun i=>([(3,dI b.1),(4,.ab 0),(5,dI b.2)],[some (.seq (.list (.int .i64)) c)])) (.ch ?_) fun i=>(.map (.seq (fun g=>([(3,dI g),(4,.ab 0),(5,dI b.2)],[some (.seq (.list (.int .i64)) c)])) (.block (fun _=>false) (fun _=>rfl) (.seq (fun j=>([(3,dI b.1),(4,.ab 0),(5,dI b.2),(6,dI 0)],[some (.seq (.list (.int .i64)) c)])) (.ch ?_) fun j=>(.block (fun _=>true) (fun _=>rfl) (.loop (fun _=>rfl) (fun e=>([(3,dI e.1),(4,.ab 0),(5,dI b.2),(6,dI e.2)],[some (.seq (.list (.int .i64)) c)])) ?_ fun e=> .map (.ch ?_))))) fun g=>(.map (.ch ?_)))))))) fun f=>(.ch ?_))))<;>first|(intro l;simp only[Im,In,ze,Io,tB,Iq,Ir,ae];kernel_rfl)|kernel_rfl⟩
 |_,_=>aj
noncomputable def XC:bf:=fK [] Tryz.f104
def kL (n:Nat):be:=fun avs a=>
 match avs,a with
 |[.aa (.list (.int .i64)) b,.aa (.int .i64) c],[]=>⟨_,pY n b c,fun t=>(dI t,[]),[],none⟩
 |_,_=>ad.no
noncomputable def XD (n:Nat):Ctx:=⟨bs cw,cF [(104,kL n)],fO,0,false,[]⟩
theorem aiS (n:Nat) (a:List Int) (b:Int) {r:AV} {f:Heap} (h:(ad.mk _ (pY (n+1) a b) (fun t=>(dI t,[])) [] none).run=some (r,f)):bK (XD n) LL (bY Tryz.f104) XC ⟨bU 29 0 [(0,dL a),(1,dI b)],[]⟩ (dh (bs cw) Tryz.f104.results.toList r f):=
 gf (Lk.go (N:=29) (n:=Iv (pY n) a b) (fin:=(fun t=>(ret,⟨bU 29 0 [(4,dI t)],[]⟩))) (.group 1 (.seq (fun e=>([(0,dL a),(1,dI b),(5,dI e)],[])) (.ch fun c=>by simp only[Is,ae];kernel_rfl) fun e=>(.seq (fun g=>([(5,dI g)],[])) (.seq (fun i=>([(0,dL a),(1,dI b),(5,dI e),(6,dI 0)],[])) (.ch fun c=>by simp only[It,ae];kernel_rfl) fun i=>(.block (fun _=>true) (fun _=>rfl) (.loop (fun _=>rfl) (fun d=>([(0,dL a),(1,dI b),(5,dI d.1),(6,dI d.2)],[])) (by kernel_rfl) fun d=> .map (.ch fun c=>by simp only[tC,ae];kernel_rfl)))) fun g=>(.ch fun c=>by simp only[Iu,ae];kernel_rfl)))) (by kernel_rfl)) (by kernel_rfl) (fun t=>es (by kernel_rfl)) h
theorem aiT (n:Nat) (a:Sound Tryz.prog 104 (kL n)):Sound Tryz.prog 104 (kL (n+1)):=by
 refine gg (C:=XD n) (c:=bY Tryz.f104) (ge gi (aY a cQ) (aY Tryz.call104 cQ) (by kernel_rfl)) Tryz.func104 (by kernel_rfl) LL XC ?_
 intro avs b r d h
 unfold kL at h
 split at h
 ·refine bK.cast ?_ ?_ ?_ (aiS n _ _ h)<;>kernel_rfl
 ·simp[ad.no,ad.run] at h
theorem aiU:Sound Tryz.prog 104 (kL 0):=by
 intro avs a r b h
 unfold kL at h
 split at h
 ·simp[pY,lX,ad.run] at h
 ·simp[ad.no,ad.run] at h
theorem XE: ∀n,Sound Tryz.prog 104 (kL n)
 |0=>aiU
 |n+1=>by
  have a:=XE n
  exact aiT n a
def kM:be:=fun avs a=>
 match avs,a with
 |[.aa (.list (.int .i64)) b,.aa (.int .i64) c],[]=>⟨_,hO b c,fun t=>(dI t,[]),[],none⟩
 |_,_=>ad.no
theorem qc:Sound Tryz.prog 104 kM:=by
 have e:kM=kL RR:=by
  funext avs H
  unfold kM kL
  split<;>first|rfl|(simp only[hO])
 rw[e]
 exact(XE RR)
def aiV:af Tryz.prog:=ak sq Tryz.func150 Tryz.call150 [] false [] fun
 |[.aa (.int .i64) d],[]=>⟨ad.a (T5 d) fun t=>(dI t,[]),by refine ao ?_ (.group 1 (.seq (fun e=>([(0,dI d),(3,dI 0)],[])) (.ch ?_) fun e=>(.seq (fun c=>([(3,dI c)],[])) (.block (fun _=>true) (fun _=>rfl) (.loop (fun _=>rfl) (fun b=>([(0,dI b.1),(3,dI b.2)],[])) ?_ fun b=> .map (.ch ?_))) fun c=>(.ch ?_))))<;>first|(intro f;simp only[T2,T3,T4,ae];kernel_rfl)|kernel_rfl⟩
 |_,_=>aj
def aiW:af Tryz.prog:=ak sq Tryz.func98 Tryz.call98 [ev,mc,⟨104,kM,qc,Tryz.call104⟩,aiV] false [] fun
 |[.aa (.list (.int .i64)) b,.aa (.int .i64) c],[]=>⟨ad.a (tD b c) fun t=>(dI t,[]),by refine ao ?_ (.ch ?_)<;>first|(intro d;simp only[tD,ae];kernel_rfl)|kernel_rfl⟩
 |_,_=>aj
def aiX:af Tryz.prog:=ak sq Tryz.func46 Tryz.call46 [ev,aiW] false [] fun
 |[.aa (.list (.int .i64)) b],[]=>⟨ad.a (zj b) fun t=>(dI t,[]),by refine ao ?_ (.group 1 (.seq (fun e=>([(0,dL b),(3,dI (-1))],[])) (.ch ?_) fun e=>(.seq (fun d=>([(3,dI d)],[])) (.seq (fun f=>([(0,dL b),(3,dI (-1)),(4,dI 1)],[])) (.ch ?_) fun f=>(.block (fun _=>true) (fun _=>rfl) (.loop (fun _=>rfl) (fun c=>([(0,dL b),(3,dI c.1),(4,dI c.2)],[])) ?_ fun c=> .map (.ch ?_)))) fun d=>(.ch ?_))))<;>first|(intro g;simp only[Ix,Iy,nH,T9,ae];kernel_rfl)|kernel_rfl⟩
 |_,_=>aj
def aiY:af Tryz.prog:=ak sq Tryz.func99 Tryz.call99 [WF] false [] fun
 |[.aa (.list (.int .i64)) c],[]=>⟨ad.a (zn c) fun t=>(dI t,[]),by refine ao ?_ (.group 2 (.aN (fun _=>rfl) (fun g=>([(0,dL c),(3,dI 0)],[])) (.ch ?_) fun g=>(.seq (fun e=>([(3,dI e)],[])) (.seq (fun h=>([(0,dL c),(3,dI 0),(4,dI 0)],[])) (.ch ?_) fun h=>(.block (fun _=>true) (fun _=>rfl) (.loop (fun _=>rfl) (fun b=>([(0,dL c),(3,dI b.1),(4,dI b.2)],[])) ?_ fun b=> .map (.aN (fun _=>rfl) (fun i=>([(0,dL c),(3,dI b.1),(4,dI b.2)],[])) (.ch ?_) fun i=>(.map (.seq (fun f=>([(0,dL c),(3,dI f),(4,dI b.2)],[])) (.block (fun _=>false) (fun _=>rfl) (.seq (fun j=>([(0,dL c),(3,dI b.1),(4,dI b.2),(5,dI 0)],[])) (.ch ?_) fun j=>(.block (fun _=>true) (fun _=>rfl) (.loop (fun _=>rfl) (fun d=>([(0,dL c),(3,dI d.1),(4,dI b.2),(5,dI d.2)],[])) ?_ fun d=> .map (.ch ?_))))) fun f=>(.map (.ch ?_)))))))) fun e=>(.ch ?_))))<;>first|(intro k;simp only[Iz,IA,zl,IB,tE,ID,IE,ae];kernel_rfl)|kernel_rfl⟩
 |_,_=>aj
def aiZ:af Tryz.prog:=ak sq Tryz.func47 Tryz.call47 [ev,Kh,aiY] false [] fun
 |[.aa (.list (.int .i64)) b],[]=>⟨ad.a (zp b) fun t=>(dI t,[]),by refine ao ?_ (.ch ?_)<;>first|(intro c;simp only[zp,ae];kernel_rfl)|kernel_rfl⟩
 |_,_=>aj
def ai0:af Tryz.prog:=ak sq Tryz.func48 Tryz.call48 [ev] false [] fun
 |[.aa (.list (.int .i64)) b],[]=>⟨ad.a (zq b) fun t=>(dI t,[]),by refine ao ?_ (.group 2 (.aN (fun _=>rfl) (fun e=>([(0,dL b),(3,dI 0)],[])) (.ch ?_) fun e=>(.seq (fun d=>([(3,dI d)],[])) (.seq (fun f=>([(0,dL b),(3,dI 0),(4,dI 0)],[])) (.ch ?_) fun f=>(.block (fun _=>true) (fun _=>rfl) (.loop (fun _=>rfl) (fun c=>([(0,dL b),(3,dI c.1),(4,dI c.2)],[])) ?_ fun c=> .map (.ch ?_)))) fun d=>(.ch ?_))))<;>first|(intro g;simp only[IG,IH,tF,Um,ae];kernel_rfl)|kernel_rfl⟩
 |_,_=>aj
def XF:af Tryz.prog:=ak sq Tryz.func111 Tryz.call111 [] false [] fun
 |[.aa (.int .i64) b],[]=>⟨ad.a (Us b) fun t=>(.ab 0,[some (sI t)]),by refine ao ?_ (.group 1 (.seq (fun e=>([(0,dI b),(3,.ab 0)],[some (sI ([]:List Int))])) (.ch ?_) fun e=>(.seq (fun d=>([(3,.ab 0)],[some (sI d)])) (.seq (fun f=>([(0,dI b),(3,.ab 0),(4,dI 0)],[some (sI ([]:List Int))])) (.ch ?_) fun f=>(.block (fun _=>true) (fun _=>rfl) (.loop (fun _=>rfl) (fun c=>([(0,dI b),(3,.ab 0),(4,dI c.1)],[some (sI c.2)])) ?_ fun c=> .map (.ch ?_)))) fun d=>(.ch ?_))))<;>first|(intro g;simp only[Uo,Up,Uq,Ur,ae];kernel_rfl)|kernel_rfl⟩
 |_,_=>aj
def ai1:af Tryz.prog:=ak sq Tryz.func101 Tryz.call101 [⟨104,kM,qc,Tryz.call104⟩,XF] false [] fun
 |[.aa (.list (.int .i64)) c,.aa (.int .i64) d],[]=>⟨ad.a (zw c d) fun t=>(.ab 0,[some (sI t)]),by refine ao ?_ (.group 1 (.seq (fun j=>([(0,dL c),(1,dI d),(5,.ab 0)],[some (sI ([]:List Int))])) (.ch ?_) fun j=>(.seq (fun g=>([(5,.ab 0)],[some (sI g)])) (.seq (fun k=>([(0,dL c),(1,dI d),(5,.ab 0),(6,dI 0)],[some (sI ([]:List Int))])) (.ch ?_) fun k=>(.block (fun _=>true) (fun _=>rfl) (.loop (fun _=>rfl) (fun b=>([(0,dL c),(1,dI d),(5,.ab 0),(6,dI b.1)],[some (sI b.2)])) ?_ fun b=> .map (.aN (fun _=>rfl) (fun l=>([(0,dL c),(1,dI d),(5,.ab 0),(6,dI b.1)],[some (sI b.2)])) (.ch ?_) fun l=>(.map (.seq (fun h=>([(0,dL c),(1,dI d),(5,.ab 0),(6,dI b.1)],[some (sI h)])) (.block (Sum.elim (fun _=>false) (fun _=>true)) (bm (fun _=>rfl) (fun _=>rfl)) (.group 2 (.aN (fun _=>rfl) (fun e=>([(0,dL c),(1,dI d),(5,.ab 0),(6,dI b.1),(7,dI e),(8,dI 0)],[some (sI b.2)])) (.ch ?_) fun e=>(.map (.seq (fun i=>([(0,dL c),(1,dI d),(5,.ab 0),(6,dI b.1),(7,dI e),(8,dI i)],[some (sI b.2)])) (.block (fun _=>true) (fun _=>rfl) (.loop (fun _=>rfl) (fun f=>([(0,dL c),(1,dI d),(5,.ab 0),(6,dI b.1),(7,dI e),(8,dI f)],[some (sI b.2)])) ?_ fun f=> .map (.ch ?_))) fun i=>(.ch ?_)))))) fun h=>(.map (.ch ?_)))))))) fun g=>(.ch ?_))))<;>first|(intro m;simp only[II,IJ,zu,IK,tG,IM,IP,IQ,ae];kernel_rfl)|kernel_rfl⟩
 |_,_=>aj
def ai2:af Tryz.prog:=ak sq Tryz.func100 Tryz.call100 [] false [] fun
 |[.aa (.list (.int .i64)) c,.aa .bool d],[]=>⟨ad.a (zC c d) fun t=>(dI t,[]),by refine ao ?_ (.group 1 (.seq (fun l=>([(0,dL c),(1,dB d),(5,dI (-1))],[])) (.ch ?_) fun l=>(.seq (fun g=>([(5,dI g)],[])) (.seq (fun m=>([(0,dL c),(1,dB d),(5,dI (-1)),(6,dI 0)],[])) (.ch ?_) fun m=>(.block (fun _=>true) (fun _=>rfl) (.loop (fun _=>rfl) (fun b=>([(0,dL c),(1,dB d),(5,dI b.1),(6,dI b.2)],[])) ?_ fun b=> .map (.aN (fun _=>rfl) (fun n=>([(0,dL c),(1,dB d),(5,dI b.1),(6,dI b.2)],[])) (.ch ?_) fun n=>(.map (.seq (fun h=>([(0,dL c),(1,dB d),(5,dI h),(6,dI b.2)],[])) (.block (fun _=>false) (fun _=>rfl) (.seq (fun o=>([(0,dL c),(1,dB d),(5,dI b.1),(6,dI b.2),(7,dI 0)],[])) (.ch ?_) fun o=>(.seq (fun i=>([(0,dL c),(1,dB d),(5,dI b.1),(6,dI b.2),(7,dI i)],[])) (.seq (fun p=>([(0,dL c),(1,dB d),(5,dI b.1),(6,dI b.2),(7,dI 0),(8,dI 0)],[])) (.ch ?_) fun p=>(.block (fun _=>true) (fun _=>rfl) (.loop (fun _=>rfl) (fun e=>([(0,dL c),(1,dB d),(5,dI b.1),(6,dI b.2),(7,dI e.1),(8,dI e.2)],[])) ?_ fun e=> .map (.aN (fun _=>rfl) (fun q=>([(0,dL c),(1,dB d),(5,dI b.1),(6,dI b.2),(7,dI e.1),(8,dI e.2)],[])) (.ch ?_) fun q=>(.map (.seq (fun j=>([(0,dL c),(1,dB d),(5,dI b.1),(6,dI b.2),(7,dI j),(8,dI e.2)],[])) (.block (fun _=>false) (fun _=>rfl) (.group 1 (.seq (fun k=>([(0,dL c),(1,dB d),(5,dI b.1),(6,dI b.2),(7,dI e.1),(8,dI e.2),(9,dI 0),(10,dI k)],[])) (.ch ?_) fun k=>(.block (fun _=>true) (fun _=>rfl) (.loop (fun _=>rfl) (fun f=>([(0,dL c),(1,dB d),(5,dI b.1),(6,dI b.2),(7,dI f.1),(8,dI e.2),(9,dI f.2.1),(10,dI f.2.2)],[])) ?_ fun f=> .map (.ch ?_)))))) fun j=>(.map (.ch ?_)))))))) fun i=>(.ch ?_)))) fun h=>(.map (.ch ?_)))))))) fun g=>(.ch ?_))))<;>first|(intro r;simp only[IR,IS,zy,IT,IU,zz,IV,tH,IX,IZ,I0,I1,ae];kernel_rfl)|kernel_rfl⟩
 |_,_=>aj
def ai3:af Tryz.prog:=ak sq Tryz.func49 Tryz.call49 [ev,ai1,ai2] false [(3,.d [3,10] [0,1,2,4,5,6,7,8,9,3,10,11,12])] fun
 |[.aa (.list (.int .i64)) b],[]=>⟨ad.a (zE b) fun t=>(dI t,[]),by refine ao ?_ (.group 2 (.aN (fun _=>rfl) (fun e=>([(0,dL b),(3,dI e)],[])) (.ch ?_) fun e=>(.seq (fun f=>([(3,dI f)],[])) (.seq (fun g=>([(0,dL b),(3,dI e),(4,dI 1)],[])) (.ch ?_) fun g=>(.block (fun _=>true) (fun _=>rfl) (.loop (fun _=>rfl) (fun c=>([(0,dL b),(3,dI c.1),(4,dI c.2)],[])) ?_ fun c=> .map (.ch ?_)))) fun f=>(.ch ?_))))<;>first|(intro h;simp only[I2,I3,tI,US,ae];kernel_rfl)|kernel_rfl⟩
 |_,_=>aj
def ai4:af Tryz.prog:=ak sq Tryz.func102 Tryz.call102 [ev] false [] fun
 |[.aa (.list (.int .i64)) c],[]=>⟨ad.a (zI c) fun t=>(.ab 0,[some (sI t)]),by refine ao ?_ (.group 1 (.seq (fun i=>([(0,dL c),(3,.ab 0)],[some (sI ([]:List Int))])) (.ch ?_) fun i=>(.seq (fun f=>([(3,.ab 0)],[some (sI f)])) (.seq (fun j=>([(0,dL c),(3,.ab 0),(4,dI 0)],[some (sI ([]:List Int))])) (.ch ?_) fun j=>(.block (fun _=>true) (fun _=>rfl) (.loop (fun _=>rfl) (fun b=>([(0,dL c),(3,.ab 0),(4,dI b.1)],[some (sI b.2)])) ?_ fun b=> .map (.aN (fun _=>rfl) (fun k=>([(0,dL c),(3,.ab 0),(4,dI b.1)],[some (sI b.2)])) (.ch ?_) fun k=>(.map (.seq (fun g=>([(0,dL c),(3,.ab 0),(4,dI b.1)],[some (sI g)])) (.block (fun _=>false) (fun _=>rfl) (.group 1 (.seq (fun e=>([(0,dL c),(3,.ab 0),(4,dI b.1),(5,dI e)],[some (sI b.2)])) (.ch ?_) fun e=>(.seq (fun h=>([(0,dL c),(3,.ab 0),(4,dI b.1),(5,dI h)],[some (sI b.2)])) (.seq (fun l=>([(0,dL c),(3,.ab 0),(4,dI b.1),(5,dI e),(6,dI 0)],[some (sI b.2)])) (.ch ?_) fun l=>(.block (fun _=>true) (fun _=>rfl) (.loop (fun _=>rfl) (fun d=>([(0,dL c),(3,.ab 0),(4,dI b.1),(5,dI d.1),(6,dI d.2)],[some (sI b.2)])) ?_ fun d=> .map (.ch ?_)))) fun h=>(.ch ?_))))) fun g=>(.map (.ch ?_)))))))) fun f=>(.ch ?_))))<;>first|(intro m;simp only[I4,I5,tJ,I6,I7,tK,zH,I8,I9,ae];kernel_rfl)|kernel_rfl⟩
 |_,_=>aj
def ai5:af Tryz.prog:=ak sq Tryz.func50 Tryz.call50 [ev,ai4] false [] fun
 |[.aa (.list (.int .i64)) f],[]=>⟨ad.a (zK f) fun t=>(dI t,[]),by refine ao ?_ (.group 3 (.aN (fun _=>rfl) (fun b=>([(3,dI b.1),(4,.ab 0)],[some (sI b.2)])) (.ch ?_) fun b=>(.seq (fun d=>([(3,dI d)],[])) (.seq (fun e=>([(3,dI b.1),(4,.ab 0),(5,dI 0)],[some (sI b.2)])) (.ch ?_) fun e=>(.block (fun _=>true) (fun _=>rfl) (.loop (fun _=>rfl) (fun c=>([(3,dI c.1),(4,.ab 0),(5,dI c.2)],[some (sI b.2)])) ?_ fun c=> .map (.ch ?_)))) fun d=>(.ch ?_))))<;>first|(intro g;simp only[Ja,Jb,tL,Jc,ae];kernel_rfl)|kernel_rfl⟩
 |_,_=>aj
def ai6:af Tryz.prog:=ak sq Tryz.func103 Tryz.call103 [] false [] fun
 |[.aa (.int .i64) d],[]=>⟨ad.a (Vb d) fun t=>(dB t,[]),by refine ao ?_ (.seq (fun e=>([(0,dI d)],[])) (.ch ?_) fun e=>(.seq (fun c=>([(0,dI c)],[])) (.block (fun _=>true) (fun _=>rfl) (.loop (fun _=>rfl) (fun b=>([(0,dI b)],[])) ?_ fun b=> .map (.ch ?_))) fun c=>(.ch ?_)))<;>first|(intro f;simp only[U8,U9,Va,ae];kernel_rfl)|kernel_rfl⟩
 |_,_=>aj
def AC:af Tryz.prog:=ak sq Tryz.func52 Tryz.call52 [ev,⟨104,kM,qc,Tryz.call104⟩,ai6] false [] fun
 |[.aa (.list (.int .i64)) b],[]=>⟨ad.a (zM b) fun t=>(dB t,[]),by refine ao ?_ (.seq (fun d=>([(0,dL b)],[])) (.ch ?_) fun d=>(.aN (fun _=>rfl) (fun e=>([(0,dL b)],[])) (.seq (fun f=>([(0,dL b),(3,dI 1)],[])) (.ch ?_) fun f=>(.block (Sum.elim (fun _=>false) (fun _=>true)) (bm (fun _=>rfl) (fun _=>rfl)) (.loop (bm (fun _=>rfl) (fun _=>rfl)) (fun c=>([(0,dL b),(3,dI c)],[])) ?_ fun c=> .map (.ch ?_)))) fun e=>(.ch ?_)))<;>first|(intro g;simp only[Je,Jf,lY,Jg,ae];kernel_rfl)|kernel_rfl⟩
 |_,_=>aj
def ai7:af Tryz.prog:=ak sq Tryz.func51 Tryz.call51 [] false [] fun
 |[.aa .bool b],[]=>⟨ad.a (tM b) fun t=>(dS t,[]),by refine ao ?_ (.ch ?_)<;>first|(intro c;simp only[tM,ae];kernel_rfl)|kernel_rfl⟩
 |_,_=>aj
def ai8:af Tryz.prog:=ak sq Tryz.func152 Tryz.call152 [] false [] fun
 |[.aa (.int .i64) c,.aa (.int .i64) d],[]=>⟨ad.a (zP c d) fun t=>(dB t,[]),by refine ao ?_ (.group 2 (.seq (fun f=>([(0,dI c),(1,dI d),(5,dI 0),(6,dI 0)],[])) (.ch ?_) fun f=>(.seq (fun e=>([(6,dI e)],[])) (.seq (fun g=>([(0,dI c),(1,dI d),(5,dI 0),(6,dI 0),(7,dI 0)],[])) (.ch ?_) fun g=>(.block (fun _=>true) (fun _=>rfl) (.loop (fun _=>rfl) (fun b=>([(0,dI c),(1,dI d),(5,dI b.1),(6,dI b.2.1),(7,dI b.2.2)],[])) ?_ fun b=> .map (.ch ?_)))) fun e=>(.ch ?_))))<;>first|(intro h;simp only[Jh,Ji,zO,Jj,ae];kernel_rfl)|kernel_rfl⟩
 |_,_=>aj
def ai9:af Tryz.prog:=ak sq Tryz.func105 Tryz.call105 [ev,mc,⟨104,kM,qc,Tryz.call104⟩,ai8] false [] fun
 |[.aa (.list (.int .i64)) b,.aa (.int .i64) c,.aa (.int .i64) d],[]=>⟨ad.a (tN b c d) fun t=>(dB t,[]),by refine ao ?_ (.ch ?_)<;>first|(intro e;simp only[tN,ae];kernel_rfl)|kernel_rfl⟩
 |_,_=>aj
def aja:af Tryz.prog:=ak sq Tryz.func53 Tryz.call53 [ai9,ev] false [] fun
 |[.aa (.list (.int .i64)) b],[]=>⟨ad.a (zT b) fun t=>(dB t,[]),by refine ao ?_ (.seq (fun e=>([(0,dL b)],[])) (.ch ?_) fun e=>(.aN (fun _=>rfl) (fun f=>([(0,dL b)],[])) (.seq (fun g=>([(0,dL b),(3,dI 1)],[])) (.ch ?_) fun g=>(.block (Sum.elim (fun _=>false) (fun _=>true)) (bm (fun _=>rfl) (fun _=>rfl)) (.loop (bm (fun _=>rfl) (fun _=>rfl)) (fun c=>([(0,dL b),(3,dI c)],[])) ?_ fun c=> .map (.aN (fun _=>rfl) (fun h=>([(0,dL b),(3,dI c)],[])) (.ch ?_) fun h=>(.map (.aN (fun _=>rfl) (fun i=>([(0,dL b),(3,dI c)],[])) (.block (fun _=>false) (bm (fun _=>rfl) (fun _=>rfl)) (.seq (fun j=>([(0,dL b),(3,dI c),(4,dI 1)],[])) (.ch ?_) fun j=>(.block (Sum.elim (fun _=>false) (fun _=>true)) (bm (fun _=>rfl) (fun _=>rfl)) (.loop (bm (fun _=>rfl) (fun _=>rfl)) (fun d=>([(0,dL b),(3,dI c),(4,dI d)],[])) ?_ fun d=> .map (.ch ?_))))) fun i=>(.map (.ch ?_)))))))) fun f=>(.ch ?_)))<;>first|(intro k;simp only[Jk,Jl,tO,zS,p3,Jq,Js,ae];kernel_rfl)|kernel_rfl⟩
 |_,_=>aj
def ajb:af Tryz.prog:=ak sq Tryz.func106 Tryz.call106 [] false [] fun
 |[.aa (.list (.int .i64)) b,.aa (.int .i64) c,.aa (.list .bool) d],[]=>⟨ad.a (zV b c d) fun t=>(dB t,[]),by refine ao ?_ (.seq (fun f=>([(0,dL b),(1,dI c),(2,.aa (.list .bool) d)],[])) (.ch ?_) fun f=>(.aN (fun _=>rfl) (fun g=>([],[])) (.seq (fun h=>([(0,dL b),(1,dI c),(2,.aa (.list .bool) d),(7,dI 0)],[])) (.ch ?_) fun h=>(.block (Sum.elim (fun _=>false) (fun _=>true)) (bm (fun _=>rfl) (fun _=>rfl)) (.loop (bm (fun _=>rfl) (fun _=>rfl)) (fun e=>([(0,dL b),(1,dI c),(2,.aa (.list .bool) d),(7,dI e)],[])) ?_ fun e=> .map (.ch ?_)))) fun g=>(.ch ?_)))<;>first|(intro i;simp only[Jt,Ju,p4,Jv,ae];kernel_rfl)|kernel_rfl⟩
 |_,_=>aj
def ajc:af Tryz.prog:=ak sq Tryz.func54 Tryz.call54 [AC,ajb] false [(8,.d [25] []),(9,.d [5,0,10] [0,1,2,3,4,6,7,8,9,10,5,11,12]),(12,.d [26] [])] fun
 |[.aa (.list (.int .i64)) c],[]=>⟨ad.a (tR c) fun t=>(.aW [dS t.1,dB t.2],[]),by refine ao ?_ (.group 5 (.aN (fun _=>rfl) (fun e=>([(0,dL c),(4,.ab 0),(5,.ab 1),(6,dS empty),(7,dI 1)],[some (.seq .bool e),some (sI ([]:List Int))])) (.ch ?_) fun e=>(.seq (fun f=>([(6,dS f)],[])) (.block (fun _=>true) (fun _=>rfl) (.loop (fun _=>rfl) (fun b=>([(0,dL c),(4,.ab 0),(5,.ab 1),(6,dS b.1),(7,dI b.2.1)],[some (.seq .bool b.2.2.1),some (sI b.2.2.2)])) ?_ fun b=> .map (.aN (fun _=>rfl) (fun g=>([(0,dL c),(4,.ab 0),(5,.ab 1),(6,dS b.1),(7,dI b.2.1)],[some (.seq .bool b.2.2.1),some (sI b.2.2.2)])) (.ch ?_) fun g=>(.map (.ch ?_))))) fun f=>(.ch ?_))))<;>first|(intro h;simp only[zW,tQ,zX,Jw,ae];kernel_rfl)|kernel_rfl⟩
 |_,_=>aj
def ajd:af Tryz.prog:=ak sq Tryz.func107 Tryz.call107 [] false [] fun
 |[.aa (.list (.int .i64)) c,.aa (.list (.int .i64)) d,.aa (.int .i64) e],[]=>⟨ad.a (zZ c d e) fun t=>(dS t,[]),by refine ao ?_ (.group 4 (.aN (fun _=>rfl) (fun b=>([(0,dL c),(1,dL d),(2,dI e),(7,dI b)],[])) (.ch ?_) fun b=>(.aN (fun _=>rfl) (fun g=>([],[])) (.seq (fun h=>([(0,dL c),(1,dL d),(2,dI e),(7,dI b),(9,dI 0)],[])) (.ch ?_) fun h=>(.block (Sum.elim (fun _=>false) (fun _=>true)) (bm (fun _=>rfl) (fun _=>rfl)) (.loop (bm (fun _=>rfl) (fun _=>rfl)) (fun f=>([(0,dL c),(1,dL d),(2,dI e),(7,dI b),(9,dI f)],[])) ?_ fun f=> .map (.ch ?_)))) fun g=>(.ch ?_))))<;>first|(intro i;simp only[Jx,Jy,p5,Vy,ae];kernel_rfl)|kernel_rfl⟩
 |_,_=>aj
def aje:af Tryz.prog:=ak sq Tryz.func108 Tryz.call108 [] false [(3,.t [⟨0,8,false,none,none⟩]),(6,.t [⟨0,8,false,none,none⟩]),(10,.t [⟨0,8,false,none,none⟩]),(14,.t [⟨0,8,false,none,none⟩])] fun
 |[.ab 0,.aa (.list (.int .i64)) b,.aa (.int .i64) c,.aa (.int .u8) f],[some (.seq (.int .i64) d)]=>⟨ad.a (JF b c f d) fun t=>(.aW [dL t.1,dI t.2.1,dB t.2.2.1],[some (sI t.2.2.2)]),by refine ao ?_ (.group 1 (.seq (fun e=>([(0,.ab 0),(1,dL b),(2,dI c),(3,dU f),(11,dI e)],[some (sI d)])) (.ch ?_) fun e=>(.aN (fun _=>rfl) (fun i=>([(1,dL b),(2,dI c)],[some (sI d)])) (.block (fun _=>false) (bm (fun _=>rfl) (fun _=>rfl)) (.seq (fun g=>([(0,.ab 0),(1,dL b),(2,dI c),(3,dU f),(11,dI e),(15,dB g)],[some (sI d)])) (.ch ?_) fun g=>(.cond ?_ (.map (.ch ?_)) (.seq (fun h=>([(0,.ab 0),(1,dL b),(2,dI c),(3,dU f),(11,dI e),(32,dB h)],[some (sI d)])) (.ch ?_) fun h=>(.ch ?_))))) fun i=>(.ch ?_))))<;>first|(intro j;simp only[Jz,JA,JB,JC,JD,JE,ae];kernel_rfl)|kernel_rfl⟩
 |_,_=>aj
def ajf:af Tryz.prog:=ak sq Tryz.func55 Tryz.call55 [AC,ajd,aje] false [(9,.t [⟨5,37,false,none,none⟩]),(14,.t [⟨1,6,false,none,none⟩])] fun
 |[.aa (.list (.int .i64)) b],[]=>⟨ad.a (tU b) fun t=>(.aW [dS t.1,dB t.2],[]),by refine ao ?_ (.group 2 (.aN (fun _=>rfl) (fun g=>([(0,dL b),(4,.ab 0)],[some (sI ([]:List Int))])) (.ch ?_) fun g=>(.seq (fun e=>([(0,dL b),(4,.ab 0)],[some (sI e)])) (.seq (fun h=>([(0,dL b),(4,.ab 0),(5,dI 0)],[some (sI ([]:List Int))])) (.ch ?_) fun h=>(.block (fun _=>true) (fun _=>rfl) (.loop (fun _=>rfl) (fun d=>([(0,dL b),(4,.ab 0),(5,dI d.1)],[some (sI d.2)])) ?_ fun d=> .map (.ch ?_)))) fun e=>(.group 2 (.seq (fun i=>([(0,dL b),(4,.ab 0),(6,dL ([]:List Int)),(7,dS empty),(8,dI 1)],[some (sI e)])) (.ch ?_) fun i=>(.aN (fun _=>rfl) (fun f=>([(7,dS f)],[])) (.block (Sum.elim (fun _=>false) (fun _=>true)) (bm (fun _=>rfl) (fun _=>rfl)) (.loop (bm (fun _=>rfl) (fun _=>rfl)) (fun c=>([(0,dL b),(4,.ab 0),(6,dL c.1),(7,dS c.2.1),(8,dI c.2.2.1)],[some (sI c.2.2.2)])) ?_ fun c=> .map (.ch ?_))) fun f=>(.ch ?_)))))))<;>first|(intro j;simp only[z6,JH,tS,JI,tT,JJ,ae];kernel_rfl)|kernel_rfl⟩
 |_,_=>aj
noncomputable def XG:bf:=fK [] Tryz.f153
noncomputable def XH:bf:=fK [] Tryz.f187
def iH (n:Nat):be:=fun avs a=>
 match avs,a with
 |[.aa (.int .i64) b],[]=>⟨_,p6 n b,fun t=>(dI t,[]),[],none⟩
 |_,_=>ad.no
def jC (n:Nat):be:=fun avs a=>
 match avs,a with
 |[.aa (.int .i64) b],[]=>⟨_,p7 n b,fun t=>(dI t,[]),[],none⟩
 |_,_=>ad.no
noncomputable def XI (n:Nat):Ctx:=⟨bs cw,cF [(187,jC n),(153,iH n)],fO,0,false,[]⟩
noncomputable def XJ (n:Nat):Ctx:=⟨bs cw,cF [(153,iH n)],fO,0,false,[]⟩
theorem ajg (n:Nat) (a:Int) {r:AV} {d:Heap} (h:(ad.mk _ (p6 (n+1) a) (fun t=>(dI t,[])) [] none).run=some (r,d)):bK (XI n) LL (bY Tryz.f153) XG ⟨bU 22 0 [(0,dI a)],[]⟩ (dh (bs cw) Tryz.f153.results.toList r d):=
 gf (Lk.go (N:=22) (n:=VR (p6 n) (p7 n) a) (fin:=(fun t=>(ret,⟨bU 22 0 [(2,dI t)],[]⟩))) (.group 2 (.aN (fun _=>rfl) (fun f=>([(0,dI a),(3,dI 0)],[])) (.ch fun b=>by simp only[VN,ae];kernel_rfl) fun f=>(.seq (fun e=>([(3,dI e)],[])) (.seq (fun g=>([(0,dI a),(3,dI 0),(4,dI 1)],[])) (.ch fun b=>by simp only[VO,ae];kernel_rfl) fun g=>(.block (fun _=>true) (fun _=>rfl) (.loop (fun _=>rfl) (fun c=>([(0,dI a),(3,dI c.1),(4,dI c.2)],[])) (by kernel_rfl) fun c=> .map (.ch fun b=>by simp only[VP,ae];kernel_rfl)))) fun e=>(.ch fun b=>by simp only[VQ,ae];kernel_rfl)))) (by kernel_rfl)) (by kernel_rfl) (fun t=>es (by kernel_rfl)) h
theorem ajh (n:Nat) (a:Int) {r:AV} {d:Heap} (h:(ad.mk _ (p7 (n+1) a) (fun t=>(dI t,[])) [] none).run=some (r,d)):bK (XJ n) LL (bY Tryz.f187) XH ⟨bU 21 0 [(0,dI a)],[]⟩ (dh (bs cw) Tryz.f187.results.toList r d):=
 gf (Lk.go (N:=21) (n:=VW (p6 n) (p7 n) a) (fin:=(fun t=>(ret,⟨bU 21 0 [(2,dI t)],[]⟩))) (.group 1 (.seq (fun f=>([(0,dI a),(3,dI 0)],[])) (.ch fun b=>by simp only[VS,ae];kernel_rfl) fun f=>(.seq (fun e=>([(3,dI e)],[])) (.seq (fun g=>([(0,dI a),(3,dI 0),(4,dI 0)],[])) (.ch fun b=>by simp only[VT,ae];kernel_rfl) fun g=>(.block (fun _=>true) (fun _=>rfl) (.loop (fun _=>rfl) (fun c=>([(0,dI a),(3,dI c.1),(4,dI c.2)],[])) (by kernel_rfl) fun c=> .map (.ch fun b=>by simp only[VU,ae];kernel_rfl)))) fun e=>(.ch fun b=>by simp only[VV,ae];kernel_rfl)))) (by kernel_rfl)) (by kernel_rfl) (fun t=>es (by kernel_rfl)) h
theorem aji (n:Nat) (a:Sound Tryz.prog 153 (iH n)) (b:Sound Tryz.prog 187 (jC n)):Sound Tryz.prog 153 (iH (n+1)):=by
 refine gg (C:=XI n) (c:=bY Tryz.f153) (ge gi (aY b (aY a cQ)) (aY Tryz.call187 (aY Tryz.call153 cQ)) (by kernel_rfl)) Tryz.func153 (by kernel_rfl) LL XG ?_
 intro avs d r e h
 unfold iH at h
 split at h
 ·refine bK.cast ?_ ?_ ?_ (ajg n _ h)<;>kernel_rfl
 ·simp[ad.no,ad.run] at h
theorem ajj:Sound Tryz.prog 153 (iH 0):=by
 intro avs a r b h
 unfold iH at h
 split at h
 ·simp[p6,ma,ad.run] at h
 ·simp[ad.no,ad.run] at h
theorem ajk (n:Nat) (a:Sound Tryz.prog 153 (iH n)) (e:Sound Tryz.prog 187 (jC n)):Sound Tryz.prog 187 (jC (n+1)):=by
 refine gg (C:=XJ n) (c:=bY Tryz.f187) (ge gi (aY a cQ) (aY Tryz.call153 cQ) (by kernel_rfl)) Tryz.func187 (by kernel_rfl) LL XH ?_
 intro avs b r d h
 unfold jC at h
 split at h
 ·refine bK.cast ?_ ?_ ?_ (ajh n _ h)<;>kernel_rfl
 ·simp[ad.no,ad.run] at h
theorem ajl:Sound Tryz.prog 187 (jC 0):=by
 intro avs a r b h
 unfold jC at h
 split at h
 ·simp[p7,ma,ad.run] at h
 ·simp[ad.no,ad.run] at h
theorem Kw: ∀n,Sound Tryz.prog 153 (iH n)/\Sound Tryz.prog 187 (jC n)
 |0=>⟨ajj,ajl⟩
 |n+1=>by
  obtain⟨a,b⟩:=Kw n
  exact⟨aji n a b,ajk n a b⟩
def t7:be:=fun avs a=>
 match avs,a with
 |[.aa (.int .i64) b],[]=>⟨_,mb b,fun t=>(dI t,[]),[],none⟩
 |_,_=>ad.no
theorem XK:Sound Tryz.prog 153 t7:=by
 have e:t7=iH RR:=by
  funext avs H
  unfold t7 iH
  split<;>first|rfl|(simp only[mb])
 rw[e]
 exact(Kw RR).1
def AD:be:=fun avs a=>
 match avs,a with
 |[.aa (.int .i64) b],[]=>⟨_,z7 b,fun t=>(dI t,[]),[],none⟩
 |_,_=>ad.no
theorem ajm:Sound Tryz.prog 187 AD:=by
 have e:AD=jC RR:=by
  funext avs H
  unfold AD jC
  split<;>first|rfl|(simp only[z7])
 rw[e]
 exact(Kw RR).2
noncomputable def XL:bf:=fK [] Tryz.f109
noncomputable def XM:bf:=fK [] Tryz.f154
def jD (n:Nat):be:=fun avs a=>
 match avs,a with
 |[.aa (.list (.int .i64)) b,.aa (.int .i64) c,.aa (.int .i64) d,.aa (.int .i64) e],[]=>⟨_,p8 n b c d e,fun t=>(dI t,[]),[],none⟩
 |_,_=>ad.no
def iI (n:Nat):be:=fun avs a=>
 match avs,a with
 |[.aa (.list (.int .i64)) b,.aa (.int .i64) c,.aa (.int .i64) d,.aa (.int .i64) e],[]=>⟨_,p9 n b c d e,fun t=>(dI t,[]),[],none⟩
 |_,_=>ad.no
noncomputable def XN (n:Nat):Ctx:=⟨bs cw,cF [(153,t7),(154,iI n)],fO,0,false,[]⟩
noncomputable def XO (n:Nat):Ctx:=⟨bs cw,cF [(104,kM),(187,AD),(153,t7),(109,jD n),(154,iI n)],fO,0,false,[]⟩
theorem ajn (n:Nat) (b:List Int) (a:Int) (c:Int) (d:Int) {r:AV} {g:Heap} (h:(ad.mk _ (p8 (n+1) b a c d) (fun t=>(dI t,[])) [] none).run=some (r,g)):bK (XN n) LL (bY Tryz.f109) XL ⟨bU 48 0 [(0,dL b),(1,dI a),(2,dI c),(3,dI d)],[]⟩ (dh (bs cw) Tryz.f109.results.toList r g):=
 gf (Lk.go (N:=48) (n:=JM (p8 n) (p9 n) b a c d) (fin:=(fun t=>(ret,⟨bU 48 0 [(8,dI t)],[]⟩))) (.group 1 (.seq (fun j=>([(0,dL b),(1,dI a),(2,dI c),(3,dI d),(9,dI 0)],[])) (.ch fun e=>by simp only[VX,ae];kernel_rfl) fun j=>(.seq (fun i=>([(0,dL b),(1,dI a),(2,dI c),(3,dI d),(9,dI i)],[])) (.seq (fun k=>([(0,dL b),(1,dI a),(2,dI c),(3,dI d),(9,dI 0),(10,dI a)],[])) (.ch fun e=>by simp only[VY,ae];kernel_rfl) fun k=>(.block (fun _=>true) (fun _=>rfl) (.loop (fun _=>rfl) (fun f=>([(0,dL b),(1,dI a),(2,dI c),(3,dI d),(9,dI f.1),(10,dI f.2)],[])) (by kernel_rfl) fun f=> .map (.ch fun e=>by simp only[JK,ae];kernel_rfl)))) fun i=>(.ch fun e=>by simp only[JL,ae];kernel_rfl)))) (by kernel_rfl)) (by kernel_rfl) (fun t=>es (by kernel_rfl)) h
theorem ajo (n:Nat) (b:List Int) (a:Int) (c:Int) (d:Int) {r:AV} {j:Heap} (h:(ad.mk _ (p9 (n+1) b a c d) (fun t=>(dI t,[])) [] none).run=some (r,j)):bK (XO n) LL (bY Tryz.f154) XM ⟨bU 78 0 [(0,dL b),(1,dI a),(2,dI c),(3,dI d)],[]⟩ (dh (bs cw) Tryz.f154.results.toList r j):=
 gf (Lk.go (N:=78) (n:=JP (p8 n) (p9 n) b a c d) (fin:=(fun t=>(ret,⟨bU 78 0 [(8,dI t)],[]⟩))) (.group 2 (.aN (fun _=>rfl) (fun o=>([(0,dL b),(1,dI a),(2,dI c),(3,dI d),(9,dI a)],[])) (.ch fun f=>by simp only[V3,ae];kernel_rfl) fun o=>(.seq (fun e=>([(0,dL b),(1,dI a),(2,dI c),(3,dI d),(9,dI e)],[])) (.block (fun _=>true) (fun _=>rfl) (.loop (fun _=>rfl) (fun k=>([(0,dL b),(1,dI a),(2,dI c),(3,dI d),(9,dI k)],[])) (by kernel_rfl) fun k=> .map (.ch fun f=>by simp only[V4,ae];kernel_rfl))) fun e=>(.seq (fun p=>([(0,dL b),(1,dI a),(2,dI c),(3,dI d),(9,dI e),(10,dI a)],[])) (.ch fun f=>by simp only[V5,ae];kernel_rfl) fun p=>(.seq (fun g=>([(0,dL b),(1,dI a),(2,dI c),(3,dI d),(9,dI e),(10,dI g)],[])) (.block (fun _=>true) (fun _=>rfl) (.loop (fun _=>rfl) (fun l=>([(0,dL b),(1,dI a),(2,dI c),(3,dI d),(9,dI e),(10,dI l)],[])) (by kernel_rfl) fun l=> .map (.ch fun f=>by simp only[V6,ae];kernel_rfl))) fun g=>(.seq (fun q=>([(0,dL b),(1,dI a),(2,dI c),(3,dI d),(9,dI e),(10,dI g),(11,dI 0)],[])) (.ch fun f=>by simp only[V7,ae];kernel_rfl) fun q=>(.seq (fun m=>([(0,dL b),(1,dI a),(2,dI c),(3,dI d),(9,dI e),(10,dI g),(11,dI m)],[])) (.seq (fun s=>([(0,dL b),(1,dI a),(2,dI c),(3,dI d),(9,dI e),(10,dI g),(11,dI 0),(12,dI a)],[])) (.ch fun f=>by simp only[V8,ae];kernel_rfl) fun s=>(.block (fun _=>true) (fun _=>rfl) (.loop (fun _=>rfl) (fun i=>([(0,dL b),(1,dI a),(2,dI c),(3,dI d),(9,dI e),(10,dI g),(11,dI i.1),(12,dI i.2)],[])) (by kernel_rfl) fun i=> .map (.ch fun f=>by simp only[JN,ae];kernel_rfl)))) fun m=>(.ch fun f=>by simp only[JO,ae];kernel_rfl)))))))) (by kernel_rfl)) (by kernel_rfl) (fun t=>es (by kernel_rfl)) h
theorem ajp (n:Nat) (e:Sound Tryz.prog 109 (jD n)) (a:Sound Tryz.prog 154 (iI n)):Sound Tryz.prog 109 (jD (n+1)):=by
 refine gg (C:=XN n) (c:=bY Tryz.f109) (ge gi (aY XK (aY a cQ)) (aY Tryz.call153 (aY Tryz.call154 cQ)) (by kernel_rfl)) Tryz.func109 (by kernel_rfl) LL XL ?_
 intro avs b r d h
 unfold jD at h
 split at h
 ·refine bK.cast ?_ ?_ ?_ (ajn n _ _ _ _ h)<;>kernel_rfl
 ·simp[ad.no,ad.run] at h
theorem ajq:Sound Tryz.prog 109 (jD 0):=by
 intro avs a r b h
 unfold jD at h
 split at h
 ·simp[p8,hh,ad.run] at h
 ·simp[ad.no,ad.run] at h
theorem ajr (n:Nat) (a:Sound Tryz.prog 109 (jD n)) (b:Sound Tryz.prog 154 (iI n)):Sound Tryz.prog 154 (iI (n+1)):=by
 refine gg (C:=XO n) (c:=bY Tryz.f154) (ge gi (aY qc (aY ajm (aY XK (aY a (aY b cQ))))) (aY Tryz.call104 (aY Tryz.call187 (aY Tryz.call153 (aY Tryz.call109 (aY Tryz.call154 cQ))))) (by kernel_rfl)) Tryz.func154 (by kernel_rfl) LL XM ?_
 intro avs d r e h
 unfold iI at h
 split at h
 ·refine bK.cast ?_ ?_ ?_ (ajo n _ _ _ _ h)<;>kernel_rfl
 ·simp[ad.no,ad.run] at h
theorem ajs:Sound Tryz.prog 154 (iI 0):=by
 intro avs a r b h
 unfold iI at h
 split at h
 ·simp[p9,hh,ad.run] at h
 ·simp[ad.no,ad.run] at h
theorem Kx: ∀n,Sound Tryz.prog 109 (jD n)/\Sound Tryz.prog 154 (iI n)
 |0=>⟨ajq,ajs⟩
 |n+1=>by
  obtain⟨a,b⟩:=Kx n
  exact⟨ajp n a b,ajr n a b⟩
def AE:be:=fun avs a=>
 match avs,a with
 |[.aa (.list (.int .i64)) b,.aa (.int .i64) c,.aa (.int .i64) d,.aa (.int .i64) e],[]=>⟨_,tV b c d e,fun t=>(dI t,[]),[],none⟩
 |_,_=>ad.no
theorem ajt:Sound Tryz.prog 109 AE:=by
 have e:AE=jD RR:=by
  funext avs H
  unfold AE jD
  split<;>first|rfl|(simp only[tV])
 rw[e]
 exact(Kx RR).1
def Ky:be:=fun avs a=>
 match avs,a with
 |[.aa (.list (.int .i64)) b,.aa (.int .i64) c,.aa (.int .i64) d,.aa (.int .i64) e],[]=>⟨_,Wh b c d e,fun t=>(dI t,[]),[],none⟩
 |_,_=>ad.no
theorem apz:Sound Tryz.prog 154 Ky:=by
 have e:Ky=iI RR:=by
  funext avs H
  unfold Ky iI
  split<;>first|rfl|(simp only[Wh])
 rw[e]
 exact(Kx RR).2
def aju:af Tryz.prog:=ak sq Tryz.func56 Tryz.call56 [AC,Kg,⟨109,AE,ajt,Tryz.call109⟩] false [] fun
 |[.aa (.list (.int .i64)) b],[]=>⟨ad.a (Ab b) fun t=>(dI t,[]),by refine ao ?_ (.ch ?_)<;>first|(intro c;simp only[Ab,ae];kernel_rfl)|kernel_rfl⟩
 |_,_=>aj
def ajv:af Tryz.prog:=ak sq Tryz.func59 Tryz.call59 [ev,mc,⟨104,kM,qc,Tryz.call104⟩,XF] false [] fun
 |[.aa (.list (.int .i64)) b,.aa (.int .i64) c],[]=>⟨ad.a (tW b c) fun t=>(.ab 0,[some (sI t)]),by refine ao ?_ (.ch ?_)<;>first|(intro d;simp only[tW,ae];kernel_rfl)|kernel_rfl⟩
 |_,_=>aj
end Go.Rv
