/-
  The framework: regions,functions,laws. Conditions: none.
-/
import Derived.Test.YthjlnoplibeclaaGreatDoorFC
import Derived.LoopN
import Derived.KernelRfl
import Derived.Lib.Bytealg
import Derived.Lib.ItoaNum
import Derived.Lib.AtoiAll
import Derived.Lib.Join
import Derived.Below
import Derived.WideKeyArgs
import Derived.ChangeSlices
import Derived.WideShapes
import Derived.ChangeSame
import Derived.Lib.LaidTab
import Derived.Stop.LaidErr
import Derived.Shelf.Spec.SlicesInsertGrow
import Derived.Shelf.Strings.Search2
import Derived.Shelf.Strconv.Itoa3
import Derived.Shelf.Strconv.AtoiAll
import Derived.Shelf.Strings.OnBuilder
import Derived.Shelf.SlicesE.Clone
open Go.Op (operands)
open Nat (beq lor blt land)
open List (replicate range' getD)
open Go.DataW (trod Trod TrodVars TrodAll lit)
open Go.Builtin (zeroCells)
open Go.Oper (looksAt wp)
open Go.Region (wanted ready binds)
open Go.Act (eval)
open Go.World (cell? var? frozen?)
open Go.Value (okWide)
open ByteArray (empty)
open Go.Lib (join TabIs itoa)
open Go.Instr (sameNow findNow mapUpdate checkKey)
set_option linter.all false
namespace Go.Rv
def bo:=@Bool.not_true
def cN:=@if_true
def fE:=@Option.bind_assoc
def iB:=@List.mem_map
def kn:=@Array.getElem_modify
def mZ:=@List.append_assoc
def qW:=@List.not_mem_nil
def qX:=@ready_mono
def qY:=@Bool.false_eq_true
def qZ:=@Array.ext
def vr:=@mem_ready
def vt:=@Array.getElem?_toList
def vu:=@Array.length_toList
def vv:=@List.take_of_length_le
def vw:=@Array.getElem?_append_left
def vz:=@Nat.zero_le
def CB:=@Oper.apart_spec
def CC:=@Nat.sub_zero
def CD:=@List.range'_succ
def CE:=@List.mem_of_mem_take
def CF:=@Array.getElem?_eq_getElem
def CG:=@Nat.sub_self
def Nc:=@Array.mapM_eq_mapM_toList
def Nd:=@LawfulMonad.bind_pure_comp
section
variable {β : Type}
theorem CH (b:EK) (e:BinOp) (x y:AV) (k:AV->Option β):jS (ag β) b e x y k=(jS (ag AV) b e x y some).bind k:=by
 unfold jS
 split
 ·split
  ·simp[ag,fE]
  ·simp[ag,fE]
  ·split
   ·split<;>simp[ag,fE]
   ·rfl
 ·split<;>simp[ag,fE]
 ·split
  ·split<;>rfl
  ·rfl
 ·split
  ·split<;>rfl
  ·rfl
 ·rfl
theorem CI (b:UnOp) (x:AV) (k:AV->Option β):jT (ag β) b x k=(jT (ag AV) b x some).bind k:=by
 unfold jT
 split<;>rfl
theorem acN {e:Type} (lo hi:Option AV) (L:Nat) (k:Nat->Nat->Option e) (j:e->Option β):fw (ag β) lo hi L (fun a b=>(k a b).bind j)=(fw (ag e) lo hi L k).bind j:=by
 unfold fw
 split<;>simp[ag,fE]
theorem CJ (T:TT) (s:St) (t:TypeId) (x:AV) (lo hi:Option AV) (k:AV->Option β):fb (ag β) T s t x lo hi k=(fb (ag AV) T s t x lo hi some).bind k:=by
 have h: ∀(L:Nat) (f:Nat->Nat->AV),fw (ag β) lo hi L (fun q r=>k (f q r))=(fw (ag AV) lo hi L (fun q r=>some (f q r))).bind k:=fun L f=>by
  rw[<-acN];rfl
 unfold fb
 split
 ·split
  ·split
   ·split
    ·split
     ·exact h _ _
     ·rfl
    ·split
     ·split
      ·exact h _ _
      ·rfl
     ·rfl
    ·split
     ·split
      ·exact h _ _
      ·rfl
     ·rfl
    ·rfl
   ·rfl
  ·split
   ·exact h _ _
   ·rfl
  ·split
   ·split
    ·split
     all_goals simp_all [ag,fE]
    ·rfl
   ·rfl
  ·rfl
 ·rfl
theorem CK (T:TT) (s:St) (t:TypeId) (x i:AV) (k:AV->Option β):fc (ag β) T s t x i k=(fc (ag AV) T s t x i some).bind k:=by
 unfold fc
 split
 ·split
  ·split
   ·split
    ·split
     ·split<;>simp[ag,fE]
     ·split
      ·split<;>simp[ag,fE]
      ·rfl
     ·split
      ·split<;>simp[ag,fE]
      ·rfl
     ·rfl
    ·rfl
   ·split
    ·split
     ·split
      ·split
       ·simp[ag,fE]
       ·split
        ·split<;>simp[ag,fE]
        ·rfl
      ·split<;>simp[ag,fE]
      ·rfl
     ·split
      ·split<;>simp[ag,fE]
      ·rfl
     ·split
      ·simp[ag,fE]
      ·split
       ·split<;>simp[ag,fE]
       ·rfl
     ·rfl
    ·rfl
   ·rfl
  ·rfl
 ·rfl
theorem CL (b:Bool) (n:Nat) (cs:List AV) (off:Nat) (k:AV->Option β):
  (if b then(if off+n<=cs.length then k (.agg ((cs.drop off).take n)) else(ag β).fail) else match cs[off]? with|some a=>k a|none=>(ag β).fail)=
  (if b then(if off+n<=cs.length then some (.agg ((cs.drop off).take n)) else(ag AV).fail) else match cs[off]? with|some a=>some a|none=>(ag AV).fail).bind k:=by
 split
 ·split<;>rfl
 ·split<;>rfl
theorem CM (T:TT) (s:St) (t:TypeId) (p:AV) (k:AV->Option β):eI (ag β) T s t p k=(eI (ag AV) T s t p some).bind k:=by
 unfold eI
 split
 ·rfl
 ·simp only
  split
  ·exact CL _ _ _ _ _
  ·exact CL _ _ _ _ _
  ·split
   all_goals grind [ag,Option.bind_assoc]
  ·split
   ·exact CL _ _ _ _ _
   ·split
    all_goals simp_all [ag,fE]
   ·rfl
  ·split
   all_goals simp_all [ag,fE]
  ·rfl
theorem CN (T:TT) (t:TypeId) (x:AV) (f:Nat) (k:AV->Option β):jU (ag β) T t x f k=(jU (ag AV) T t x f some).bind k:=by
 unfold jU
 split
 ·split
  ·split
   ·split
    ·split
     ·rfl
     ·split<;>rfl
    ·rfl
   ·rfl
  ·rfl
 ·rfl
theorem CO (T:TT) (t:TypeId) (x:AV) (f:Nat) (k:AV->Option β):jV (ag β) T t x f k=(jV (ag AV) T t x f some).bind k:=by
 unfold jV
 split
 ·split
  ·split
   ·split
    ·split
     ·split<;>rfl
     ·split<;>rfl
    ·rfl
   ·rfl
  ·rfl
 ·rfl
end
def RowsIn (s t:St):Prop:= ∀(h:Nat) (r:Row),s.heap[h]? =some (some r)->t.heap[h]? =some (some r)
theorem CP {β:Type} {k:AV} {hit:Go.Fn->Option β} {g:Option β} {r:β}: ∀(b:List (Value×Go.Fn)),ji (ag β) k hit g b=some r->(∃f,hit f=some r)\/g=some r
 |[],h=> .inr h
 |(c,f)::b,h=>by
  unfold ji at h
  split at h
  ·split at h
   ·rename_i n _ m _
    cases e:(n==m) with
    |true=>grind
    |false=>rw[e] at h;exact CP b h
   ·cases h
  ·rename_i x y
   cases e:(x==y) with
   |true=>grind
   |false=>rw[e] at h;exact CP b h
  ·cases h
theorem RowsIn.row {s t:St} (h:RowsIn s t) {g:Nat} {r:Row} (b:s.row g=some r):t.row g=some r:=by
 have:=h g r (bk b)
 simp[St.row,this]
def eL (x:AV) (s t:St):Prop:= ∀g∈x.ids,∀r,s.heap[g]? =some (some r)->t.heap[g]? =some (some r)
theorem eL.row {x:AV} {s t:St} (h:eL x s t) {g:Nat} (b:g∈x.ids) {r:Row} (e:s.row g=some r):t.row g=some r:=by
 have:=h g b r (bk e)
 simp[St.row,this]
def vA (o:Oper) (s t:St):Prop:= ∀x∈o.op.operands.toList,∀a,ay s x=some a->eL a s t
theorem RowsIn.acO {s t:St} (h:RowsIn s t) (o:Oper):vA o s t:=fun _ _ _ _ g _ r b=>h g r b
theorem acP {s t:St} {x:AV} {n:Nat} (h:eL x s t) (b:gB s x=some n):gB t x=some n:=by
 unfold gB at*
 grind [eL.row,AV.ids]
theorem acQ {T:TT} {s t:St} {ty:TypeId} {x:AV} {lo hi:Option AV} {a:AV} (h:eL x s t) (b:fb (ag AV) T s ty x lo hi some=some a):fb (ag AV) T t ty x lo hi some=some a:=by
 unfold fb at*
 split at b
 ·split at b
  ·split at b
   ·split at b
    ·exact b
    ·split at b
     ·grind [eL.row,AV.ids]
     ·cases b
    ·split at b
     ·grind [eL.row,AV.ids]
     ·cases b
    ·cases b
   ·cases b
  all_goals omega
 ·cases b
theorem acR {T:TT} {s t:St} {ty:TypeId} {x i:AV} {a:AV} (h:eL x s t) (b:fc (ag AV) T s ty x i some=some a):fc (ag AV) T t ty x i some=some a:=by
 unfold fc at*
 split at b
 ·split at b
  ·split at b
   ·split at b
    ·split at b
     ·exact b
     ·split at b
      ·grind [eL.row,AV.ids]
      ·cases b
     ·split at b
      ·grind [eL.row,AV.ids]
      ·cases b
     ·cases b
    ·cases b
   ·split at b
    ·split at b
     ·split at b
      ·grind [eL.row,AV.ids]
      ·grind [eL.row,AV.ids]
      ·cases b
     ·split at b
      ·grind [eL.row,AV.ids]
      ·cases b
     all_goals omega
    ·cases b
   ·cases b
  ·cases b
 ·cases b
theorem acS {T:TT} {s t:St} {ty:TypeId} {p:AV} {a:AV} (h:eL p s t) (b:eI (ag AV) T s ty p some=some a):eI (ag AV) T t ty p some=some a:=by
 unfold eI at*
 split at b
 ·cases b
 ·simp only at b⊢
  split at b
  ·exact b
  ·exact b
  ·split at b
   ·grind [eL.row,AV.ids]
   ·grind [eL.row,AV.ids]
   ·cases b
  ·split at b
   ·grind [eL.row,AV.ids]
   ·grind [eL.row,AV.ids]
   ·cases b
  all_goals omega
theorem acT {s t:St} {x:AV} (h:x.ids=[]):gB t x=gB s x:=by
 cases x<;>simp[AV.ids] at h<;>first|rfl|(rename_i u y;cases u<;>rfl)
theorem acU {T:TT} {s t:St} {ty:TypeId} {x:AV} {lo hi:Option AV} (h:x.ids=[]):fb (ag AV) T t ty x lo hi some=fb (ag AV) T s ty x lo hi some:=by
 cases x<;>simp[AV.ids] at h<;>first|rfl|(rename_i u y;cases u<;>rfl)
theorem acV {T:TT} {s t:St} {ty:TypeId} {x i:AV} (h:x.ids=[]):fc (ag AV) T t ty x i some=fc (ag AV) T s ty x i some:=by
 cases x<;>simp[AV.ids] at h<;>first|rfl|(rename_i u y;cases u<;>rfl)
theorem acW {T:TT} {s t:St} {ty:TypeId} {p:AV} (h:p.ids=[]):eI (ag AV) T t ty p some=eI (ag AV) T s ty p some:=by
 cases p<;>simp[AV.ids] at h<;>first|rfl|(rename_i u y;cases u<;>rfl)
theorem vB {o:Oper} {s:St} (h:it o s=true) {x:Operand} (b:x∈o.op.operands.toList) {a:AV} (e:ay s x=some a):a.ids=[]:=by
 have:=bQ.1 h x b
 simp_all
end Go.Rv
namespace Go.Rv
theorem cr {b β:Type} {o:Option b} {f:b->Option β} {r:β} (h:o.bind f=some r): ∃a,o=some a/\f a=some r:=by
 cases o<;>simp_all
theorem CQ {s t:St} {x:Option Operand} (h: ∀y,x=some y->ay t y=ay s y):evalOp t x=evalOp s x:=by
 cases x<;>grind [evalOp]
theorem iC {s t:St}: ∀{xs:List Operand},(∀x∈xs,ay t x=ay s x)->cH t xs=cH s xs
 |[],_=>rfl
 |x::r,h=>by simp only[cH,h x (by simp),iC (fun y b=>h y (bA _ b))]
theorem q0 {s t:St}: ∀{xs:List (Nat×Operand)},(∀x∈xs.map (·.2),ay t x=ay s x)->gn t xs=gn s xs
 |[],_=>rfl
 |x::r,h=>by
  obtain⟨i,y⟩:=x
  simp only[gn,h y (by simp),q0 (xs:=r) (fun y b=>h y (by simp_all))]
theorem acX {C:Ctx} {base:Nat} {o:Oper} {s a0:St} (I:ez o.op=true) (h:aY (ag St) C base o s some=some a0):
  ∃a,a0=s.put o.dst a/\ ∀(a1:Nat) (t:St),(∀x∈o.op.operands.toList,ay t x=ay s x)->(iq o.op=true\/it o s=true\/vA o s t)->aY (ag St) C a1 o t some=some (t.put o.dst a):=by
 obtain⟨V,b1,Z,Y,U,X⟩:=o
 simp only at I⊢
 unfold aY at h⊢
 cases b1<;>(try cases I)<;>simp only[operands,Array.toList,eh,qW,or_false,forall_eq_or_imp,forall_eq] at h⊢
 case move x=>
  obtain⟨a,q,h⟩:=aI h
  cases h
  refine⟨a,rfl,fun _ t w _=> ?_⟩
  rw[w,q];rfl
 case pick c x y=>
  obtain⟨b5,a9,h⟩:=aI h
  split at h
  ·rename_i g
   obtain⟨z,j,h⟩:=aI h
   obtain⟨b4,O,h⟩:=aI h
   cases h
   refine⟨_,rfl,fun _ t w _=> ?_⟩
   rw[w.1,w.2.1,w.2.2,a9,j,O];rfl
  ·cases h
 case build ty d5=>
  split at h
  ·rename_i D l M R
   split at h
   ·rename_i b8 c4
    split at h
    ·rename_i b9
     obtain⟨cs,c0,h⟩:=aI h
     grind [gn,q0,lift]
    ·cases h
   ·cases h
  ·cases h
 case load ty p=>
  obtain⟨b3,L,h⟩:=aI h
  rw[CM] at h
  obtain⟨a,q,h⟩:=cr h
  cases h
  refine⟨a,rfl,fun _ t w v=> ?_⟩
  rw[w,L]
  simp only[lift]
  have R:eI (ag AV) C.T t ty b3 some=some a:=by
   rcases v.resolve_left (by simp[iq]) with A|v
   ·rw[acW (s:=s) (vB A (x:=p) (by simp[operands]) L)];exact q
   ·exact acS (v p (by simp[operands]) _ L) q
  grind [CM]
 case nilCheck x=>
  obtain⟨a,q,h⟩:=aI h
  split at h
  all_goals first
   |(cases h
     refine⟨_,rfl,fun _ t w _=> ?_⟩
     rw[w,q];rfl)
   |cases h
 case binOp b2 ty x y e0=>
  obtain⟨z,j,h⟩:=aI h
  obtain⟨b4,O,h⟩:=aI h
  rw[CH] at h
  obtain⟨a,q,h⟩:=cr h
  grind [lift,CH]
 case unOp b2 ty x=>
  obtain⟨z,j,h⟩:=aI h
  rw[CI] at h
  obtain⟨a,q,h⟩:=cr h
  grind [lift,CI]
 case convert st b7 x=>
  obtain⟨z,j,h⟩:=aI h
  split at h
  ·rename_i d8 D k n a6 a7
   split at h
   ·grind [lift]
   ·cases h
  ·rename_i d7 D ys a6 a7
   split at h
   ·rename_i e c8 d0
    split at h
    ·rename_i d4 c2
     split at h
     ·grind [lift]
     ·cases h
    ·cases h
   ·cases h
  ·cases h
 case makeFunc fn first b6=>
  cases fn<;>(try simp only at h)<;>(try cases h)
  case func f=>
   split at h
   ·grind [cH,iC]
   ·cases h
 case slice ty x lo hi b0=>
  cases b0 with
  |some m=>cases h
  |none=>
   simp only at h
   split at h
   ·rename_i b l Q j R c1
    rw[CJ] at h
    obtain⟨a,q,h⟩:=cr h
    cases h
    refine⟨a,rfl,fun _ t w v=> ?_⟩
    have a3:ay t x=some b:=by simp_all
    have a4:evalOp t lo=some l:=by grind [CQ]
    have a5:evalOp t hi=some Q:=by grind [CQ]
    simp only[a3,a4,a5]
    have c9:fb (ag AV) C.T t ty b l Q some=some a:=by
     rcases v.resolve_left (by simp[iq]) with A|v
     ·rw[acU (s:=s) (vB A (x:=x) (by simp[operands]) j)];exact q
     ·exact acQ (v x (by simp[operands]) _ j) q
    grind [CJ]
   ·cases h
 case fieldAddr ty x f=>
  obtain⟨z,j,h⟩:=aI h
  rw[CN] at h
  obtain⟨a,q,h⟩:=cr h
  grind [lift,CN]
 case field ty x f=>
  obtain⟨z,j,h⟩:=aI h
  rw[CO] at h
  obtain⟨a,q,h⟩:=cr h
  grind [lift,CO]
 case indexAddr ty x i=>
  obtain⟨z,j,h⟩:=aI h
  obtain⟨i1,hi,h⟩:=aI h
  rw[CK] at h
  obtain⟨a,q,h⟩:=cr h
  cases h
  refine⟨a,rfl,fun _ t w v=> ?_⟩
  rw[w.1,w.2,j,hi]
  simp only[lift]
  have c3:fc (ag AV) C.T t ty z i1 some=some a:=by
   rcases v.resolve_left (by simp[iq]) with A|v
   ·rw[acV (s:=s) (vB A (x:=x) (by simp[operands]) j)];exact q
   ·exact acR (v x (by simp[operands]) _ j) q
  grind [CK]
 case index ty x i=>
  split at h
  ·rename_i D b k n M j hi
   split at h
   ·rename_i J
    obtain⟨m,K,h⟩:=cr h
    grind [ag]
   ·cases h
  ·rename_i D cs k n M j hi
   split at h
   ·rename_i c e J
    obtain⟨d6,c7,h⟩:=aI h
    obtain⟨m,K,h⟩:=cr h
    grind [ag,lift]
   ·cases h
  ·cases h
 case extract x i=>
  obtain⟨z,j,h⟩:=aI h
  split at h
  ·rename_i cs
   obtain⟨y,O,h⟩:=aI h
   grind [lift]
  ·cases h
 case call c=>
  obtain⟨a2,E,F⟩:=c
  cases a2<;>(try cases I)
  case builtin b=>
   cases b<;>(try cases I)
   case len=>
    simp only at h⊢
    split at h
    ·rename_i x d9 d3 d1
     obtain⟨z,j,h⟩:=aI h
     have d2: ∀t:St,(∀y∈(Call.operands ⟨.builtin .len,E,F⟩).toList,ay t y=ay s y)->ay t x=some z:=fun t w=>by
      grind [km,Call.operands]
     have c5: ∀(t:St) (n:Nat),(iq (.call ⟨.builtin .len,E,F⟩)=true\/it ⟨V,.call ⟨.builtin .len,E,F⟩,Z,Y,U,X⟩ s=true\/vA ⟨V,.call ⟨.builtin .len,E,F⟩,Z,Y,U,X⟩ s t)->gB s z=some n->gB t z=some n:=fun t n v G=>by
      rcases v.resolve_left (by simp[iq]) with A|v
      ·rw[acT (s:=s) (vB A (x:=x) (by
        grind [km,operands,Call.operands]) j)];exact G
      ·exact acP (v x (by
        grind [km,operands,Call.operands]) _ j) G
     split at h
     ·rename_i D M
      split at h
      ·cases h
      ·cases h
      ·rename_i J
       obtain⟨n,G,h⟩:=aI h
       grind [lift]
      ·rename_i J c6
       obtain⟨n,G,h⟩:=aI h
       grind [lift]
      ·cases h
     ·cases h
    ·cases h
   case max=>
    simp only at h⊢
    split at h
    ·rename_i k n r a8
     obtain⟨m,K,h⟩:=aI h
     grind [cH,iC,Call.operands,lift]
    ·cases h
   case min=>
    simp only at h⊢
    split at h
    ·rename_i k n r a8
     obtain⟨m,K,h⟩:=aI h
     grind [cH,iC,Call.operands,lift]
    ·cases h
end Go.Rv
namespace Go.Rv
theorem hH (s:St) (d:Option Tmp) (a:AV) (h:Nat):(s.put d a).row h=s.row h:=by cases d<;>rfl
theorem cU (s:St) (d:Option Tmp) (a:AV):(s.put d a).heap=s.heap:=by cases d<;>rfl
theorem put_comm {s:St} {d e:Option Tmp} {a b:AV} (h: ∀t,d=some t->e≠some t):(s.put d a).put e b=(s.put e b).put d a:=by
 cases d with
 |none=>rfl
 |some t=>
  cases e<;>grind [St.put,List.set_comm]
theorem hc {s:St} {d:Option Tmp} {a:AV} {x:Operand} (h: ∀t,d=some t->x≠ .tmp t):ay (s.put d a) x=ay s x:=by
 cases d with
 |none=>rfl
 |some t=>
  cases x<;>grind [ay,St.put,List.getElem?_set_ne]
section
variable {β : Type} {s : St} {d : Option Tmp} {a : AV}
theorem acY (x:AV):gB (s.put d a) x=gB s x:=by
 simp_all [gB,hH]
theorem CR (u:Ty) (x:AV):elems (s.put d a) u x=elems s u x:=by
 simp_all [elems,hH]
theorem acZ (A:cq (Option β)) (T:TT) (t:TypeId) (x:AV) (lo hi:Option AV) (k:AV->Option β):fb A T (s.put d a) t x lo hi k=fb A T s t x lo hi k:=by
 simp_all [fb,hH]
theorem ac0 (A:cq (Option β)) (T:TT) (t:TypeId) (x i:AV) (k:AV->Option β):fc A T (s.put d a) t x i k=fc A T s t x i k:=by
 simp_all [fc,hH]
theorem ac1 (A:cq (Option β)) (T:TT) (t:TypeId) (p:AV) (k:AV->Option β):eI A T (s.put d a) t p k=eI A T s t p k:=by
 grind [eI,hH]
theorem na (h:Nat) (r:Row):(s.put d a).setRow h r=(s.setRow h r).put d a:=by cases d<;>rfl
theorem lw (base:Nat) (r:Row) (k:St->Option β):cI (ag β) (s.put d a) base r k=cI (ag β) s base r (fun s'=>k (s'.put d a)):=by
 grind [cI,cU,na]
theorem ac2 (T:TT) (t:TypeId) (p v:AV) (k:St->Option β):fe (ag β) T (s.put d a) t p v k=fe (ag β) T s t p v (fun s'=>k (s'.put d a)):=by
 simp_all [fe,hH,na]
theorem ac3 (T:TT) (t:TypeId) (x y:AV) (k:AV->St->Option β):jh (ag β) T (s.put d a) t x y k=jh (ag β) T s t x y (fun n s'=>k n (s'.put d a)):=by
 simp_all [jh,hH,na,CR]
theorem Nf (T:TT) (io:Bool) (t:TypeId) (x:AV):ij (s.put d a) T io t x=ij s T io t x:=by
 simp_all [ij,hH]
theorem Ng: ∀(cs:List AV),ik (s.put d a) cs=ik s cs
 |[]=>rfl
 |x::r=>by
  have e:lb (s.put d a) x=lb s x:=by
   simp_all [lb,Nf]
  simp only[ik,e,Ng r]
theorem ac4 (T:TT) (io:Bool) (t:TypeId) (x:AV):jf (s.put d a) T io t x=jf s T io t x:=by
 simp_all [jf,Ng,Nf]
theorem vC (T:TT) (io:Nat->Bool): ∀(xs:List AV) (n:Nat) (b:List TypeId),ey (s.put d a) T io n b xs=ey s T io n b xs
 |[],_,_=>by simp[ey]
 |x::r,n,[]=>by simp[ey]
 |x::r,n,t::b=>by
  have f: ∀x:AV,lc (s.put d a) x=lc s x:=fun x=>by
   simp_all [lc,hH]
  have g: ∀xs:List AV,il (s.put d a) xs=il s xs:=fun xs=>by
   induction xs<;>grind [il]
  have e:ld (s.put d a) x=ld s x:=by
   simp_all [ld,hH]
  simp only[ey,ac4,e,vC T io r]
theorem ac5 (C:Ctx) (base:Nat) (f:FuncId) (args:List AV) (types:List TypeId) (k:AV->St->Option β):
  eJ (ag β) C base (s.put d a) f args types k=eJ (ag β) C base s f args types (fun v s'=>k v (s'.put d a)):=by
 cases d with
 |none=>rfl
 |some t=>
  unfold eJ
  rw[vC]
  rfl
theorem ko {e:Type} {x y:Option e} {k j:e->Option β} (h:x=y) (f: ∀b,k b=j b):lift (ag β) x k=lift (ag β) y j:=by
 subst h
 cases x with
 |none=>rfl
 |some b=>exact f b
theorem Nh {e:Type} {x:Option e} {k j:e->Option β} (f: ∀b,k b=j b):(ag β).bind x k=(ag β).bind x j:=by
 have:k=j:=funext f
 rw[this]
theorem ac6 {C:Ctx} {base:Nat} {o:Oper} (k:St->Option β) (r:dO o.op=true->is o s=true) (A: ∀t,d=some t->Operand.tmp t∉o.op.operands.toList) (D: ∀t,d=some t->o.dst≠some t):
  aY (ag β) C base o (s.put d a) k=aY (ag β) C base o s (fun s'=>k (s'.put d a)):=by
 have g: ∀x∈o.op.operands.toList,ay (s.put d a) x=ay s x:=fun x h=>hc (fun t F e=>A t F (e▸h))
 have E: ∀(s':St) (v:AV),(s'.put d a).put o.dst v=(s'.put o.dst v).put d a:=fun s' v=>put_comm D
 obtain⟨Z,J,a2,a1,Y,a0⟩:=o
 simp only at r g E
 unfold aY
 cases J<;>simp only[operands,Array.toList,eh,qW,or_false,forall_eq_or_imp,forall_eq] at g⊢
 case move x=>simp_all
 case assign x=>
  grind [ko,lw]
 case pick c x y=>
  simp_all
 case alloc e=>
  simp_all [lw]
 case box e x=>
  grind [ko,lw]
 case build t j=>
  have e:gn (s.put d a) j.toList=gn s j.toList:=q0 (fun x h=>g x h)
  simp_all
 case buildSlice t n j=>
  have e:gn (s.put d a) j.toList=gn s j.toList:=q0 (fun x h=>g x h)
  rw[e]
  split
  ·split
   ·split
    ·split
     ·have R:(s.put d a).heap=s.heap:=by cases d<;>rfl
      grind [lw]
     ·rfl
    ·rfl
   ·rfl
  ·rfl
 case makeSlice t l c=>
  simp_all [Nh,lw]
 case load t p=>grind [ko,ac1]
 case store t p v=>simp_all [ko,ac2]
 case nilCheck x=>
  simp_all
 case binOp K t x y a3=>simp_all
 case unOp K t x=>simp_all
 case convert st O x=>
  simp_all
 case lookup t x X ok=>
  simp_all
 case makeFunc fn first L=>
  cases fn<;>(try rfl)
  grind [cH,St.put,iC]
 case slice t x lo hi I=>
  cases I<;>grind [ay,St.put,evalOp,CQ,acZ]
 case fieldAddr t x f=>simp_all
 case field t x f=>simp_all
 case indexAddr t x i=>simp_all [ko,ac0]
 case index t x i=>
  simp_all
 case extract x i=>
  simp_all
 case call c=>
  obtain⟨w,m,M⟩:=c
  cases w<;>(try rfl)
  case value f=>
   have Q:ay (s.put d a) f=ay s f:=g f (by simp[Call.operands])
   have z:cH (s.put d a) m.toList=cH s m.toList:=iC (fun x h=>g x (by grind [Call.operands]))
   simp_all [ko,cH,ac5]
  case builtin b=>
   have z: ∀x∈m.toList,ay (s.put d a) x=ay s x:=fun x h=>g x (by grind [Call.operands])
   cases b<;>(try rfl)
   case len=>
    simp only
    split
    all_goals simp_all [ko,acY]
   case append=>
    have q:=r rfl
    simp only[is] at q
    simp only
    split
    ·rename_i x y t t2 G V
     rw[G] at q
     simp only at q
     have U:ay s x=some .aM:=by
      grind
     simp_all [lift,ay,jY,CR,Nh,lw]
    ·rfl
   case copy=>
    simp only
    split
    all_goals simp_all [ko,ac3]
   all_goals grind [Max.max,iC,ko,Min.min]
 all_goals rfl
end
end Go.Rv
namespace Go.Rv
def jo (H b:Heap):Prop:= ∀(h:Nat) (r:Row),H[h]? =some (some r)->b[h]? =some (some r)
theorem jo.refl (H:Heap):jo H H:=fun _ _ h=>h
theorem q1 {H:Heap} {base:Nat} {r:Row} (h:H[base]? =some none):jo H (H.set base (some r)):=fun g e b=>by
 grind
theorem ac7 {C:Ctx} {base:Nat} {o:Oper} {s q:St} (M:dO o.op=true->is o s=true) (h:aY (ag St) C base o s some=some q):
  ∃(v:AV) (H:Heap),q=(⟨s.env,H⟩:St).put o.dst v/\ ∀(calm:List Nat) (i:Nat),ff calm i o.op=true->bx C calm i o s=true->jo s.heap H:=by
 obtain⟨w,D,I,G,E,F⟩:=o
 simp only at M⊢
 have j: ∀{v:AV} {q:St},some (s.put w v)=some q-> ∃(v:AV) (H:Heap),q=(⟨s.env,H⟩:St).put w v/\ ∀(calm:List Nat) (i:Nat),ff calm i D=true->bx C calm i ⟨w,D,I,G,E,F⟩ s=true->jo s.heap H:=fun {v q} e=>by
  cases e
  grind [jo.refl]
 have z: ∀{r:Row} {v:AV} {q:St},cI (ag St) s base r (fun s'=>some (s'.put w v))=some q-> ∃(v:AV) (H:Heap),q=(⟨s.env,H⟩:St).put w v/\ ∀(calm:List Nat) (i:Nat),ff calm i D=true->bx C calm i ⟨w,D,I,G,E,F⟩ s=true->jo s.heap H:=fun {r v q} e=>by
  obtain⟨Z,e⟩:=dP e
  cases e
  exact⟨v,_,rfl,fun _ _ _ _=>q1 Z⟩
 unfold aY at h
 cases D<;>simp only at h
 case move x=>obtain⟨a,_,h⟩:=aI h;exact j h
 case assign x=>
  obtain⟨a,_,h⟩:=aI h
  split at h
  ·split at h
   ·split at h
    ·exact z h
    ·cases h
   ·cases h
  grind
 case pick c x y=>
  obtain⟨a,_,h⟩:=aI h
  split at h
  ·obtain⟨_,_,h⟩:=aI h
   obtain⟨_,_,h⟩:=aI h
   exact j h
  ·cases h
 case alloc e=>
  split at h
  ·split at h
   ·split at h
    ·split at h
     ·split at h
      ·exact z h
      ·cases h
     ·cases h
    ·cases h
   ·split at h
    ·exact z h
    ·cases h
  ·cases h
 case box e x=>
  obtain⟨a,_,h⟩:=aI h
  split at h
  ·split at h
   ·exact z h
   ·cases h
  ·split at h
   ·exact z h
   ·cases h
 case build t a6=>
  split at h
  ·split at h
   ·split at h
    ·obtain⟨_,_,h⟩:=aI h;exact j h
    ·cases h
   ·cases h
  ·cases h
 case buildSlice t n a6=>
  split at h
  ·split at h
   ·split at h
    ·split at h
     ·split at h
      ·exact j h
      ·exact z h
     ·cases h
    ·cases h
   ·cases h
  ·cases h
 case makeSlice t l c=>
  split at h
  ·split at h
   ·split at h
    ·obtain⟨_,_,h⟩:=cr h
     exact z h
    ·cases h
   ·cases h
  ·cases h
 case load t p=>
  obtain⟨_,_,h⟩:=aI h
  rw[CM] at h
  obtain⟨_,_,h⟩:=cr h
  exact j h
 case store t p v=>
  obtain⟨b8,_,h⟩:=aI h
  obtain⟨v1,_,h⟩:=aI h
  have a0: ∀(r:Row) (g:Nat),some ((s.setRow g r).put w .undef)=some q-> ∃(u:AV) (H:Heap),q=(⟨s.env,H⟩:St).put w u/\ ∀(calm:List Nat) (i:Nat),ff calm i (.store t p v)=true->bx C calm i ⟨w,.store t p v,I,G,E,F⟩ s=true->jo s.heap H:=fun r g e=>by
   cases e
   exact⟨_,_,rfl,fun _ _ J _=>by simp[ff] at J⟩
  unfold fe at h
  split at h
  ·cases h
  ·split at h
   ·split at h
    ·split at h
     ·split at h
      ·grind
      ·cases h
     ·split at h
      ·obtain⟨_,_,h⟩:=cr h
       grind
      ·cases h
     ·cases h
    ·cases h
   ·split at h
    ·split at h
     ·split at h
      ·split at h
       ·split at h
        ·grind
        ·cases h
       ·cases h
      ·split at h
       ·split at h
        ·obtain⟨_,_,h⟩:=cr h
         grind
        ·cases h
       ·cases h
      ·cases h
     ·split at h
      ·split at h
       ·grind
       ·cases h
      ·cases h
     ·cases h
    ·cases h
 case nilCheck x=>
  obtain⟨a,_,h⟩:=aI h
  split at h<;>first|exact j h|cases h
 case binOp a5 t x y c0=>
  obtain⟨_,_,h⟩:=aI h
  obtain⟨_,_,h⟩:=aI h
  rw[CH] at h
  obtain⟨_,_,h⟩:=cr h
  exact j h
 case unOp a5 t x=>
  obtain⟨_,_,h⟩:=aI h
  rw[CI] at h
  obtain⟨_,_,h⟩:=cr h
  exact j h
 case convert st a8 x=>
  obtain⟨_,_,h⟩:=aI h
  split at h
  ·split at h
   ·exact j h
   ·cases h
  ·split at h
   ·split at h
    ·split at h
     ·exact j h
     ·cases h
    ·cases h
   ·cases h
  ·cases h
 case lookup t x b7 ok=>
  obtain⟨_,_,h⟩:=aI h
  obtain⟨_,_,h⟩:=aI h
  split at h
  ·split at h
   ·split at h
    ·split at h
     ·grind [CP]
     ·cases h
    ·cases h
   ·cases h
  ·cases h
 case makeFunc fn first U=>
  cases fn<;>(try simp only at h)<;>(try cases h)
  split at h
  ·exact j h
  ·cases h
 case slice t x lo hi a4=>
  cases a4 with
  |some m=>cases h
  |none=>
   simp only at h
   split at h
   ·rw[CJ] at h
    obtain⟨_,_,h⟩:=cr h
    exact j h
   ·cases h
 case fieldAddr t x f=>
  obtain⟨_,_,h⟩:=aI h
  rw[CN] at h
  obtain⟨_,_,h⟩:=cr h
  exact j h
 case field t x f=>
  obtain⟨_,_,h⟩:=aI h
  rw[CO] at h
  obtain⟨_,_,h⟩:=cr h
  exact j h
 case indexAddr t x i=>
  obtain⟨_,_,h⟩:=aI h
  obtain⟨_,_,h⟩:=aI h
  rw[CK] at h
  obtain⟨_,_,h⟩:=cr h
  exact j h
 case index t x i=>
  split at h
  ·split at h
   ·obtain⟨_,_,h⟩:=cr h
    exact j h
   ·cases h
  ·split at h
   ·obtain⟨_,_,h⟩:=aI h
    obtain⟨_,_,h⟩:=cr h
    exact j h
   ·cases h
  ·cases h
 case extract x i=>
  obtain⟨_,_,h⟩:=aI h
  split at h
  ·obtain⟨_,_,h⟩:=aI h
   exact j h
  ·cases h
 case call c=>
  obtain⟨R,K,L⟩:=c
  cases R<;>(try simp only at h)<;>(try cases h)
  case value f=>
   obtain⟨a9,b2,h⟩:=aI h
   split at h
   ·rename_i g first U
    split at h
    ·rename_i args b0
     unfold eJ at h
     split at h
     ·cases h
     ·rename_i avs b1
      simp only at h
      generalize b5:reach s.heap (s.heap.length+1) 0 (dw [] (cj avs))=ids at h
      split at h
      ·rename_i X
       simp only[aT] at X
       obtain⟨x,a2,h⟩:=cr h
       rw[mJ] at h
       split at h
       ·rename_i Y
        simp only[aT,db] at Y
        cases h
        refine⟨_,_,rfl,fun calm i O A=> ?_⟩
        simp only[ff] at O
        simp only[bx,O,bo,kh,aT] at A
        have b4:cj avs=[]:=by
         grind [dm]
        have a1:ids=[]:=by
         grind [dw,reach]
        subst a1
        intro g r b3
        grind [mX,List.getElem?_eq_some_iff,qP,List.length_nil,fx]
       ·cases h
      ·cases h
    ·cases h
   ·cases h
  case builtin b=>
   cases b<;>(try simp only at h)<;>(try cases h)
   case len=>
    split at h
    ·obtain⟨a7,a2,h⟩:=aI h
     split at h
     ·split at h
      ·cases h
      ·cases h
      ·obtain⟨_,_,h⟩:=aI h
       exact j h
      ·obtain⟨_,_,h⟩:=aI h
       exact j h
      ·cases h
     ·cases h
    ·cases h
   case append=>
    have A:=M rfl
    simp only[is] at A
    split at h
    ·rename_i x y t t2 a3 b6
     rw[a3] at A
     simp only at A
     have V:ay s x=some .aM:=by
      grind
     split at h
     ·obtain⟨a7,Q,h⟩:=aI h
      obtain⟨b9,_,h⟩:=aI h
      rw[V] at Q
      cases Q
      simp only[jY] at h
      split at h
      ·split at h
       ·split at h
        ·split at h
         ·obtain⟨_,_,h⟩:=cr h
          exact z h
         ·cases h
        ·cases h
       ·cases h
      ·cases h
     ·cases h
    ·cases h
   case copy=>
    have a0: ∀(v:AV) (r:Row) (g:Nat),some ((s.setRow g r).put w v)=some q-> ∃(u:AV) (H:Heap),q=(⟨s.env,H⟩:St).put w u/\ ∀(calm:List Nat) (i:Nat),ff calm i (.call ⟨.builtin .copy,K,L⟩)=true->bx C calm i ⟨w,.call ⟨.builtin .copy,K,L⟩,I,G,E,F⟩ s=true->jo s.heap H:=fun v r g e=>by
     cases e
     exact⟨_,_,rfl,fun _ _ J _=>by simp[ff] at J⟩
    split at h
    ·obtain⟨_,_,h⟩:=aI h
     obtain⟨_,_,h⟩:=aI h
     unfold jh at h
     split at h
     ·split at h
      ·split at h
       ·split at h
        ·split at h
         ·split at h
          ·grind
          ·cases h
         ·cases h
        ·cases h
       ·split at h
        ·split at h
         ·split at h
          ·grind
          ·cases h
         ·cases h
        ·cases h
       ·cases h
      ·cases h
     ·cases h
    ·cases h
   case max=>
    split at h
    ·obtain⟨_,_,h⟩:=aI h
     exact j h
    ·cases h
   case min=>
    split at h
    ·obtain⟨_,_,h⟩:=aI h
     exact j h
    ·cases h
 all_goals cases h
end Go.Rv
namespace Go.Rv
section
variable {β : Type} {Kf : β -> Prop}
theorem dD {b:Type} (o:Option b) (f:b->Option β) (g:b->Prop) (h: ∀a,g a=aJ (f a) Kf):ci.bind o g=aJ ((ag β).bind o f) Kf:=by
 cases o with
 |none=>exact(kZ _).trans (kZ _).symm
 |some a=>exact(ih a g).trans (h a)
theorem aV:ci.fail=aJ ((ag β).fail) Kf:=(kZ _).symm
theorem dE {b:Type} (x:Option b) (k:b->Option β) (g:b->Prop) (h: ∀a,g a=aJ (k a) Kf):lift ci x g=aJ (lift (ag β) x k) Kf:=by
 cases x with
 |none=>first|exact aV|rfl
 |some a=>exact h a
theorem ac8 (b:EK) (e:BinOp) (x y:AV) (k:AV->Option β) (g:AV->Prop) (h: ∀a,g a=aJ (k a) Kf):jS ci b e x y g=aJ (jS (ag β) b e x y k) Kf:=by
 unfold jS
 split
 all_goals grind [dD,aV]
theorem ac9 (b:UnOp) (x:AV) (k:AV->Option β) (g:AV->Prop) (h: ∀a,g a=aJ (k a) Kf):jT ci b x g=aJ (jT (ag β) b x k) Kf:=by
 unfold jT
 grind [aV]
theorem Ni (lo hi:Option AV) (L:Nat) (k:Nat->Nat->Option β) (g:Nat->Nat->Prop) (h: ∀a b,g a b=aJ (k a b) Kf):fw ci lo hi L g=aJ (fw (ag β) lo hi L k) Kf:=by
 unfold fw
 grind [dD,aV]
theorem vD {c:Prop} [Decidable c] (x y:Option β) (a b:Prop) (e:a=aJ x Kf) (f:b=aJ y Kf):(if c then a else b)=aJ (if c then x else y) Kf:=by
 grind
theorem ada (T:TT) (s:St) (t:TypeId) (x:AV) (lo hi:Option AV) (k:AV->Option β) (g:AV->Prop) (h: ∀a,g a=aJ (k a) Kf):fb ci T s t x lo hi g=aJ (fb (ag β) T s t x lo hi k) Kf:=by
 unfold fb
 split
 ·split
  all_goals grind [Ni,aV,dD]
 grind [aV]
theorem adb (T:TT) (s:St) (t:TypeId) (x i:AV) (k:AV->Option β) (g:AV->Prop) (h: ∀a,g a=aJ (k a) Kf):fc ci T s t x i g=aJ (fc (ag β) T s t x i k) Kf:=by
 unfold fc
 split
 ·split
  ·split
   ·grind [dD,aV]
   ·split
    ·split
     all_goals grind [dD,aV]
    grind [aV]
   grind [aV]
  grind [aV]
 grind [aV]
theorem adc (T:TT) (s:St) (t:TypeId) (p:AV) (k:AV->Option β) (g:AV->Prop) (h: ∀a,g a=aJ (k a) Kf):eI ci T s t p g=aJ (eI (ag β) T s t p k) Kf:=by
 unfold eI
 split
 ·grind [aV]
 ·simp only
  split
  all_goals grind [dD,aV]
theorem ade (T:TT) (t:TypeId) (x:AV) (f:Nat) (k:AV->Option β) (g:AV->Prop) (h: ∀a,g a=aJ (k a) Kf):jU ci T t x f g=aJ (jU (ag β) T t x f k) Kf:=by
 unfold jU
 split
 ·split
  all_goals grind [aV]
 grind [aV]
theorem adf (T:TT) (t:TypeId) (x:AV) (f:Nat) (k:AV->Option β) (g:AV->Prop) (h: ∀a,g a=aJ (k a) Kf):jV ci T t x f g=aJ (jV (ag β) T t x f k) Kf:=by
 unfold jV
 split
 ·split
  all_goals grind [aV]
 grind [aV]
theorem adg (T:TT) (s:St) (t:TypeId) (p v:AV) (k:St->Option β) (g:St->Prop) (h: ∀a,g a=aJ (k a) Kf):fe ci T s t p v g=aJ (fe (ag β) T s t p v k) Kf:=by
 unfold fe
 split
 ·grind [aV]
 ·refine vD _ _ _ _ ?_ (vD _ _ _ _ ?_ aV)
  ·grind [aV,dD]
  ·split
   all_goals grind [aV,dD]
theorem hI (s:St) (base:Nat) (r:Row) (k:St->Option β) (g:St->Prop) (h: ∀a,g a=aJ (k a) Kf):cI ci s base r g=aJ (cI (ag β) s base r k) Kf:=by
 grind [cI,aV]
theorem adh (T:TT) (s:St) (t:TypeId) (x y:AV) (k:AV->St->Option β) (g:AV->St->Prop) (h: ∀a b,g a b=aJ (k a b) Kf):jh ci T s t x y g=aJ (jh (ag β) T s t x y k) Kf:=by
 unfold jh
 split
 all_goals grind [aV]
theorem adi (C:Ctx) (base:Nat) (s:St) (t:TypeId) (x y:AV) (k:AV->St->Option β) (g:AV->St->Prop) (h: ∀a b,g a b=aJ (k a b) Kf):jY ci C base s t x y g=aJ (jY (ag β) C base s t x y k) Kf:=by
 unfold jY
 split
 ·split
  ·refine vD _ _ _ _ ?_ aV
   split
   all_goals grind [dD,hI,aV]
  grind [aV]
 grind [aV]
theorem CS (C:Ctx) (base:Nat) (s:St) (f:FuncId) (args:List AV) (types:List TypeId) (k:AV->St->Option β) (g:AV->St->Prop) (h: ∀a b,g a b=aJ (k a b) Kf):eJ ci C base s f args types g=aJ (eJ (ag β) C base s f args types k) Kf:=by
 unfold eJ
 split
 all_goals grind [aV,dD,mJ]
theorem CT {β:Type} {Kf:β->Prop} (c:Bool) {x:Prop} {y:Option β} (b:x=aJ y Kf) (e:False=aJ (none:Option β) Kf):cond c x False=aJ (cond c y none) Kf:=by
 grind
theorem Nj {β:Type} {Kf:β->Prop} (c:Bool) {x b:Prop} {y e:Option β} (f:x=aJ y Kf) (g:b=aJ e Kf):cond c x b=aJ (cond c y e) Kf:=by
 grind
theorem CU (k:AV) (hit:Go.Fn->Option β) (e:Option β) (g:Go.Fn->Prop) (m:Prop) (h: ∀f,g f=aJ (hit f) Kf) (i:m=aJ e Kf): ∀(b:List (Value×Go.Fn)),
  ji ci k g m b=aJ (ji (ag β) k hit e b) Kf
 |[]=>i
 |(c,f)::b=>by
  unfold ji
  split
  ·exact vD _ _ _ _ (Nj _ (h f) (CU _ hit e g m h i b)) aV
  ·exact Nj _ (h f) (CU _ hit e g m h i b)
  ·exact aV
theorem vE (C:Ctx) (base:Nat) (o:Oper) (s:St) (k:St->Option β) (g:St->Prop) (h: ∀a,g a=aJ (k a) Kf):aY ci C base o s g=aJ (aY (ag β) C base o s k) Kf:=by
 unfold aY
 obtain⟨I,m,L,K,G,J⟩:=o
 cases m<;>simp only
 case move x=>grind [dE]
 case assign x=>
  grind [dE,hI,aV]
 case pick c x y=>
  refine dE _ _ _ (fun a=> ?_)
  split
  all_goals grind [dE,aV]
 case alloc e=>
  split
  all_goals grind [hI,aV]
 case box e x=>
  grind [dE,hI,aV]
 case build t r=>
  grind [dE,aV]
 case buildSlice t n r=>
  split
  ·split
   ·split
    all_goals grind [aV,hI]
   grind [aV]
  grind [aV]
 case makeSlice t l c=>
  grind [dD,hI,aV]
 case load t p=>grind [dE,adc]
 case store t p v=>grind [dE,adg]
 case nilCheck x=>
  grind [dE,aV]
 case binOp q t x y M=>grind [dE,ac8]
 case unOp q t x=>grind [dE,ac9]
 case convert st D x=>
  refine dE _ _ _ (fun a=> ?_)
  grind [aV]
 case lookup t x E ok=>
  refine dE _ _ _ (fun a=>dE _ _ _ (fun b=> ?_))
  grind [CU,aV]
 case makeFunc fn first w=>
  grind [aV]
 case slice t x lo hi F=>
  grind [aV,ada]
 case fieldAddr t x f=>grind [dE,ade]
 case field t x f=>grind [dE,adf]
 case indexAddr t x i=>grind [dE,adb]
 case index t x i=>
  grind [dD,aV,dE]
 case extract x i=>
  grind [dE,aV]
 case call c=>
  obtain⟨j,z,A⟩:=c
  cases j<;>(try exact aV)
  case value f=>
   grind [dE,CS,aV]
  case builtin b=>
   cases b<;>(try exact aV)
   case len=>
    simp only
    split
    all_goals grind [dE,aV]
   case append=>
    simp only
    split
    all_goals grind [dE,adi,aV]
   case copy=>
    simp only
    split
    all_goals grind [dE,adh,aV]
   all_goals grind [Max.max,dE,aV,Min.min]
 all_goals exact aV
end
theorem adj {C:Ctx} {base:Nat} {o:Oper} {s:St} {K:St->Prop} (h:aY ci C base o s K):aJ (aY (ag St) C base o s some) K:=by
 grind [vE,ih]
theorem adk {β:Type} {Kf:β->Prop} (C:Ctx) (base:Nat) (o:Oper) (s:St) (k:St->Option β) (g:St->Prop) (h: ∀a,g a=aJ (k a) Kf):oz ci C base o s g=aJ (oz (ag β) C base o s k) Kf:=by
 have b:=vE C base o s k g h
 unfold oz
 cases C.deep with
 |false=>exact b
 |true=>
  simp only[aw]
  obtain⟨m,f,w,r,j,q⟩:=o
  cases f<;>simp only
  case load t p=>
   grind [dD,aV]
  case store t p v=>
   split
   ·split
    ·unfold BL
     split
     ·split
      ·refine CT _ (dD _ _ _ (fun _=> ?_)) aV
       unfold li
       grind [dD]
      ·exact aV
     ·exact aV
    ·exact b
   ·split
    ·unfold BM
     split
     ·split
      ·refine CT _ (dD _ _ _ (fun _=> ?_)) aV
       unfold li
       grind [dD]
      ·exact aV
     ·exact aV
    ·exact b
   ·exact b
  case slice t x lo hi e=>
   cases e with
   |some z=>exact b
   |none=>
    simp only
    split
    ·split
     ·refine CT _ (Ni _ _ _ _ _ (fun _ _=> ?_)) aV
      unfold uQ
      grind [dD,aV]
     ·exact b
    ·exact b
  case assign x=>
   grind [hI]
  case makeSlice t l c=>
   grind [dD,hI,aV]
  case buildSlice t n y=>
   split
   all_goals grind [hI,aV]
  case indexAddr t x i=>
   grind [dD,aV]
  case call c=>
   split
   ·grind
   ·split
    ·split
     ·unfold BK
      split
      ·grind [aV,dD]
      ·exact aV
     ·exact b
    ·exact b
   ·exact b
  all_goals exact b
theorem adl {β:Type} {Kf:β->Prop} (base:Nat) (o:Oper) (s:St) (q:uU) (k:St->Option β) (g:St->Prop) (h: ∀a,g a=aJ (k a) Kf):uV ci base o s g q=aJ (uV (ag β) base o s k q) Kf:=by
 cases q with
 |val b a=>exact dD _ _ _ (fun _=>h _)
 |BO u n=>exact dD _ _ _ (fun _=>hI _ _ _ _ _ (fun _=>h _))
 |arr u n=>exact hI s base (.seq u (replicate n u.zero)) _ _ (fun _=>h _)
theorem adm {β:Type} {Kf:β->Prop} (C:Ctx) (base:Nat) (o:Oper) (s:St) (k:St->Option β) (g:St->Prop) (h: ∀a,g a=aJ (k a) Kf):oB ci C base o s g=aJ (oB (ag β) C base o s k) Kf:=by
 unfold oB
 split
 all_goals grind [CS,aV,uT,dD,adl,adk]
theorem Nk {β:Type} {Kf:β->Prop} (C:Ctx) (base:Nat) (o:Oper) (s:St) (k:St->Option β) (g:St->Prop) (h: ∀a,g a=aJ (k a) Kf):fy ci C base o s g=aJ (fy (ag β) C base o s k) Kf:=by
 unfold fy
 cases jj C o s with
 |true=>grind [adm]
 |false=>
 simp only[au]
 split
 ·split
  all_goals grind [BS,CS,aV]
 ·exact aV
theorem adn {C:Ctx} {base:Nat} {o:Oper} {s:St} {K:St->Prop} (h:fy ci C base o s K):aJ (fy (ag St) C base o s some) K:=by
 grind [Nk,ih]
theorem ado {β:Type} {Kf:β->Prop} (C:Ctx) (calm:List Nat) (i base:Nat) (o:Oper) (s:St) (k:St->Option β) (g:St->Prop) (h: ∀a,g a=aJ (k a) Kf):cm ci C calm i base o s g=aJ (cm (ag β) C calm i base o s k) Kf:=by
 grind [cm,ck,Nk,vE,hI]
theorem adp {C:Ctx} {calm:List Nat} {i base:Nat} {o:Oper} {s:St} {K:St->Prop} (h:cm ci C calm i base o s K):aJ (cm (ag St) C calm i base o s some) K:=by
 grind [ado,ih]
theorem vF {l:List AV} {t:Nat} {x:AV} (h:l[t]? =some x):l.set t x=l:=by
 obtain⟨b,rfl⟩:=aO.1 h
 simp
theorem q2 (C:Ctx) (ops:List Oper) (b:List hb) (B0:Nat) (K:St->Prop): ∀(r:List Oper) (i:Nat) (s:St),hE C ops b B0 i r s K->aJ (ip C ops b B0 i r s) K
 |[],_,_,h=>show aJ (some _) K from .mk h
 |o::r,i,v,h=>by
  have step: ∀s:St,fy ci C (B0+i*width) o s (fun s'=>hE C ops b B0 (i+1) r s' K)->aJ ((fy (ag St) C (B0+i*width) o s some).bind (ip C ops b B0 (i+1) r)) K:=fun s h=>by
   rw[ov]
   exact mK (fun s' h'=>q2 C ops b B0 K r (i+1) s' h') (adn h)
  unfold hE at h
  unfold ip
  simp only at h⊢
  generalize dx C.k i b v=s at h⊢
  cases n:o.guard with
  |none=>
   simp_all
  |some q=>
   obtain⟨j,m⟩:=q
   simp only[n] at h⊢
   cases p:(ops[j]?).bind (·.dst) with
   |none=>simp_all
   |some t=>
    simp only[p] at h⊢
    split at h
    ·rename_i g f
     cases g with
     |true=>
      have e:({s with env:=s.env.set t (.aa .bool true)}:St)=s:=by rw[vF f]
      rw[e] at h
      cases m with
      |true=>simp_all
      |false=>simp only[aw,au] at h;rw[aG (by simp)];exact q2 C ops b B0 K r (i+1) _ h
     |false=>
      have e:({s with env:=s.env.set t (.aa .bool false)}:St)=s:=by rw[vF f]
      rw[e] at h
      cases m with
      |true=>simp only[aw,au] at h;rw[aG (by simp)];exact q2 C ops b B0 K r (i+1) _ h
      |false=>simp_all
    ·exact q2 C ops b B0 K r (i+1) _ h
    ·cases h
end Go.Rv
namespace Go.Rv
theorem adq {C:Ctx} {base:Nat} {o:Oper} {s:St} {k:St->Option St} {r:St} (h:aY (ag St) C base o s k=some r): ∃e,aY (ag St) C base o s some=some e/\k e=some r:=by
 have b:aJ (aY (ag St) C base o s k) (fun x=>x=r):=by rw[h];exact .mk rfl
 rw[<-vE C base o s k (fun a=>aJ (k a) (fun x=>x=r)) (fun _=>rfl)] at b
 have f:=adj b
 grind [BG]
theorem oT (C:Ctx) (ops:List Oper) (calm:List Nat) (B0:Nat) (K:St->Prop): ∀(r:List Nat) (s:St),jl C ops calm B0 r s K->aJ (ll C ops calm B0 r s) K
 |[],_,h=>show aJ (some _) K from .mk h
 |i::r,s,h=>by
  unfold jl at h
  unfold ll
  rw[ov]
  unfold bN
  cases p:ops[i]? with
  |none=>simp_all
  |some o=>
   simp only[p] at h⊢
   have step: ∀s:St,cond (bx C calm i o s) (cm ci C calm i (cl calm B0 i o s) o s fun s'=>jl C ops calm B0 r s' K) False->
     aJ (if bx C calm i o s=true then cm (ag St) C calm i (cl calm B0 i o s) o s some else none) (fun s'=>aJ (ll C ops calm B0 r s') K):=fun s h=>by
    cases m:bx C calm i o s with
    |false=>simp_all
    |true=>
     rw[m] at h
     simp only[cN]
     exact mK (fun s' h'=>oT C ops calm B0 K r s' h') (adp h)
   cases n:o.guard with
   |none=>
    simp_all
   |some v=>
    obtain⟨j,f⟩:=v
    simp only[n] at h⊢
    cases q:(ops[j]?).bind (·.dst) with
    |none=>simp_all
    |some t=>
     simp only[q] at h⊢
     split at h
     ·rename_i g b
      cases g with
      |true=>
       have e:({s with env:=s.env.set t (.aa .bool true)}:St)=s:=by rw[vF b]
       rw[e] at h
       cases f with
       |true=>simp_all
       |false=>simp only[aw,au] at h;rw[aG (by simp)];exact .mk (oT C ops calm B0 K r _ h)
      |false=>
       have e:({s with env:=s.env.set t (.aa .bool false)}:St)=s:=by rw[vF b]
       rw[e] at h
       cases f with
       |true=>simp only[aw,au] at h;rw[aG (by simp)];exact .mk (oT C ops calm B0 K r _ h)
       |false=>simp_all
     ·first|exact oT C ops calm B0 K r _ h|exact .mk (oT C ops calm B0 K r _ h)
     ·cases h
section
variable {C : Ctx} {ops : Array Oper} {calm : List Nat} {B0 : Nat}
theorem gE {o:Oper} {d:Tmp} (h:d∉o.looksAt ops):Operand.tmp d∉o.op.operands.toList:=fun b=>h (by
 grind [looksAt])
theorem Nl {o:Oper} {d t:Tmp} {j:Nat} {w:Bool} (h:d∉o.looksAt ops) (b:o.guard=some (j,w)) (f:(ops.toList[j]?).bind (·.dst)=some t):d≠t:=fun e=>h (by
 grind [looksAt,Bind.bind,dst])
theorem CV {o:Oper} {s:St} {d:Option Tmp} {a:AV} (b: ∀t,d=some t->Operand.tmp t∉o.op.operands.toList):dm C o (s.put d a)=dm C o s:=by
 have h: ∀x∈o.op.operands.toList,ay (s.put d a) x=ay s x:=fun x g=>hc (fun t f e=>b t f (e▸g))
 unfold dm
 split
 all_goals grind [ay,St.put,operands,Call.operands,cH,iC,vC]
theorem Nn {o:Oper} {s:St} {d:Option Tmp} {a:AV} (h: ∀t,d=some t->Operand.tmp t∉o.op.operands.toList):eK C o (s.put d a)=eK C o s:=by
 obtain⟨w,j,A,z,v,y⟩:=o
 unfold eK
 cases j<;>try rfl
 rename_i c
 obtain⟨i,g,m⟩:=c
 cases i<;>try rfl
 rename_i f
 have q: ∀x∈Operand.tmp 0::[],True:=fun _ _=>trivial
 have n:ay (s.put d a) f=ay s f:=hc (fun t b e=>h t b (e▸by simp[operands,Call.operands]))
 have p:cH (s.put d a) g.toList=cH s g.toList:=iC (fun x r=>hc (fun t b e=>h t b (e▸by grind [operands,Call.operands])))
 simp_all [mM,vC,cU]
theorem CW {o:Oper} {s:St} (h:dm C o s=[]):eK C o s=true:=by
 unfold eK
 unfold dm at h
 split
 ·rename_i c b
  rw[b] at h
  simp only at h
  split
  all_goals grind [mM]
 ·rfl
theorem No {o:Oper} {s:St} {d:Option Tmp} {a:AV} (b: ∀t,d=some t->Operand.tmp t∉o.op.operands.toList):is o (s.put d a)=is o s:=by
 have h: ∀x∈o.op.operands.toList,ay (s.put d a) x=ay s x:=fun x g=>hc (fun t f e=>b t f (e▸g))
 grind [is,ay,St.put,operands,Call.operands]
theorem Np {o:Oper} {s t:St} (h: ∀x∈o.op.operands.toList,ay t x=ay s x):it o t=it o s:=by
 grind [it,List.mem_cons_self,List.mem_cons_of_mem]
theorem Nq {o:Oper} {s:St} {d:Option Tmp} {a:AV} (b: ∀t,d=some t->Operand.tmp t∉o.op.operands.toList):it o (s.put d a)=it o s:=
 Np fun x g=>hc (fun t f e=>b t f (e▸g))
theorem adr {i:Nat} {o:Oper} {s:St} {d:Option Tmp} {a:AV}:cl calm B0 i o (s.put d a)=cl calm B0 i o s:=by
 unfold cl
 rw[cU]
theorem CX {j:Nat} {b:Oper} {s:St} (g:dO b.op=true->calm.contains j=true) (f:bx C calm j b s=true):dO b.op=true->is b s=true:=fun e=>by
 grind [bx,Bool.not_true]
theorem ads {o:Oper} {s:St} {d:Option Tmp} {a:AV} (b: ∀t,d=some t->Operand.tmp t∉o.op.operands.toList):ir C o (s.put d a)=ir C o s:=by
 grind [ir,CV,cU]
theorem Nr {o:Oper} {s:St} {d:Option Tmp} {a:AV} (b: ∀t,d=some t->Operand.tmp t∉o.op.operands.toList):fg C calm o (s.put d a)=fg C calm o s:=by
 unfold fg
 split
 all_goals grind [hc,operands,ads]
theorem CY {i:Nat} {o:Oper} {s t:St} (h: ∀x∈o.op.operands.toList,ay t x=ay s x):kb calm i o t=kb calm i o s:=by
 grind [kb,List.mem_cons_self,List.mem_cons_of_mem]
theorem q3 {o:Oper} {s:St} (b: ∀t x v,o.op≠ .store t x v) (f: ∀c,o.op= .call c->uX c.callee=false) (e:dm C o s=[]):fg C calm o s=true:=by
 grind [fg,absurd,ir,dw,reach]
theorem q4 {i:Nat} {o:Oper} {s:St} (h:ez o.op=false):kb calm i o s=true:=by
 grind [kb]
def q5 (calm:List Nat) (s t:St):Prop:= ∀g∈oC calm,∀r,s.heap[g]? =some (some r)->t.heap[g]? =some (some r)
theorem CZ {H:Heap} {base:Nat}: ∀{n:Nat},(∀j,j<n->H[base+j]? =some none)->lf H base n=true
 |0,_=>rfl
 |n+1,h=>by
  simp only[lf,aT]
  exact⟨by simp_all,CZ (fun j b=>h j (by omega))⟩
theorem Ns {T:TT} {s t:St} (h:RowsIn s t) {io:Bool} {ty:TypeId} {x a:AV} (b:ij s T io ty x=some a):ij t T io ty x=some a:=by
 unfold ij at*
 grind [RowsIn.row]
theorem Nt {s t:St} (h:RowsIn s t): ∀(cs l:List AV),ik s cs=some l->ik t cs=some l
 |[],_,b=>b
 |x::r,l,b=>by
  simp only[ik] at b⊢
  split at b
  ·rename_i a i f g
   have e:lb t x=some a:=by
    unfold lb at f⊢
    grind [Ns]
   rw[e,Nt h r i g]
   exact b
  ·cases b
theorem adt {T:TT} {s t:St} (h:RowsIn s t) {io:Bool} {ty:TypeId} {x a:AV} (b:jf s T io ty x=some a):jf t T io ty x=some a:=by
 unfold jf at b⊢
 grind [Option.map_eq_some_iff,Nt,Ns]
theorem Nu {s t:St} (h:RowsIn s t): ∀(cs l:List AV),il s cs=some l->il t cs=some l
 |[],_,b=>b
 |x::r,l,b=>by
  simp only[il] at b⊢
  split at b
  ·rename_i a i f g
   have e:lc t x=some a:=by
    unfold lc at f⊢
    grind [RowsIn.row]
   rw[e,Nu h r i g]
   exact b
  ·cases b
theorem C0 {T:TT} {s t:St} (h:RowsIn s t) {io:Nat->Bool}: ∀(xs:List AV) (n:Nat) (f:List TypeId) (l:List AV),ey s T io n f xs=some l->ey t T io n f xs=some l
 |[],_,_,_,b=>by
  grind [ey]
 |x::r,n,[],_,b=>by simp[ey] at b
 |x::r,n,ty::f,l,b=>by
  simp only[ey] at b⊢
  split at b
  ·rename_i a m g j
   have e:cond (io (n+uP)) (ld t x) (jf t T (io n) ty x)=some a:=by
    cases i:io (n+uP) with
    |true=>
     rw[i] at g
     simp only[aw] at g⊢
     unfold ld at g⊢
     grind [Nu,RowsIn.row]
    |false=>grind [adt]
   rw[e,C0 h r (n+1) f m j]
   exact b
  ·cases b
theorem adu {o:Oper} (m:oD o.op=true) {base:Nat} {s p:St} (hid:dm C o s=[]) (h:aY (ag St) C base o s some=some p):
  ∃(a:AV) (e:Heap),e.length<=width/\(∀n,n<width->s.heap[base+n]? =some none)/\p=(⟨s.env,fd (fx [] base) 0 e s.heap⟩:St).put o.dst a/\
   ∀t:St,(∀x∈o.op.operands.toList,ay t x=ay s x)->RowsIn s t->(∀n,n<width->t.heap[base+n]? =some none)->
    dm C o t=[]/\aY (ag St) C base o t some=some ((⟨t.env,fd (fx [] base) 0 e t.heap⟩:St).put o.dst a):=by
 obtain⟨a0,G,a3,a2,Z,a1⟩:=o
 cases G<;>(try cases m)
 rename_i c
 obtain⟨q,r,I⟩:=c
 cases q<;>(try cases m)
 rename_i f
 simp only[aY] at h⊢
 obtain⟨J,O,h⟩:=aI h
 split at h
 ·rename_i g first j
  split at h
  ·rename_i args K
   unfold eJ at h
   split at h
   ·cases h
   ·rename_i avs z
    have U:cj avs=[]:=by
     grind [dm]
    have V: ∀t:St,reach t.heap (t.heap.length+1) 0 (dw [] (cj avs))=[]:=fun t=>by
     grind [dw,reach]
    simp only at h
    generalize Q:reach s.heap (s.heap.length+1) 0 (dw [] (cj avs))=ids at h
    have i:ids=[]:=by simp_all
    subst i
    split at h
    ·rename_i b
     simp only[aT] at b
     obtain⟨x,Y,h⟩:=cr h
     rw[mJ] at h
     split at h
     ·rename_i L
      cases h
      have F:((C.ek g (da (place []) avs) (bJ s.heap [])).dec x).2.length<=width:=by
       simp_all
      refine⟨_,_,F,fun n D=>qP b.2 D,rfl,fun t X E A=> ?_⟩
      have v:ay t f=some (.fn g first j):=by
       grind [operands,Call.operands]
      have w:cH t r.toList=some args:=by
       grind [iC,operands,Call.operands]
      have y:=C0 E _ _ _ _ z
      refine⟨?_,?_⟩
      ·grind [dm]
      ·rw[v]
       simp only[lift,w]
       unfold eJ
       rw[y]
       simp only
       generalize R:reach t.heap (t.heap.length+1) 0 (dw [] (cj avs))=ids
       have i:ids=[]:=by simp_all
       subst i
       have M:(mL []&&jg t.heap [] []&&(cj avs).all (fun g=>([]:List Nat).contains g)&&(gC (first++args++j) avs).all (fun h=> !([]:List Nat).contains h)&&lf t.heap base width)=true:=by
        rw[CZ A]
        simp only[aT]
        exact⟨⟨⟨⟨rfl,rfl⟩,b.1.1.2⟩,b.1.2⟩,trivial⟩
       grind [bJ,ag,mJ,Trans.trans]
     ·cases h
    ·cases h
  ·cases h
 ·cases h
theorem vG {x:Nat}: ∀{l acc:List Nat},x∈acc->x∈dw acc l
 |[],acc,h=>h
 |y::l,acc,h=>by
  unfold dw
  split
  ·exact vG h
  ·exact vG (Cb _ h)
theorem C1 {H:Heap} {x:Nat}: ∀{n i:Nat} {acc:List Nat},x∈acc->x∈reach H n i acc
 |0,i,acc,h=>h
 |n+1,i,acc,h=>by
  unfold reach
  split
  ·exact h
  ·split
   ·exact C1 (vG h)
   ·exact C1 h
theorem Nv {H f:Heap} (R: ∀(h:Nat) (r:Row),H[h]? =some (some r)->f[h]? =some (some r)): ∀(n i:Nat) (acc:List Nat),(∀h∈reach H n i acc,∃r,H[h]? =some (some r))->reach f n i acc=reach H n i acc
 |0,i,acc,_=>rfl
 |n+1,i,acc,b=>by
  unfold reach at b⊢
  cases hi:acc[i]? with
  |none=>rfl
  |some g=>
   simp only[hi] at b⊢
   have j: ∃r,H[g]? =some (some r):=by
    refine b g ?_
    grind [List.mem_of_getElem?,C1,vG]
   obtain⟨r,e⟩:=j
   simp only[e] at b
   simp only[e,R g r e]
   exact Nv R n (i+1) _ b
theorem Nw {H b:Heap} (R: ∀(h:Nat) (r:Row),H[h]? =some (some r)->b[h]? =some (some r)) {ids:List Nat}: ∀{l:List Nat},jg H ids l=true->jg b ids l=true
 |[],_=>rfl
 |h::l,e=>by
  simp only[jg,aT] at e⊢
  refine⟨?_,Nw R e.2⟩
  grind
theorem adv {H b:Heap} (R: ∀(h:Nat) (r:Row),H[h]? =some (some r)->b[h]? =some (some r)) {ids:List Nat} (e: ∀g∈ids,∃r,H[g]? =some (some r)):bJ b ids=bJ H ids:=by
 grind [bJ,List.map_congr_left]
theorem Nx (f:Nat->Nat) {g:Nat}: ∀(b:Heap) (n:Nat) (H:Heap),(∃r,H[g]? =some (some r))-> ∃r,(fd f n b H)[g]? =some (some r)
 |[],n,H,h=>h
 |r::e,n,H,h=>by
  unfold fd
  refine Nx f e (n+1) _ ?_
  grind
theorem Ny {o:Oper} (w:oD o.op=true) {base:Nat} {s I:St} (b:eK C o s=true) (h:aY (ag St) C base o s some=some I):
  ∃(a:AV) (i:Heap) (ids:List Nat),ir C o s=ids/\(∀g∈ids,∃r,s.heap[g]? =some (some r))/\i.length<=ids.length+width/\(∀n,n<width->s.heap[base+n]? =some none)/\I=(⟨s.env,fd (fx ids base) 0 i s.heap⟩:St).put o.dst a/\
   ∀t:St,(∀x∈o.op.operands.toList,ay t x=ay s x)->RowsIn s t->t.heap.length=s.heap.length->(∀n,n<width->t.heap[base+n]? =some none)->
    eK C o t=true/\ir C o t=ids/\aY (ag St) C base o t some=some ((⟨t.env,fd (fx ids base) 0 i t.heap⟩:St).put o.dst a):=by
 obtain⟨D,a3,G,F,A,E⟩:=o
 cases a3<;>(try cases w)
 rename_i c
 obtain⟨J,j,q⟩:=c
 cases J<;>(try cases w)
 rename_i f
 simp only[aY] at h⊢
 obtain⟨a4,X,h⟩:=aI h
 split at h
 ·rename_i g first p
  split at h
  ·rename_i args U
   simp only[eK,X,U] at b
   unfold eJ at h
   unfold mM at b
   split at h
   ·cases h
   ·rename_i avs v
    rw[v] at b
    simp only at h b
    generalize Z:reach s.heap (s.heap.length+1) 0 (dw [] (cj avs))=ids at h b
    split at h
    ·rename_i m
     simp only[aT] at m
     obtain⟨x,a9,h⟩:=cr h
     rw[mJ] at h
     split at h
     ·rename_i a5
      cases h
      have z: ∀g∈ids,∃r,s.heap[g]? =some (some r):=fun g a7=>by
       grind [lq]
      have a2:((C.ek g (da (place ids) avs) (bJ s.heap ids)).dec x).2.length<=ids.length+width:=by
       simp_all
      have V:ir C ⟨D,.call ⟨.value f,j,q⟩,G,F,A,E⟩ s=ids:=by
       grind [ir,dm]
      refine⟨_,_,ids,V,z,a2,fun n a1=>qP m.2 a1,rfl,fun t a8 e a0 Y=> ?_⟩
      have K:ay t f=some (.fn g first p):=by
       grind [operands,Call.operands]
      have L:cH t j.toList=some args:=by
       grind [iC,operands,Call.operands]
      have M:=C0 e _ _ _ _ v
      have O:reach t.heap (t.heap.length+1) 0 (dw [] (cj avs))=ids:=by
       rw[a0,<-Z]
       exact Nv e _ _ _ (by simp_all)
      have Q:bJ t.heap ids=bJ s.heap ids:=adv e z
      have R:ir C ⟨D,.call ⟨.value f,j,q⟩,G,F,A,E⟩ t=ids:=by
       grind [ir,dm]
      refine⟨?_,R,?_⟩
      ·grind [eK,mM]
      ·rw[K]
       simp only[lift,L]
       unfold eJ
       rw[M]
       simp only
       generalize y:reach t.heap (t.heap.length+1) 0 (dw [] (cj avs))=b0
       rw[O] at y
       subst y
       rw[Q]
       have a6:(mL ids&&jg t.heap ids ids&&(cj avs).all (fun g=>ids.contains g)&&(gC (first++args++p) avs).all (fun h=> !ids.contains h)&&lf t.heap base width)=true:=by
        rw[CZ Y,Nw e m.1.1.1.2]
        simp_all
       grind [ag,mJ,Trans.trans]
     ·cases h
    ·cases h
  ·cases h
 ·cases h
theorem adw {T:TT} {s:St} {t:TypeId} {p v:AV} {K:St->Option St} {b:St} (h:fe (ag St) T s t p v K=some b): ∃g r,g∈p.ids/\K (s.setRow g r)=some b:=by
 unfold fe at h
 split at h
 ·cases h
 ·split at h
  ·split at h
   ·split at h
    ·split at h
     ·grind [AV.ids]
     ·cases h
    ·split at h
     ·obtain⟨_,_,h⟩:=cr h
      grind [AV.ids]
     ·cases h
    ·cases h
   ·cases h
  ·split at h
   ·split at h
    ·split at h
     ·split at h
      ·split at h
       ·grind [AV.ids]
       ·cases h
      ·cases h
     ·split at h
      ·split at h
       ·obtain⟨_,_,h⟩:=cr h
        grind [AV.ids]
       ·cases h
      ·cases h
     ·cases h
    ·split at h
     ·split at h
      ·grind [AV.ids]
      ·cases h
     ·cases h
    ·cases h
   ·cases h
theorem Nz {o:Oper} {s t:St} (h: ∀x∈o.op.operands.toList,ay t x=ay s x):hF C o t=hF C o s:=by
 grind [hF,Array.ext',operands,ay]
theorem adx {o:Oper} {s:St} (h:en o.op=false):hF C o s=none:=by
 obtain⟨f,b,j,i,e,g⟩:=o
 cases b<;>first|rfl|cases h
theorem kp {β:Type} {i base:Nat} {o:Oper} {s:St} {k:St->Option β} (e:calm.contains (i+ck)=false) (b:en o.op=false):cm (ag β) C calm i base o s k=aY (ag β) C base o s k:=by
 grind [cm,adx]
theorem q6 {β:Type} {i base:Nat} {o:Oper} {s:St} {k:St->Option β} (b:calm.contains (i+ck)=false):
  cm (ag β) C calm i base o s k=match(cond C.deep (hF C o s) none) with
   |some g=>cI (ag β) s base (.box [.ab g]) fun s'=>k (s'.put o.dst (.ab base))
   |none=>aY (ag β) C base o s k:=by
 grind [cm]
theorem ady {β:Type} {j base:Nat} {o:Oper} {s:St} {d:Option Tmp} {a:AV} (k:St->Option β) (g:calm.contains (j+ck)=false) (f:dO o.op=true->is o s=true) (b: ∀t,d=some t->Operand.tmp t∉o.op.operands.toList) (e: ∀t,d=some t->o.dst≠some t):
  cm (ag β) C calm j base o (s.put d a) k=cm (ag β) C calm j base o s (fun s'=>k (s'.put d a)):=by
 grind [q6,Nz,St.put,hc,hF,ac6,lw,put_comm]
theorem adz {j base:Nat} {o:Oper} {s:St} {k:St->Option St} {r:St} (e:calm.contains (j+ck)=false) (h:cm (ag St) C calm j base o s k=some r): ∃b,cm (ag St) C calm j base o s some=some b/\k b=some r:=by
 grind [q6,hF,adq,dP,cI]
theorem adA {i j:Nat} {m f:Oper} {a:AV} {s p:St} (F:ops[j]? =some f) (r:m.apart ops f=true) (G:dO f.op=true->calm.contains j=true) (J:calm.contains (j+ck)=false) (h:bN C ops.toList calm B0 j (s.put m.dst a)=some p):
  ∃q,bN C ops.toList calm B0 j s=some q/\p=q.put m.dst a:=by
 obtain⟨n,y,z⟩:=CB r
 have v:ops.toList[j]? =some f:=by grind
 have A:bx C calm j f (s.put m.dst a)=bx C calm j f s:=by
  unfold bx
  rw[CV (fun t b=>gE (n t b)),No (fun t b=>gE (n t b)),Nq (fun t b=>gE (n t b)),Nn (fun t b=>gE (n t b)),Nr (fun t b=>gE (n t b)),CY (s:=s) (t:=s.put m.dst a) (fun x w=>hc (fun t b e=>gE (n t b) (e▸w)))]
 have I: ∀{p},(if bx C calm j f (s.put m.dst a)=true then cm (ag St) C calm j (cl calm B0 j f (s.put m.dst a)) f (s.put m.dst a) some else none)=some p->
   ∃q,(if bx C calm j f s=true then cm (ag St) C calm j (cl calm B0 j f s) f s some else none)=some q/\p=q.put m.dst a:=fun {p} h=>by
  grind [adr,ady,CX,gE,adz]
 unfold bN at h⊢
 simp only[v] at h⊢
 split at h
 ·simp_all
 ·rename_i g K E
  split at h
  ·cases h
  ·rename_i t b
   have D:(s.put m.dst a).env[t]? =s.env[t]? :=by
    cases hd:m.dst<;>grind [Nl,St.put,List.getElem?_set_ne]
   grind [put_comm]
theorem NA {j base:Nat} {o:Oper} {s b:St} (m:calm.contains (j+ck)=false) (n:dO o.op=true->is o s=true) (h:cm (ag St) C calm j base o s some=some b):
  ∃(v:AV) (H:Heap),b=(⟨s.env,H⟩:St).put o.dst v/\ ∀(calm:List Nat) (i:Nat),ff calm i o.op=true->bx C calm i o s=true->jo s.heap H:=by
 rw[q6 m] at h
 cases e:cond C.deep (hF C o s) none with
 |none=>
  grind [ac7]
 |some g=>
  rw[e] at h
  obtain⟨f,h⟩:=dP h
  cases h
  exact⟨_,_,rfl,fun _ _ _ _=>q1 f⟩
theorem adB {j base:Nat} {o:Oper} {s p:St} (n:calm.contains (j+ck)=false) (D:dO o.op=true->calm.contains j=true) (m:bx C calm j o s=true) (h:cm (ag St) C calm j base o s some=some p):q5 calm s p:=fun g R r E=>by
 obtain⟨v,H,rfl,A⟩:=NA n (CX D m) h
 rw[cU]
 cases i:ff calm j o.op with
 |true=>exact A calm j i m g r E
 |false=>
  have V:fg C calm o s=true:=by
   grind [bx]
  have F:eK C o s=true:=by
   grind [bx]
  have Y:oC calm≠ []:=fun e=>by simp_all
  have y:en o.op=false:=by
   cases z:en o.op with
   |false=>rfl
   |true=>
    unfold en at z
    grind [ff]
  rw[kp n y] at h
  obtain⟨a4,I,a7,a6,a3,a5⟩:=o
  cases I<;>(try (simp[ff] at i;done))
  case store t x a9=>
   simp only[aY] at h
   obtain⟨a8,a0,h⟩:=aI h
   obtain⟨v1,a1,h⟩:=aI h
   grind [adw,St.setRow,Option.some.inj,cU,fg,List.all_eq_true,oC,List.getElem?_set_ne]
  case call c=>
   have G:oD (.call c)=true:=by
    obtain⟨w,J,K⟩:=c
    cases w with
    |value f=>rfl
    |builtin b=>
     grind [ff,dO,fg,uX]
    |_=>simp[ff] at i
   obtain⟨a,q,ids,M,U,a2,Q,O,_⟩:=Ny G F h
   have L:H=fd (fx ids base) 0 q s.heap:=by
    grind [cU]
   have Z:g∉ids:=fun X=>by
    grind [fg,List.all_eq_true,oC]
   grind [mX,List.getElem?_eq_some_iff,fx,List.mem_of_getElem?,List.getElem?_eq_none_iff]
theorem adC {j:Nat} {b:Oper} {s f:St} (D:ops[j]? =some b) (p:dO b.op=true->calm.contains j=true) (w:calm.contains (j+ck)=false) (h:bN C ops.toList calm B0 j s=some f):
  (∀t,b.dst≠some t->f.env[t]? =s.env[t]?)/\(ff calm j b.op=true->RowsIn s f)/\q5 calm s f:=by
 have x:ops.toList[j]? =some b:=by grind
 have n: ∀(v:AV) (H:Heap) (t:Tmp),b.dst≠some t->((⟨s.env,H⟩:St).put b.dst v).env[t]? =s.env[t]? :=fun v H t i=>by
  cases hd:b.dst<;>grind [St.put,List.getElem?_set_ne]
 have q:(if bx C calm j b s=true then cm (ag St) C calm j (cl calm B0 j b s) b s some else none)=some f->
   (∀t,b.dst≠some t->f.env[t]? =s.env[t]?)/\(ff calm j b.op=true->RowsIn s f)/\q5 calm s f:=fun h=>by
  split at h
  ·rename_i m
   have z:=adB w p m h
   obtain⟨v,H,rfl,A⟩:=NA w (CX p m) h
   refine⟨fun t i=>n v H t i,fun y g r e=> ?_,z⟩
   rw[cU]
   exact A calm j y m g r e
  ·cases h
 unfold bN at h
 simp only[x] at h
 split at h
 ·exact q h
 ·split at h
  ·cases h
  ·split at h
   ·split at h
    ·exact q h
    ·cases h
     exact⟨fun t i=>n _ _ t i,fun _ g r e=>by rw[cU];exact e,fun g _ r e=>by rw[cU];exact e⟩
   ·cases h
    exact⟨fun t i=>n _ _ t i,fun _ g r e=>by rw[cU];exact e,fun g _ r e=>by rw[cU];exact e⟩
   ·cases h
theorem adD {o:Oper} {s b:St} (e:en o.op=true) (h:aY (ag St) C s.heap.length o s some=some b):
  ∃a,b=s.put o.dst a/\ ∀t:St,(∀x∈o.op.operands.toList,ay t x=ay s x)->aY (ag St) C t.heap.length o t some=some (t.put o.dst a):=by
 obtain⟨v,g,z,y,r,w⟩:=o
 cases g<;>(try cases e)
 rename_i ty n A
 have f: ∀t:St,t.heap[t.heap.length]? =none:=fun t=>by simp
 simp only[aY,f] at h⊢
 split at h
 ·rename_i q l i j
  split at h
  ·rename_i u m
   split at h
   ·rename_i xs p
    split at h
    ·grind [gn,q0,operands]
    ·cases h
   ·cases h
  ·cases h
 ·cases h
def oneValue (calm:List Nat) (i:Nat) (o:Op):Bool:=ez o||(en o&&calm.contains i)
theorem adE {i:Nat} {o:Oper} {s e:St} (n:calm.contains (i+ck)=false) (b:oneValue calm i o.op=true) (h:cm (ag St) C calm i (cl calm B0 i o s) o s some=some e):
  ∃a,e=s.put o.dst a/\ ∀t:St,(∀x∈o.op.operands.toList,ay t x=ay s x)->(iq o.op=true\/it o s=true\/vA o s t)->cm (ag St) C calm i (cl calm B0 i o t) o t some=some (t.put o.dst a):=by
 simp only[oneValue,ev,aT] at b
 have v:ez o.op=true->en o.op=false:=fun b=>by
  obtain⟨y,p,D,A,w,z⟩:=o
  cases p<;>first|rfl|cases b
 rcases b with b|⟨q,r⟩
 ·grind [kp,acX]
 ·have f: ∀t:St,cl calm B0 i o t=t.heap.length:=fun t=>by
   grind [cl,en,absurd]
  rw[f,q6 n] at h
  cases j:cond C.deep (hF C o s) none with
  |some g=>
   rw[j] at h
   obtain⟨m,_⟩:=dP h
   simp at m
  |none=>
   grind [adD,q6,Nz]
theorem adF {i:Nat} {f:Oper} {s y:St} (hi:ops[i]? =some f) (L:calm.contains (i+ck)=false) (j:oneValue calm i f.op=true) (h:bN C ops.toList calm B0 i s=some y):
  ∃a,y=s.put f.dst a/\ ∀t:St,(∀x∈f.looksAt ops,t.env[x]? =s.env[x]?)->(iq f.op=true\/calm.contains i=true\/(calm.contains (i+mP)=true/\q5 calm s t)\/RowsIn s t)->bN C ops.toList calm B0 i t=some (t.put f.dst a):=by
 have I:ops.toList[i]? =some f:=by grind
 have Y:dO f.op=false:=by
  simp only[oneValue,ev,aT] at j
  unfold dO
  grind [ez,en]
 have U: ∀t,dm C f t=[]:=fun t=>by
  grind [dm,oneValue,ez,en]
 have a0: ∀t x v,f.op≠ .store t x v:=fun t x v e=>by
  grind [oneValue,ez,en]
 have Z: ∀c,f.op= .call c->uX c.callee=false:=fun c e=>by
  simp only[oneValue,ev,aT] at j
  rw[e] at j
  obtain⟨D,O,Q⟩:=c
  cases D with
  |builtin b=>cases b<;>first|rfl|simp[ez,en] at j
  |_=>rfl
 have A: ∀t,bx C calm i f t=((!calm.contains i||(!ez f.op||it f t))&&kb calm i f t):=fun t=>by
  grind [bx,CW,q3]
 have z: ∀t:St,(∀x∈f.looksAt ops,t.env[x]? =s.env[x]?)-> ∀x∈f.op.operands.toList,ay t x=ay s x:=fun t p x M=>by
  cases x with
  |tmp u=>
   refine p u ?_
   grind [looksAt]
  |_=>rfl
 have V:(if bx C calm i f s=true then cm (ag St) C calm i (cl calm B0 i f s) f s some else none)=some y->
   ∃a,y=s.put f.dst a/\ ∀t:St,(∀x∈f.looksAt ops,t.env[x]? =s.env[x]?)->(iq f.op=true\/calm.contains i=true\/(calm.contains (i+mP)=true/\q5 calm s t)\/RowsIn s t)->
    (if bx C calm i f t=true then cm (ag St) C calm i (cl calm B0 i f t) f t some else none)=some (t.put f.dst a):=fun h=>by
  split at h
  ·rename_i n
   obtain⟨a,E,F⟩:=adE L j h
   refine⟨a,E,fun t p m=> ?_⟩
   rw[A] at n
   have K:=Np (z t p)
   rw[A,K,CY (z t p),aA n]
   simp only[aT] at n
   obtain⟨n,w⟩:=n
   refine F t (z t p) ?_
   rcases m with m|m|⟨m,J⟩|m
   rotate_left 2
   ·unfold kb at w
    rw[m] at w
    cases q:ez f.op with
    |true=>
     rw[q] at w
     simp only[bo,kh] at w
     refine .inr (.inr fun x M a R g X r G=>J g ?_ r G)
     grind
    |false=>
     simp only[oneValue,q,kh,aT] at j
     unfold en at j
     split at j
     ·rename_i e
      rw[e];exact .inl rfl
     ·cases j.1
   ·exact .inr (.inr (m.acO f))
   ·exact .inl m
   ·rw[m] at n
    cases q:ez f.op with
    |true=>simp_all
    |false=>
     simp only[oneValue,q,kh,aT] at j
     unfold en at j
     split at j
     ·rename_i e
      rw[e];exact .inl rfl
     ·cases j.1
  ·cases h
 unfold bN at h⊢
 simp only[I] at h⊢
 split at h
 all_goals grind [looksAt,Bind.bind,dst]
def nb (C:Ctx) (ops:Array Oper) (calm:List Nat) (B0:Nat) (s':St):Nat->Array Bool->St->Prop
 |0,b,s=>ready .any ops b=[]/\s=s'
 |n+1,b,s=>(ready .any ops b=[]->s=s')/\ ∀i∈ready .any ops b,∃e,bN C ops.toList calm B0 i s=some e/\nb C ops calm B0 s' n (b.setIfInBounds i true) e
structure q7 (ops:Array Oper) (calm:List Nat) (listed:Array Bool) (i:Nat) (oi:Oper) (l:List Nat):Prop where
 off: ∀b∈l,listed.getD b true=false
 wait: ∀b∈l,∃ob,ops[b]? =some ob/\ ∃e∈ob.after,binds .any e=true/\(e.on=i\/e.on∈l)
 free: ∀(j:Nat) (oj:Oper),ops[j]? =some oj->j≠i->listed.getD j true=false->j∉l->
  oi.apart ops oj=true/\(iq oi.op=true\/calm.contains i=true\/calm.contains (i+mP)=true\/ff calm j oj.op=true)/\(dO oj.op=true->calm.contains j=true\/uY calm i oi=true)/\calm.contains (j+ck)=false
theorem adG {f:Array Bool} {i:Nat} {m:Oper} (h:BT ops calm f i m=true):q7 ops calm f i m (mQ ops f i):=by
 simp only[BT,aT] at h
 obtain⟨g,p⟩:=h
 refine⟨fun b e=> ?_,fun b e=> ?_,fun j w q v t r=> ?_⟩
 ·have n:=bQ.1 g b e
  simp_all
 ·have n:=bQ.1 g b e
  grind [waits,Array.any_eq_true',id]
 grind
theorem adH {i j:Nat} {f m:Oper} (hi:ops[i]? =some f) (D:uY calm i f=true) (d5:calm.contains (i+ck)=false) (c9:ops[j]? =some m) (a0:f.apart ops m=true) (d4:calm.contains (j+ck)=false)
  (w:dO m.op=true) {s V p:St} (h:bN C ops.toList calm B0 i s=some V) (h':bN C ops.toList calm B0 j V=some p):
  ∃n,bN C ops.toList calm B0 j s=some n/\bN C ops.toList calm B0 i n=some p:=by
 obtain⟨z,b2,b3⟩:=CB a0
 have c8:ops.toList[i]? =some f:=by grind
 have a3:ops.toList[j]? =some m:=by grind
 unfold uY at D
 split at D
 ·rename_i u a4
  simp only[aT,gl] at D
  obtain⟨⟨O,c3⟩,d1⟩:=D
  have O:f.guard=none:=by simpa using O
  have c1:en f.op=false:=by rw[a4];rfl
  have a9:u∈f.looksAt ops:=by
   grind [looksAt,operands]
  have R:m.dst≠some u:=fun e=>b3 u e a9
  have d0: ∀t,bx C calm i f t=true:=fun t=>by
   grind [dm,bx,CW,q3,kb]
  have Q: ∀t:St,bN C ops.toList calm B0 i t=(t.env[u]?).map (fun a=>t.put f.dst a):=fun t=>by
   grind [bN,kp,aY,lift,ay,ag]
  rw[Q] at h
  simp only[co] at h
  obtain⟨a,Z,rfl⟩:=h
  simp only[Q]
  have a6: ∀(t:St) (d:Option Tmp) (b:AV),d≠some u->(t.put d b).env[u]? =t.env[u]? :=fun t d b hd=>by
   cases d<;>grind [St.put,List.getElem?_set_ne]
  have M:en m.op=false:=by
   revert w
   cases m.op<;>intro w<;>first|rfl|cases w
  have c4: ∀{p:St},aY (ag St) C (B0+j*width) m (s.put f.dst a) some=some p-> ∃n,aY (ag St) C (B0+j*width) m s some=some n/\(n.env[u]?).map (fun a=>n.put f.dst a)=some p:=fun {p} h=>by
   have G: ∀x∈m.op.operands.toList,ay (s.put f.dst a) x=ay s x:=fun x A=>hc (fun t q e=>gE (z t q) (e▸A))
   obtain⟨E,b1,e0,d9,d7,d8⟩:=m
   simp only at w G R b2
   unfold aY at h⊢
   cases b1<;>(try cases w)
   rename_i c
   obtain⟨X,b6,b7⟩:=c
   cases X<;>(try cases w)
   rename_i b
   cases b<;>(try cases w)
   simp only at h⊢
   have fin: ∀{t:St} {v:AV} {p:St},t.env[u]? =some a->some ((t.put f.dst a).put E v)=some p-> ∃n,some (t.put E v)=some n/\(n.env[u]?).map (fun a=>n.put f.dst a)=some p:=fun {t v p} q e=>by
    grind [put_comm]
   have b9: ∀{g:Nat} {r:Row} {p:St},some ((((s.put f.dst a).aQ g).setRow g r).put E (.ab g))=some p-> ∃n,some (((s.aQ g).setRow g r).put E (.ab g))=some n/\(n.env[u]?).map (fun a=>n.put f.dst a)=some p:=fun {g r p} e=>by
    cases e
    refine⟨_,rfl,?_⟩
    rw[a6 _ E _ R]
    have Y:((s.aQ g).setRow g r).env[u]? =some (aQ g a):=by simp[St.setRow,St.aQ,Z]
    rw[Y,bn]
    congr 1
    have b8:((s.put f.dst a).aQ g).setRow g r=((s.aQ g).setRow g r).put f.dst (aQ g a):=by
     cases f.dst<;>grind [St.put,St.aQ,St.setRow,List.map_set]
    grind [put_comm]
   split at h
   ·rename_i x y t t2 L a7
    try simp only[L,a7]
    split at h
    ·rename_i a8
     try rw[aA a8]
     obtain⟨e3,A,h⟩:=aI h
     obtain⟨e4,U,h⟩:=aI h
     rw[G x (by simp[operands,Call.operands,L])] at A
     rw[G y (by simp[operands,Call.operands,L])] at U
     rw[A,U]
     simp only[lift]
     unfold jY at h⊢
     split at h
     ·rename_i d6 a2
      try simp only[a2]
      split at h
      ·rename_i e1 a5
       try simp only[a5]
       split at h
       ·rename_i a1
        try rw[aA a1]
        rw[CR] at h
        split at h
        ·rename_i ys b0
         try simp only[b0]
         split at h
         ·obtain⟨_,J,h⟩:=cr h
          rw[J]
          simp only[ag,ac]
          rw[lw] at h
          obtain⟨c6,h⟩:=dP h
          grind [cI,St.setRow]
         ·rename_i g
          rw[hH] at h
          split at h
          ·rename_i b4 xs K
           try simp only[K]
           split at h
           ·rename_i b5 F
            try simp only[F]
            split at h
            ·rename_i I
             try rw[aA I]
             obtain⟨_,J,h⟩:=cr h
             grind [ag]
            ·cases h
           ·cases h
          ·cases h
         ·rename_i g off len
          rw[hH] at h
          split at h
          ·rename_i b4 xs K
           try simp only[K]
           split at h
           ·rename_i b5 F
            try simp only[F]
            split at h
            ·rename_i I
             try rw[aA I]
             obtain⟨_,J,h⟩:=cr h
             grind [ag]
            ·cases h
           ·cases h
          ·cases h
         ·cases h
        ·cases h
       ·cases h
      ·cases h
     ·cases h
    ·cases h
   ·cases h
  have c2:bx C calm j m (s.put f.dst a)=bx C calm j m s:=by
   unfold bx
   rw[CV (fun t q=>gE (z t q)),No (fun t q=>gE (z t q)),Nq (fun t q=>gE (z t q)),Nn (fun t q=>gE (z t q)),Nr (fun t q=>gE (z t q)),CY (s:=s) (t:=s.put f.dst a) (fun x A=>hc (fun t q e=>gE (z t q) (e▸A)))]
  have c0: ∀t:St,cl calm B0 j m t=B0+j*width:=fun t=>by
   unfold cl
   split
   ·rename_i e;rw[e] at M;cases M
   ·rfl
  have d3: ∀{p},(if bx C calm j m (s.put f.dst a)=true then cm (ag St) C calm j (cl calm B0 j m (s.put f.dst a)) m (s.put f.dst a) some else none)=some p->
    ∃n,(if bx C calm j m s=true then cm (ag St) C calm j (cl calm B0 j m s) m s some else none)=some n/\(n.env[u]?).map (fun a=>n.put f.dst a)=some p:=fun {p} h=>by
   grind [kp]
  have d2: ∀{p:St},some ((s.put f.dst a).put m.dst (.ba []))=some p-> ∃n,some (s.put m.dst (.ba []))=some n/\(n.env[u]?).map (fun a=>n.put f.dst a)=some p:=fun {p} e=>by
   grind [put_comm]
  unfold bN at h'⊢
  simp only[a3] at h'⊢
  split at h'
  ·simp_all
  ·rename_i g e2 c7
   split at h'
   ·cases h'
   ·rename_i t q
    have c5:(s.put f.dst a).env[t]? =s.env[t]? :=by
     cases hd:f.dst<;>grind [Nl,St.put,List.getElem?_set_ne]
    grind
 ·cases D
theorem adI {s':St} {i:Nat} {q:Oper} (hi:ops[i]? =some q) (M:calm.contains (i+ck)=false) (L:oneValue calm i q.op=true):
  ∀(f:Nat) (e:Array Bool) (s r:St) (l:List Nat),q7 ops calm e i q l->i∈ready .any ops e->bN C ops.toList calm B0 i s=some r->
   nb C ops calm B0 s' f (e.setIfInBounds i true) r->nb C ops calm B0 s' (f+1) e s:=by
 intro f
 induction f with
 |zero=>
  intro e s r l _ y z H
  refine⟨fun h=>(by simp_all),fun j n=> ?_⟩
  by_cases p:j=i
  ·simp_all
  ·have:=qX n p
   rw[H.1] at this
   cases this
 |succ f a5=>
  intro e s r l m y z H
  refine⟨fun h=>(by simp_all),fun j n=> ?_⟩
  by_cases p:j=i
  ·simp_all
  ·obtain⟨Q,A,R⟩:=H.2 j (qX n p)
   obtain⟨G,t,x,X⟩:=vr.1 n
   have a0:e.getD i true=false:=(vr.1 y).1
   have F:j∉l:=fun a3=>by
    grind [q7.wait,q7.off,Nat.lt_or_ge,Array.size,Array.getElem?_eq_none]
   obtain⟨D,Y,w,O⟩:=m.free j t x p G F
   obtain⟨g,v,U⟩: ∃g,bN C ops.toList calm B0 j s=some g/\bN C ops.toList calm B0 i g=some Q:=by
    by_cases a1:dO t.op=true/\calm.contains j=false
    ·grind [adH]
    ·have w:dO t.op=true->calm.contains j=true:=fun h=>by
      simp_all
     obtain⟨a,rfl,V⟩:=adF hi M L z
     obtain⟨g,v,rfl⟩:=adA (i:=i) x D w O A
     grind [adC,Oper.apart_spec,id]
   refine⟨g,v,?_⟩
   have Z:q7 ops calm (e.setIfInBounds j true) i q l:=by
    refine⟨fun b E=> ?_,m.wait,fun k ok I J a4 K=>m.free k ok I J ?_ K⟩
    ·rw[getD_set_ne true (show j≠b by grind)]
     exact m.off b E
    ·by_cases a2:j=k
     all_goals simp_all
   grind [ready_mono,Array.setIfInBounds_comm]
theorem adJ {o:Op} (h:lk o=true):(∃e,o= .alloc e)\/ ∃t l c,o= .makeSlice t l c:=by
 cases o<;>first|exact .inl ⟨_,rfl⟩|exact .inr ⟨_,_,_,rfl⟩|cases h
theorem NB {o:Oper} (p:lk o.op=true) {base:Nat} {s j:St} (h:aY (ag St) C base o s some=some j):
  ∃(R:Row) (v:AV),s.heap[base]? =some none/\j=(s.setRow base R).put o.dst v/\
   ∀t:St,(∀x∈o.op.operands.toList,ay t x=ay s x)->t.heap[base]? =some none->aY (ag St) C base o t some=some ((t.setRow base R).put o.dst v):=by
 obtain⟨i,E,U,Q,M,O⟩:=o
 have G: ∀(v:AV) (t:St),t.heap[base]? =some none-> ∀r:Row,cI (ag St) t base r (fun s'=>some (s'.put i v))=some ((t.setRow base r).put i v):=fun v t z r=>by
  grind [cI]
 cases E<;>(try cases p)
 case alloc e=>
  simp only[aY] at h⊢
  split at h
  ·rename_i X L
   split at h
   ·rename_i n F w
    split at h
    ·rename_i D q
     split at h
     ·rename_i u A
      split at h
      ·rename_i g
       obtain⟨b,f⟩:=dP h
       grind
      ·cases h
     ·cases h
    ·cases h
   ·rename_i w
    split at h
    ·rename_i g
     obtain⟨b,f⟩:=dP h
     grind
    ·cases h
  ·cases h
 case makeSlice ty l c=>
  simp only[aY] at h⊢
  split at h
  ·rename_i D k1 n k2 m q J I
   split at h
   ·rename_i u A
    split at h
    ·rename_i g
     simp only[ag] at h
     cases y:mk n m with
     |none=>simp_all
     |some V=>
      rw[y] at h
      simp only[ac] at h
      obtain⟨b,f⟩:=dP h
      cases f
      refine⟨_,_,b,rfl,fun t K z=> ?_⟩
      simp_all [operands,aA,ag,ac]
    ·cases h
   ·cases h
  ·cases h
theorem adK {T:TT} {s:St} {ty:TypeId} {p v:AV} {d:Option Tmp} {q:St} (h:fe (ag St) T s ty p v (fun s'=>some (s'.put d .undef))=some q):
  ∃g r,(∃z,s.heap[g]? =some (some z))/\q=(s.setRow g r).put d .undef/\ ∀t:St,RowsIn s t->fe (ag St) T t ty p v (fun s'=>some (s'.put d .undef))=some ((t.setRow g r).put d .undef):=by
 unfold fe at h⊢
 split at h
 ·cases h
 ·split at h
  ·rename_i f
   split at h
   ·split at h
    ·rename_i b
     split at h
     ·rename_i i
      cases h
      refine⟨_,_,⟨_,bk b⟩,rfl,fun t e=> ?_⟩
      rw[aA f]
      simp only[e.row b]
      grind
     ·cases h
    ·rename_i b
     split at h
     ·rename_i i
      obtain⟨y,n,h⟩:=cr h
      cases h
      refine⟨_,_,⟨_,bk b⟩,rfl,fun t e=> ?_⟩
      rw[aA f]
      simp only[e.row b]
      grind [ag]
     ·cases h
    ·cases h
   ·cases h
  ·rename_i f
   split at h
   ·rename_i j
    split at h
    ·split at h
     ·rename_i b
      split at h
      ·rename_i x m
       split at h
       ·rename_i i
        cases h
        refine⟨_,_,⟨_,bk b⟩,rfl,fun t e=> ?_⟩
        rw[aG f,aA j]
        simp only[e.row b,m]
        grind
       ·cases h
      ·cases h
     ·rename_i b
      split at h
      ·rename_i u w
       split at h
       ·rename_i x m
        obtain⟨y,n,h⟩:=cr h
        cases h
        refine⟨_,_,⟨_,bk b⟩,rfl,fun t e=> ?_⟩
        rw[aG f,aA j]
        simp only[e.row b,w,m,ag,n,ac]
       ·cases h
      ·cases h
     ·cases h
    ·split at h
     ·rename_i b
      split at h
      ·rename_i i
       cases h
       refine⟨_,_,⟨_,bk b⟩,rfl,fun t e=> ?_⟩
       rw[aG f,aA j]
       simp only[e.row b]
       grind
      ·cases h
     ·cases h
    ·cases h
   ·cases h
theorem adL {i:Nat} {b:Oper} {s m:St} (hi:ops[i]? =some b) (J:calm.contains (i+ck)=false) (f:Mx b.op=true) (A:b.guard=none) (h:bN C ops.toList calm B0 i s=some m):
  ∃g r,(∃L,s.heap[g]? =some (some L))/\m=(s.setRow g r).put b.dst .undef/\ ∀t:St,(∀x∈b.op.operands.toList,ay t x=ay s x)->RowsIn s t->bN C ops.toList calm B0 i t=some ((t.setRow g r).put b.dst .undef):=by
 have D:ops.toList[i]? =some b:=by grind
 obtain⟨ty,p,v,e⟩: ∃ty p v,b.op= .store ty p v:=by
  revert f
  cases b.op<;>intro f<;>first|exact⟨_,_,_,rfl⟩|cases f
 have y: ∀t,cl calm B0 i b t=B0+i*width:=fun t=>by simp[cl,e]
 have F: ∀t,bx C calm i b t=fg C calm b t:=fun t=>by
  grind [bx,q4,dm,dO,ez,eK]
 have z:en b.op=false:=by rw[e];rfl
 unfold bN at h⊢
 simp only[D,A,y,F,kp J z] at h⊢
 split at h
 ·rename_i M
  have j: ∀t:St,aY (ag St) C (B0+i*width) b t some=lift (ag St) (ay t p) fun p=>lift (ag St) (ay t v) fun v=>fe (ag St) C.T t ty p v fun s'=>some (s'.put b.dst .undef):=fun t=>by
   obtain⟨V,Y,a0,Z,U,X⟩:=b
   simp only at e
   subst e
   rfl
  rw[j] at h
  obtain⟨K,O,h⟩:=aI h
  obtain⟨v1,R,h⟩:=aI h
  obtain⟨g,r,G,rfl,w⟩:=adK h
  refine⟨g,r,G,rfl,fun t Q I=> ?_⟩
  have n:ay t p=some K:=by grind [operands]
  have q:ay t v=some v1:=by grind [operands]
  have E:fg C calm b t=true:=by
   grind [fg,absurd]
  rw[aA E,j,n,q]
  exact w t I
 ·cases h
theorem C2 (f:Nat->Nat) (b:Nat) (z:Option Row): ∀(e:Heap) (n:Nat) (H:Heap),(∀(j:Nat) r,e[j]? =some (some r)->f (n+j)≠b)->fd f n e (H.set b z)=(fd f n e H).set b z
 |[],_,_,_=>rfl
 |r::i,n,H,h=>by
  simp only[fd]
  have g:=fun H=>C2 f b z i (n+1) H (fun j x p=>by
   have:=h (j+1) x (by grind)
   grind)
  cases r with
  |none=>exact g H
  |some x=>
   have m:f n≠b:=by
    have:=h 0 x rfl
    omega
   grind [List.set_comm]
theorem nc {j:Nat} {b:Oper} {s:St} (q:ops[j]? =some b) (n:calm.contains (j+ck)=false) (p:lk b.op=true) (i:b.guard=none):
  bN C ops.toList calm B0 j s=aY (ag St) C (B0+j*width) b s some:=by
 have m:ops.toList[j]? =some b:=by grind
 rcases adJ p with⟨e,f⟩|⟨t,l,c,f⟩
 ·have h:bx C calm j b s=true:=by
   grind [bx,q3,dm,q4,dO,ez,eK]
  have g:cl calm B0 j b s=B0+j*width:=by simp[cl,f]
  unfold bN
  simp only[m,i,h,g,cN]
  exact kp n (by rw[f];rfl)
 ·have h:bx C calm j b s=true:=by
   grind [bx,q3,dm,q4,dO,ez,eK]
  have g:cl calm B0 j b s=B0+j*width:=by simp[cl,f]
  unfold bN
  simp only[m,i,h,g,cN]
  exact kp n (by rw[f];rfl)
theorem adM {i:Nat} {b:Oper} {s p:St} (hi:ops[i]? =some b) (J:calm.contains (i+ck)=false) (g:oD b.op=true) (y:calm.contains i=true) (F:b.guard=none) (h:bN C ops.toList calm B0 i s=some p):
  dm C b s=[]/\aY (ag St) C (B0+i*width) b s some=some p/\ ∀t:St,dm C b t=[]->bN C ops.toList calm B0 i t=aY (ag St) C (B0+i*width) b t some:=by
 have G:ops.toList[i]? =some b:=by grind
 have j: ∃c,b.op= .call c/\ ∃f,c.callee= .value f:=by
  revert g
  cases b.op<;>intro g<;>(try cases g)
  rename_i c
  refine⟨c,rfl,?_⟩
  obtain⟨q,A,D⟩:=c
  cases q<;>(try cases g)
  simp_all
 obtain⟨c,j,f,z⟩:=j
 have w:dO b.op=false:=by grind [dO]
 have n:ez b.op=false:=by grind [ez]
 have E: ∀t,cl calm B0 i b t=B0+i*width:=fun t=>by simp[cl,j]
 have I: ∀t,bx C calm i b t=(dm C b t).isEmpty:=fun t=>by
  unfold bx
  rw[y,w,n,q4 n]
  cases m:dm C b t with
  |nil=>rw[CW m,q3 (fun t x v e=>by simp_all) (fun c e=>by rw[j] at e;cases e;rw[z];rfl) m];rfl
  |cons x r=>rfl
 grind [en,bN,kp]
theorem adN {i:Nat} {b:Oper} {s j:St} (hi:ops[i]? =some b) (y:calm.contains (i+ck)=false) (e:oD b.op=true) (r:calm.contains i=false) (w:b.guard=none) (h:bN C ops.toList calm B0 i s=some j):
  eK C b s=true/\fg C calm b s=true/\aY (ag St) C (B0+i*width) b s some=some j/\ ∀t:St,eK C b t=true->fg C calm b t=true->bN C ops.toList calm B0 i t=aY (ag St) C (B0+i*width) b t some:=by
 have x:ops.toList[i]? =some b:=by grind
 have g: ∃c,b.op= .call c/\ ∃f,c.callee= .value f:=by
  revert e
  cases b.op<;>intro e<;>(try cases e)
  rename_i c
  refine⟨c,rfl,?_⟩
  obtain⟨m,n,p⟩:=c
  cases m<;>(try cases e)
  simp_all
 obtain⟨c,g,f,v⟩:=g
 have q: ∀t,cl calm B0 i b t=B0+i*width:=fun t=>by simp[cl,g]
 grind [bx,eK,fg,q4,ez,en,bN,kp]
theorem q8 {i j n:Nat} (e:i≠j) (b:n<width):B0+i*width+n≠B0+j*width:=by
 grind [width]
theorem adO {i j:Nat} {h f:Oper} {s b0 b1:St} (I:calm.contains (i+ck)=false) (J:calm.contains (j+ck)=false) (hi:ops[i]? =some h) (E:ops[j]? =some f) (F:i≠j) (a7:uZ calm i h.op=true) (A:h.guard=none)
  (q:lk f.op=true) (D:f.guard=none) (b4:h.apart ops f=true) (y:bN C ops.toList calm B0 i s=some b0) (a5:bN C ops.toList calm B0 j b0=some b1):
  ∃a9,bN C ops.toList calm B0 j s=some a9/\bN C ops.toList calm B0 i a9=some b1:=by
 obtain⟨e1,c6,e2⟩:=CB b4
 rw[nc E J q D] at a5
 obtain⟨R,K,d5,rfl,M⟩:=NB q a5
 have a8: ∀(u:St) (v:AV) (x:Operand),x∈f.op.operands.toList->ay (u.put h.dst v) x=ay u x:=fun u v x m=>by
  grind [hc,looksAt]
 have e0: ∀(u:St) (v:AV) (x:Operand),x∈h.op.operands.toList->ay (u.put f.dst v) x=ay u x:=fun u v x m=>by
  grind [hc,looksAt]
 have e5: ∀(u:St) (b:Nat) (r:Row) (x:Operand),ay (u.setRow b r) x=ay u x:=fun u b r x=>by cases x<;>rfl
 have d4: ∀t,f.dst=some t->h.dst≠some t:=fun t c8 b7=>c6 t b7 c8
 simp only[uZ,ev] at a7
 rcases a7 with(V|w)|c7
 rotate_right
 ·obtain⟨g,r,⟨e6,e4⟩,rfl,G⟩:=adL hi I c7 A y
  have d7:g≠B0+j*width:=fun e=>by
   grind [cU,St.setRow,List.getElem?_set_self,List.getElem?_eq_some_iff]
  have p:s.heap[B0+j*width]? =some none:=by
   grind [cU,St.setRow,List.getElem?_set_ne]
  refine⟨_,(nc E J q D).trans (M s (fun x m=>by simp_all) p),?_⟩
  rw[G _ (fun x m=>by simp_all) (fun b2 d0 b9=>by
   rw[cU]
   exact q1 p b2 d0 b9)]
  grind [na,put_comm,St.setRow,List.set_comm]
 ·rw[nc hi I V A] at y
  obtain⟨Q,e7,d6,rfl,b3⟩:=NB V y
  have d2:B0+i*width≠B0+j*width:=q8 (n:=0) F (by unfold width;omega)
  have p:s.heap[B0+j*width]? =some none:=by
   grind [cU,St.setRow,List.getElem?_set_ne]
  refine⟨_,(nc E J q D).trans (M s (fun x m=>by simp_all) p),?_⟩
  rw[nc hi I V A,b3 _ (fun x m=>by simp_all) (by
   grind [cU,St.setRow,List.getElem?_set_ne])]
  grind [na,put_comm,St.setRow,List.set_comm]
 ·cases a6:calm.contains i with
  |true=>
   obtain⟨hid,Y,G⟩:=adM hi I w a6 A y
   obtain⟨a,L,c9,b8,rfl,X⟩:=adu w hid Y
   have a1: ∀(k:Nat) r,L[k]? =some (some r)->fx [] (B0+i*width) (0+k)≠B0+j*width:=fun k r a0=>by
    have c2:=(aO.1 a0).1
    simp only[fx,List.getElem?_nil,ot,ix,CC]
    exact q8 F (by omega)
   have p:s.heap[B0+j*width]? =some none:=by
    grind [cU,mX]
   have a4:=M s (fun x m=>by rw[a8 _ _ x m];cases x<;>rfl) p
   refine⟨_,(nc E J q D).trans a4,?_⟩
   have Z: ∀x∈h.op.operands.toList,ay ((s.setRow (B0+j*width) R).put f.dst K) x=ay s x:=fun x m=>by
    simp_all
   have a3:RowsIn s ((s.setRow (B0+j*width) R).put f.dst K):=fun g r z=>by
    rw[cU]
    exact q1 p g r z
   obtain⟨O,U⟩:=X _ Z a3 (fun n a2=>by
    rw[cU]
    simp only[St.setRow]
    rw[hw (fU (q8 F a2))]
    grind)
   rw[G _ O,U]
   rw[cU,na]
   simp only[St.setRow]
   rw[C2 _ _ _ _ _ _ a1]
   congr 1
   cases b5:h.dst with
   |none=>cases f.dst<;>rfl
   |some d=>
    cases b6:f.dst<;>grind [St.put,List.set_comm]
  |false=>
   obtain⟨c5,c1,Y,G⟩:=adN hi I w a6 A y
   obtain⟨a,L,ids,d3,c0,c9,b8,rfl,X⟩:=Ny w c5 Y
   have d8:B0+j*width∉ids:=fun c4=>by
    obtain⟨r,e3⟩:=Nx (fx ids (B0+i*width)) L 0 s.heap (c0 _ c4)
    grind [cU]
   have a1: ∀(k:Nat) r,L[k]? =some (some r)->fx ids (B0+i*width) (0+k)≠B0+j*width:=fun k r a0=>by
    have c2:=(aO.1 a0).1
    rw[ix]
    unfold fx
    cases z:ids[k]? with
    |some g=>grind
    |none=>
     have:=MQ.1 z
     exact q8 F (by omega)
   have p:s.heap[B0+j*width]? =some none:=by
    grind [cU,mX]
   have a4:=M s (fun x m=>by rw[a8 _ _ x m];cases x<;>rfl) p
   refine⟨_,(nc E J q D).trans a4,?_⟩
   have Z: ∀x∈h.op.operands.toList,ay ((s.setRow (B0+j*width) R).put f.dst K) x=ay s x:=fun x m=>by
    simp_all
   have a3:RowsIn s ((s.setRow (B0+j*width) R).put f.dst K):=fun g r z=>by
    rw[cU]
    exact q1 p g r z
   obtain⟨O,d1,U⟩:=X _ Z a3 (by rw[cU];simp[St.setRow]) (fun n a2=>by
    rw[cU]
    simp only[St.setRow]
    rw[hw (fU (q8 F a2))]
    grind)
   have c3:fg C calm h ((s.setRow (B0+j*width) R).put f.dst K)=true:=by
    have d9: ∀t x v,h.op≠ .store t x v:=fun t x v e=>by rw[e] at w;cases w
    unfold fg at c1⊢
    split
    all_goals grind
   rw[G _ O c3,U]
   rw[cU,na]
   simp only[St.setRow]
   rw[C2 _ _ _ _ _ _ a1]
   congr 1
   cases b5:h.dst with
   |none=>cases f.dst<;>rfl
   |some d=>
    cases b6:f.dst<;>grind [St.put,List.set_comm]
theorem adP {s':St} {i:Nat} {q:Oper} (hi:ops[i]? =some q) (V:calm.contains (i+ck)=false) (R:uZ calm i q.op=true) (I:q.guard=none):
  ∀(n:Nat) (f:Array Bool) (s r:St) (l:List Nat),(∀b∈l,f.getD b true=false)->(∀b∈l,∃y,ops[b]? =some y/\ ∃e∈y.after,binds .any e=true/\(e.on=i\/e.on∈l))->
   (∀(j:Nat) (m:Oper),ops[j]? =some m->j≠i->f.getD j true=false->j∉l->q.apart ops m=true/\lk m.op=true/\m.guard=none/\calm.contains (j+ck)=false)->
   i∈ready .any ops f->bN C ops.toList calm B0 i s=some r->
   nb C ops calm B0 s' n (f.setIfInBounds i true) r->nb C ops calm B0 s' (n+1) f s:=by
 intro n
 induction n with
 |zero=>
  intro f s r l _ _ _ t x H
  refine⟨fun h=>(by simp_all),fun j p=> ?_⟩
  by_cases g:j=i
  ·simp_all
  ·have:=qX p g
   rw[H.1] at this
   cases this
 |succ n Y=>
  intro f s r l a5 U v t x H
  refine⟨fun h=>(by simp_all),fun j p=> ?_⟩
  by_cases g:j=i
  ·simp_all
  ·obtain⟨a7,A,Z⟩:=H.2 j (qX p g)
   obtain⟨L,m,w,a0⟩:=vr.1 p
   have a2:f.getD i true=false:=(vr.1 t).1
   have K:j∉l:=fun a4=>by
    grind
   obtain⟨G,F,J,X⟩:=v j m w g L K
   obtain⟨z,D,E⟩:=adO V X hi w (fU g) R I F J G x A
   refine⟨z,D,?_⟩
   refine Y (f.setIfInBounds j true) z _ l (fun b a1=> ?_) U (fun k ok M O a6 Q=>v k ok M O ?_ Q) (qX t (fU g)) E ?_
   ·rw[getD_set_ne true (show j≠b by grind)]
    grind
   ·by_cases a3:j=k
    all_goals simp_all
   grind [Array.setIfInBounds_comm]
theorem adQ {f:Array Bool} {i:Nat} {r:Oper} (h:BU ops calm f i r=true):
  (∀b∈mQ ops f i,f.getD b true=false)/\(∀b∈mQ ops f i,∃q,ops[b]? =some q/\ ∃e∈q.after,binds .any e=true/\(e.on=i\/e.on∈mQ ops f i))/\
   (∀(j:Nat) (g:Oper),ops[j]? =some g->j≠i->f.getD j true=false->j∉mQ ops f i->r.apart ops g=true/\lk g.op=true/\g.guard=none/\calm.contains (j+ck)=false):=by
 simp only[BU,aT] at h
 obtain⟨p,t⟩:=h
 refine⟨fun b m=> ?_,fun b m=> ?_,fun j g v z y x=> ?_⟩
 ·have n:=bQ.1 p b m
  simp_all
 ·have n:=bQ.1 p b m
  grind [waits,Array.any_eq_true',id]
 ·have w:j<ops.size:=(jd.1 v).1
  have n:=bQ.1 t j (fh.2 w)
  simp_all
theorem NC {s':St}: ∀(order:List Nat) (e:Array Bool) (s:St),qB ops calm order e=true->ll C ops.toList calm B0 order s=some s'->nb C ops calm B0 s' order.length e s
 |[],e,s,f,h=>by
  simp only[ll,ew] at h
  simp only[qB,Cj] at f
  exact⟨f,h⟩
 |i::r,e,s,f,h=>by
  simp only[ll] at h
  obtain⟨n,p,t⟩:=cr h
  simp only[qB,aT,ev,cb] at f
  obtain⟨⟨E,b⟩,v⟩:=f
  have H:=NC r _ n v t
  have q:i∈ready .any ops e:=by grind
  rcases b with(b|b)|b
  rotate_right
  ·cases g:ops[i]? with
   |none=>simp_all
   |some z=>
    rw[g] at b
    simp only[aT] at b
    have m:calm.contains (i+ck)=false:=by simp_all
    obtain⟨w,x,y⟩:=adQ b.1.2
    exact adP g m b.1.1.1 (by simp_all) r.length e s n _ w x y q p H
  ·refine⟨fun A=>(by simp_all),fun j D=> ?_⟩
   simp_all
  ·cases g:ops[i]? with
   |none=>simp_all
   |some z=>
    rw[g] at b
    simp only[aT] at b
    have m:calm.contains (i+ck)=false:=by simp_all
    exact adI g m b.1.1 r.length e s n _ (adG b.1.2) q p H
end
section
variable {P : Program} {B : ce} {C : Ctx}
theorem ND {s:St} {a:Act} {w:World} {ops:Array Oper} {j:Nat} {t:Tmp} {g:Bool} (f:bc B s a w) (m:(ops.toList[j]?).bind (·.dst)=some t) (h:s.env[t]? =some (.aa .bool g)):yielded ops a.tmps j=some g:=by
 obtain⟨_,ι,b⟩:=f
 obtain⟨v,n,i⟩:=b.env t _ h
 have e:=oG i
 grind [Bind.bind,dst,yielded]
theorem vH {s:St} {a:Act} {w:World} (e:bc B s a w) (d:Option Tmp):bc B (s.put d (.ba [])) (a.put d undef) w:=by
 obtain⟨hd,ι,b⟩:=e
 exact⟨by cases d<;>exact hd,ι,b.put d (a:= .ba []) (v:=undef) ⟨[],rfl,rfl⟩ a.defers⟩
theorem NE {s:St} {a:Act} {w:World} {ops:Array Oper} {j:Nat} {t:Tmp} (f:bc B s a w) (h:(ops.toList[j]?).bind (·.dst)=some t) (g:s.env[t]? =some (.ba [])):yielded ops a.tmps j=none:=by
 obtain⟨_,ι,b⟩:=f
 obtain⟨v,i,vs,e,m⟩:=b.env t _ g
 grind [Bind.bind,dst,yielded]
theorem bc.drew {s:St} {a:Act} {w:World} (h:bc B s a w):bc B s a {w with drawn:=w.drawn+1}:=by
 obtain⟨hd,ι,b⟩:=h
 exact⟨hd,ι,b.drew _⟩
theorem adR (r:fD P C) (x:C.k=B.k) (y: ∀g,C.mv.contains g=true->B.mv g=true) {ops:Array Oper} {calm:List Nat} {B0 i:Nat} {s b:St} {a:Act} {w:World} (h:bN C ops.toList calm B0 i s=some b) (f:bc B s a w) (Q:Exit->Act->World->Prop):
  wpOp P ops Q i (fun e w'=>bc B b e w') a w:=by
 unfold bN at h
 cases n:ops[i]? with
 |none=>
  simp_all
 |some o=>
  have p:ops.toList[i]? =some o:=by grind
  simp only[p] at h
  unfold wpOp
  simp only[n]
  have step:(if bx C calm i o s=true then cm (ag St) C calm i (cl calm B0 i o s) o s some else none)=some b->o.wp P a w (fun e w'=>bc B b e w') Q:=fun h=>by
   grind [bx,acM,abF]
  split at h
  ·grind [wanted,step]
  ·rename_i j A v
   split at h
   ·cases h
   ·rename_i t q
    split at h
    ·rename_i g m
     have z:=ND f q m
     grind [wanted,step,Bool.false_eq_true,vH]
    all_goals grind [NE,wanted,Bool.false_eq_true,vH]
theorem NF (m:fD P C) (p:C.k=B.k) (q: ∀g,C.mv.contains g=true->B.mv g=true) {ops:Array Oper} {calm:List Nat} {B0:Nat} {s':St} (Q:Exit->Act->World->Prop) (f: ∀a w,bc B s' a w->Q .normal a w):
  ∀(j:Nat) (e:Array Bool) (s:St) (a:Act) (w:World),nb C ops calm B0 s' j e s->bc B s a w->wpAny P .any ops Q j e a w
 |0,e,s,a,w,h,b=>⟨h.1,f a w (h.2▸b)⟩
 |n+1,e,s,a,w,h,b=>⟨fun t=>f a w (h.1 t▸b),fun i hi=>by
   obtain⟨z,v,x⟩:=h.2 i hi
   exact wpOp_mono (fun r w' y=>NF m p q Q f n _ z r w' x y) (adR m p q v b Q)⟩
theorem adS (e:fD P C) (j:C.k=B.k) (m: ∀g,C.mv.contains g=true->B.mv g=true) {ops:Array Oper} {calm order:List Nat} {B0:Nat} {s s':St} {a:Act} {w:World} (b:u0 ops calm order=true)
  (h:ll C ops.toList calm B0 order s=some s') (i:bc B s a w) (Q:Exit->Act->World->Prop) (f: ∀a w,bc B s' a w->Q .normal a w):wpAny P .any ops Q ops.size (Array.replicate ops.size false) a w:=by
 simp only[u0,aT,cb] at b
 have H:=NC order _ s b.2 h
 grind [NF]
end
end Go.Rv
namespace Go.Rv
section
variable {P : Program} {B : ce} {C : Ctx}
theorem vI (m:fD P C) (f:C.k=B.k) (p: ∀g,C.mv.contains g=true->B.mv g=true) (ops:Array Oper) (b:List hb) (B0:Nat) (Q:Exit->Act->World->Prop) (s':St) (n: ∀a w,bc B s' a w->Q .normal a w):
  ∀(r:List Oper) (i:Nat) (s:St) (a:Act) (w:World),(∀j,r[j]? =ops[i+j]?)->ip C ops.toList b B0 i r s=some s'->bc B s a w->wpOps P ops Q (range' i r.length) a w
 |[],i,s,a,w,_,h,e=>by
  simp only[ip] at h;cases h
  exact n a w (f▸e.dx i b)
 |o::r,i,F,a,w,A,h,K=>by
  have L:ops[i]? =some o:=by simpa using(A 0).symm
  have x: ∀j,r[j]? =ops[i+1+j]? :=fun j=>by
   have:=A (j+1)
   grind
  simp only[cB,CD]
  rw[wpOps_cons]
  unfold wpOp
  simp only[L]
  have step: ∀{s:St},bc B s a w->(fy (ag St) C (B0+i*width) o s some).bind (ip C ops.toList b B0 (i+1) r)=some s'->o.wp P a w (wpOps P ops Q (range' (i+1) r.length)) Q:=fun {s} e h=>by
   cases D:fy (ag St) C (B0+i*width) o s some with
   |none=>simp_all
   |some M=>
    rw[D] at h
    simp only[ac] at h
    exact Oper.wp_mono (fun I w' J=>vI m f p ops b B0 Q s' n r (i+1) M I w' x h J) (Nb m f p e D Q)
  unfold ip at h
  simp only at h
  have e:bc B (dx C.k i b F) a w:=f▸K.dx i b
  generalize dx C.k i b F=s at h e
  split at h
  ·grind [wanted,step]
  ·rename_i j G z
   split at h
   ·cases h
   ·rename_i t E
    split at h
    ·rename_i g q
     have y:=ND e E q
     simp only[wanted,z,y]
     split at h
     ·grind
     ·rename_i O
      have v:(some g==some G)=false:=by grind
      rw[v]
      simp only[qY,iZ]
      exact vI m f p ops b B0 Q s' n r (i+1) _ _ w x h (vH e o.dst)
    ·rename_i q
     have y:=NE e E q
     simp only[wanted,z,y]
     have v:((none:Option Bool)==some G)=false:=by simp
     rw[v]
     simp only[qY,iZ]
     exact vI m f p ops b B0 Q s' n r (i+1) _ _ w x h (vH e o.dst)
    ·cases h
theorem NG (f:List Nat): ∀(l:List AV) (n i:Nat) (a:AV),(mask f n l)[i]? =some a-> ∃e,l[i]? =some e/\(a=e\/a= .undef)
 |[],_,_,_,h=>by simp[mask] at h
 |b::r,n,0,a,h=>by
  grind [mask,List.getElem?_cons_zero,Option.some.injEq]
 |b::r,n,i+1,a,h=>by
  simp only[mask,mF] at h
  simpa using NG f r (n+1) i a h
theorem adT: ∀{l:List AV} {i:Nat} {a:AV},l[i]? =some a-> ∀g,a.refs g=true->g∈cj l:=fun {l i a} h g b=>kg l g (mR h b)
theorem adU {s s':St} {a:Act} {w:World} (Q:List Nat) (a4:bc B s a w) (h:BV B.k Q s=some s'):bc B s' a w:=by
 obtain⟨hd,ι,q⟩:=a4
 unfold BV at h
 simp only at h
 split at h
 ·rename_i O
  generalize c1:reach s.heap (s.heap.length+1) 0 (dw (List.range B.k) (cj (mask Q 0 s.env)))=ids at h O
  simp only[aT,cb] at O
  obtain⟨⟨⟨c3,a6⟩,a5⟩,c2⟩:=O
  simp only[ew] at h
  subst h
  let n:aX:=⟨fun j=>match ids[j]? with|some g=>ι g|none=>none,fun j=>match ids[j]? with|some g=>ι.aq g|none=>fun _=>none⟩
  have J: ∀{j b:Nat},aP n (bJ s.heap ids) j b-> ∃g,ids[j]? =some g/\aP ι s.heap g b:=fun {j b} o=>by
   cases o with
   |out r p G F e=>
    obtain⟨g,E,hi,f,_⟩:=lu G
    simp only[n,hi] at F
    exact⟨g,hi,.out E p f F e⟩
   |aq t xss m cs i p G K F e=>
    obtain⟨g,E,hi,f,M⟩:=lu G
    simp only[n,hi] at F
    obtain⟨L,rfl,_⟩:=Row.qO M.symm
    exact⟨g,hi,.aq t xss m L i p f K F e⟩
  have a7: ∀g,g∈ids->ids[place ids g]? =some g:=fun g f=>MO f
  have b1: ∀(j:Nat) g,ids[j]? =some g->sumOf n (bJ s.heap ids) j=sumOf ι s.heap g:=fun j g A=>by
   obtain⟨E,U,_⟩:=lq a6 (jc A)
   have:=vk A U
   grind [sumOf,Row.B9,Row.Ca]
  have b0: ∀g,g∈ids->sumOf n (bJ s.heap ids) (place ids g)=sumOf ι s.heap g:=fun g f=>b1 _ _ (a7 g f)
  have V: ∀b,aN w ι s.heap b->aN w n (bJ s.heap ids) b:=fun b z=>by
   refine⟨z.1,fun j o=> ?_⟩
   obtain⟨g,_,R⟩:=J o
   exact z.2 g R
  have I: ∀b,dst B.D w ι s.heap b->dst B.D w n (bJ s.heap ids) b:=fun b z=>⟨z.1,V b z.2⟩
  refine⟨hd,n,q.kept,⟨fun j r A=> ?_,fun c4 c5 b b5 b7=> ?_,fun j b o=> ?_,fun j u xss m cs A=> ?_⟩,fun b z=>V b (q.stay b z),fun g f=> ?_,fun i x K=> ?_,q.dK.mono (aS _) (fun b z _=>⟨I b z,rfl⟩)⟩
  ·obtain⟨g,E,hi,f,rfl⟩:=lu A
   have b4:n j=ι g:=by grind
   rw[b4]
   refine bF.bG (.inl I) (fun x K=> ?_) (q.am.rows g E f)
   grind [lq,List.mem_of_getElem?,Row.qN]
  ·obtain⟨a1,b9,b6⟩:=J b5
   obtain⟨a2,c0,b8⟩:=J b7
   have:=q.am.one a1 a2 b b6 b8
   grind [ve]
  ·obtain⟨g,hi,R⟩:=J o
   exact q.am.has g b R
  ·obtain⟨g,E,hi,f,M⟩:=lu A
   obtain⟨L,rfl,a8⟩:=Row.qO M.symm
   have Z:n j=ι g:=by grind
   have a0:n.aq j=ι.aq g:=by grind
   rw[Z,a0]
   exact(cS.bG (.inl I) (q.am.nest g u xss m L f)).gD a8
  ·have A:ids[g]? =some g:=by
    have a3:(ids.take B.k)[g]? =some g:=by simp_all
    grind
   obtain⟨a3,E,U⟩:=q.io g f
   simp_all [id,Trans.trans,vk]
  ·obtain⟨Y,X,rfl⟩:=vd K
   obtain⟨y,b3,a9⟩:=NG Q s.env 0 i Y X
   obtain⟨v,b2,G⟩:=q.env i y b3
   refine⟨v,b2,?_⟩
   rcases a9 with rfl|rfl
   ·exact ah.bG Y v (.inl I) (fun g f=>b0 g (by
     have:=bQ.1 a5 g (adT X g f)
     simp_all)) G
   ·trivial
 ·cases h
theorem lx {k:Nat} {s:St} {a:Act} {w:World} {b:List Nat} {K:St->Prop} (f:k=B.k) (e:bc B s a w) (h:hG k b s K): ∃s',K s'/\bc B s' a w:=by
 grind [hG,adU]
theorem bc.more {s:St} {a:Act} {w:World} (G:bc B s a w) (n:Nat):bc B {s with heap:=s.heap++replicate n none} a w:=by
 obtain⟨hd,ι,h⟩:=G
 have y: ∀(g:Nat) (r:Row),(s.heap++replicate n none)[g]? =some (some r)↔s.heap[g]? =some (some r):=fun g r=>by
  grind
 have I:sumOf ι (s.heap++replicate n none)=sumOf ι s.heap:=by
  grind [sumOf,replicate,List.getElem?_eq_some_iff,List.getElem?_append_left]
 have A: ∀{g b:Nat},aP ι (s.heap++replicate n none) g b↔aP ι s.heap g b:=fun {g b}=>by
  constructor
  ·intro o
   cases o with
   |out r p f q e=>exact .out r p ((y g r).1 f) q e
   |aq u xss m cs i p f hi q e=>exact .aq u xss m cs i p ((y g _).1 f) hi q e
  ·intro o
   cases o with
   |out r p f q e=>exact .out r p ((y g r).2 f) q e
   |aq u xss m cs i p f hi q e=>exact .aq u xss m cs i p ((y g _).2 f) hi q e
 have D: ∀b,aN w ι (s.heap++replicate n none) b↔aN w ι s.heap b:=fun b=>by
  constructor
  ·exact fun j=>⟨j.1,fun g o=>j.2 g (A.2 o)⟩
  ·exact fun j=>⟨j.1,fun g o=>j.2 g (A.1 o)⟩
 have t:Trans w ι s.heap w ι (s.heap++replicate n none) (fun _=>True):=⟨aS _,fun b j=>⟨(D b).2 j,rfl⟩,fun g _=>by rw[I]⟩
 refine⟨hd,ι,h.kept,⟨fun g r z=> ?_,fun E F b L M=>h.am.one E F b (A.1 L) (A.1 M),fun g b o=>h.am.has g b (A.1 o),fun g u xss m cs z=>t.nest (fun _ _ _ _=>rfl) (fun _ _ _ _ _ _=>rfl) (h.am.nest g u xss m cs ((y g _).1 z))⟩,fun b j=>(D b).2 (h.stay b j),fun g z=> ?_,fun i x K=> ?_,t.kd h.dK⟩
 ·exact t.row (fun _ _=>trivial) (fun _ _ _ _=>rfl) (h.am.rows g r ((y g r).1 z))
 ·obtain⟨O,r,f⟩:=h.io g z
  simp_all
 ·obtain⟨v,J,f⟩:=h.env i x K
  exact⟨v,J,t.av (fun _ _=>trivial) f⟩
def Ends (B:ce) (K:Exit->St->Prop) (e:Exit) (a:Act) (w:World):Prop:= ∃s',K e s'/\bc B s' a w
theorem NH {c:Code} {body:St->(Exit->St->Prop)->Prop} (g: ∀s K a w,body s K->bc B s a w->c.wp P (Ends B K) a w) {K:Exit->St->Prop}:
  ∀(n:Nat) (s:St) (a:Act) (w:World),u1 body n s K->bc B s a w->Code.rounds P c (Ends B K) n a w
 |0,s,a,w,h,_=>h
 |n+1,s,a,w,h,j=>by
  rw[rounds_succ]
  refine wp_mono (g s _ a w h j) fun e i w' m=> ?_
  obtain⟨s',b,f⟩:=m
  cases e with
  |normal=>exact NH g n s' i w' b f
  |_=>exact⟨s',b,f⟩
theorem nd (z:fD P C) (f:C.k=B.k) (A: ∀g,C.mv.contains g=true->B.mv g=true) (L:Nat): ∀(c:Code) (an:bj) (s:St) (K:Exit->St->Prop) (a:Act) (w:World),bt C L c an s K->bc B s a w->c.wp P (Ends B K) a w
 | .skip,an,s,K,a,w,h,b=>by
  cases an with
  |leaf t=>
   unfold bt at h
   obtain⟨n,j,m⟩:=lx f b h
   exact wp_skip ⟨n,j,m⟩
  |kc q t=>
   unfold bt at h
   obtain⟨n,j,m⟩:=lx f (f▸b.dx 0 q) h
   exact wp_skip ⟨n,j,m⟩
  |_=>simp[bt] at h
 | .ret,an,s,K,a,w,h,b=>by
  cases an with
  |leaf t=>
   unfold bt at h
   obtain⟨n,j,m⟩:=lx f b h
   exact wp_ret ⟨n,j,m⟩
  |kc q t=>
   unfold bt at h
   obtain⟨n,j,m⟩:=lx f (f▸b.dx 0 q) h
   exact wp_ret ⟨n,j,m⟩
  |_=>simp[bt] at h
 | .exit id,an,s,K,a,w,h,b=>by
  cases an with
  |leaf t=>
   unfold bt at h
   obtain⟨n,j,m⟩:=lx f b h
   exact wp_exit ⟨n,j,m⟩
  |kc q t=>
   unfold bt at h
   obtain⟨n,j,m⟩:=lx f (f▸b.dx 0 q) h
   exact wp_exit ⟨n,j,m⟩
  |_=>simp[bt] at h
 | .region id ops d,an,s,K,a,w,h,b=>by
  have M: ∀(q:List hb) (t:List Nat),(hE C ops.toList q s.heap.length 0 ops.toList {s with heap:=s.heap++replicate (ops.size*width) none} fun s'=>hG C.k t s' (K .normal))->
    (Code.region id ops false).wp P (Ends B K) a w:=fun q t h=>by
   have E:=q2 C ops.toList _ _ _ _ _ _ h
   obtain⟨O,G,r⟩:=BG.1 E
   refine wp_region ?_
   have:=vI z f A ops q s.heap.length (Ends B K) O (fun D w' v=>by
    obtain⟨n,j,m⟩:=lx f v r
    exact⟨n,j,m⟩) ops.toList 0 _ a w (by simp) G (b.more _)
   grind [List.range_eq_range']
  cases d with
  |true=>
   cases an with
   |draw calm order q t=>
    unfold bt at h
    cases J:u0 ops calm order with
    |false=>simp_all
    |true=>
     rw[J] at h
     have E:=oT C ops.toList calm _ _ _ _ h
     obtain⟨O,G,r⟩:=BG.1 E
     refine wp_region_any z.mixed (adS z f A J G (b.more _).drew (Ends B K) fun D w' v=> ?_)
     obtain⟨n,j,m⟩:=lx f (f▸v.dx 0 q) r
     exact⟨n,j,m⟩
   |_=>simp[bt] at h
  |false=>
   cases an with
   |leaf t=>
    unfold bt at h
    exact M [] t h
   |kc q t=>
    unfold bt at h
    exact M q t h
   |_=>simp[bt] at h
 | .seq x y,an,s,K,a,w,h,b=>by
  cases an with
  |seq p I=>
   unfold bt at h
   refine wp_seq (wp_mono (nd z f A L x p s _ a w h b) fun e D w' F=> ?_)
   obtain⟨s',r,v⟩:=F
   cases e with
   |normal=>exact nd z f A L y I s' K D w' r v
   |_=>exact⟨s',r,v⟩
  |_=>simp[bt] at h
 | .cond c x y,an,s,K,a,w,h,b=>by
  cases an with
  |cond p I=>
   unfold bt at h
   split at h
   ·rename_i g R
    have U:a.eval c= .bool g:=by
     obtain⟨_,ι,Q⟩:=b
     have e:=oG (aZ Q R a.defers)
     exact e
    refine wp_cond U ?_
    cases g with
    |true=>exact nd z f A L x p s _ a w h b
    |false=>exact nd z f A L y I s _ a w h b
   ·cases h
  |_=>simp[bt] at h
 | .block id c,an,s,K,a,w,h,b=>by
  cases an with
  |block p=>
   unfold bt at h
   refine wp_block (wp_mono (nd z f A L c p s _ a w h b) fun e D w' F=> ?_)
   obtain⟨s',r,v⟩:=F
   cases e with
   |exit i=>
    simp only[Exit.inBlock]
    simp only[qC] at r
    split
    ·rename_i hi
     rw[aA hi] at r
     exact⟨s',r,v⟩
    ·rename_i hi
     rw[aG hi] at r
     exact⟨s',r,v⟩
   |_=>exact⟨s',r,v⟩
  |_=>simp[bt] at h
 | .loop c,an,s,K,a,w,h,b=>by
  cases an with
  |loop p=>
   unfold bt at h
   exact wp_loop_rounds L (NH (fun s K a w h b=>nd z f A L c p s K a w h b) L s a w h b)
  |_=>simp[bt] at h
 | .rangeFunc _ _ _ _,an,s,K,a,w,h,b=>by simp[bt] at h
 | .scope _,an,s,K,a,w,h,b=>by simp[bt] at h
 | .label _,an,s,K,a,w,h,b=>by simp[bt] at h
 | .goto _,an,s,K,a,w,h,b=>by simp[bt] at h
 | .refuse _,an,s,K,a,w,h,b=>by simp[bt] at h
end
end Go.Rv
namespace Go.Rv
def hJ (T:TT) (s:St):List ResultVar->Option (List AV)
 |[]=>some []
 | .tmp t::r=>match s.env[t]?,hJ T s r with
  |some a,some l=>some (a::l)
  |_,_=>none
 | .cell p t::r=>match s.env[p]?,hJ T s r with
  |some a,some l=>match a with
   | .ptr h o=>match eI (ag AV) T s t (.ptr h o) some with
    |some x=>some (x::l)
    |none=>none
   |_=>none
  |_,_=>none
def nf (l:List AV):AV:=
 match l with
 |[x]=>x
 |l=> .ba l
def dR (T:TT) (b:List ResultVar) (r:AV) (H:Heap) (e:Exit) (s:St):Prop:=
 (match e with| .ret=>True| .normal=>True|_=>False)/\(∃l,hJ T s b=some l/\nf l=r)/\s.heap=H
section
variable {P : Program} {B : ce} {T : TT}
def oU (b:Array Value):ResultVar->Sem Value
 | .tmp t=>pure (b.getD t undef)
 | .cell a t=>do loadVar t (<-asAddr (b.getD a undef))
theorem NI (fn:Func) (b:Array Value):results fn b=(do let vs<-fn.results.mapM (oU b);pure (if h:vs.size=1 then vs[0] else .tuple vs)):=by
 unfold results
 congr 1
theorem C3 (n:bP P T) {s:St} {j:Array Value} {w:World} {ι:aX} (f:Inv B s j w ι): ∀(F:List ResultVar) (l:List AV),hJ T s F=some l->
  ∃vs:List Value,(F.mapM (oU j)).run P w= .ok vs w/\aC w (dst B.D w ι s.heap) (sumOf ι s.heap) l vs
 |[],l,h=>by simp[hJ] at h;subst h;exact⟨[],by simp,rfl⟩
 | .tmp t::r,l,h=>by
  simp only[hJ] at h
  split at h
  ·rename_i a A q z
   simp only[ew] at h
   subst h
   obtain⟨vs,G,m⟩:=C3 n f r A z
   obtain⟨v,J,i⟩:=f.env t a q
   have e:j.getD t undef=v:=by simp_all
   refine⟨v::vs,?_,v,vs,rfl,i,m⟩
   simp_all [List.mapM_cons,oU,aD,mC,eg]
  ·cases h
 | .cell p t::r,l,h=>by
  simp only[hJ] at h
  split at h
  ·rename_i a A q z
   split at h
   ·rename_i g o
    split at h
    ·rename_i x K
     simp only[ew] at h
     subst h
     obtain⟨vs,G,m⟩:=C3 n f r A z
     obtain⟨v,J,i⟩:=f.env p _ q
     have e:j.getD p undef=v:=by simp_all
     obtain⟨y,u,E,I,L⟩:=MC n f K i
     simp only[ew] at E
     subst E
     obtain⟨R,b,off,c,Q,O,rfl⟩:=i
     refine⟨u::vs,?_,u,vs,rfl,I,m⟩
     have M:(loadVar t ⟨b,off+o,none⟩).run P w= .ok u w:=by grind [Instr.loadAt,Instr.sureAddr,Sem.run_bind]
     simp_all [List.mapM_cons,oU,aD,mC,eg,asAddr]
    ·cases h
   ·cases h
  ·cases h
theorem adV (i:bP P T) {fn:Func} {s:St} {e:Array Value} {w:World} {ι:aX} (g:Inv B s e w ι) {l:List AV} (h:hJ T s fn.results.toList=some l):
  ∃v,(results fn e).run P w= .ok v w/\ah w (dst B.D w ι s.heap) (sumOf ι s.heap) (nf l) v:=by
 obtain⟨vs,f,b⟩:=C3 i g _ l h
 have q:=b.length
 have m:(fn.results.mapM (oU e)).run P w= .ok vs.toArray w:=by
  simp_all [Nc,Nd,aD]
 refine⟨if h:vs.toArray.size=1 then vs.toArray[0] else .tuple vs.toArray,?_,?_⟩
 ·rw[NI,aD,m]
  simp
 ·unfold nf
  split
  ·rename_i x
   obtain⟨v,t,rfl,n,p⟩:=b
   simp_all
  ·rename_i r
   have: ¬vs.toArray.size=1:=fun f=>by
    have j:l.length=1:=by simp_all
    match l,j with
    |[x],_=>grind
   rw[dif_neg this]
   exact⟨vs,rfl,b⟩
def start (n:Nat) (avs:List AV) (H:Heap):St:=⟨avs++replicate (n-avs.length) .undef,H⟩
theorem adW {C:Ctx} (q:fD P C) {f:FuncId} {fn:Func} {c:Code} (V:P.funcs[f]? =some fn) (z:fn.body=some c) {F:bd} (L:Nat) (an:List AV->Heap->bj)
  (h: ∀avs H r j,(F avs H).run=some (r,j)->bt {C with k:=H.length,mv:=(F avs H).mv} L c (an avs H) (start fn.ntmps avs H) (dR C.T fn.results.toList r j)):Sound P f F:=by
 intro avs H r j O D w args ι Z Q X a1 G
 let B:ce:={w0:=w,S0:=aN w ι H,D:=D,mI:=sumOf ι H,k:=H.length,mv:=fun h=>(F avs H).mv.contains h,new:=Z}
 have a3:=G.length
 have R:Inv B (start fn.ntmps avs H) (args.toArray++Array.replicate (fn.ntmps-args.toArray.size) undef) w ι:=by
  refine⟨Kept.refl _ _,Q,fun b z=>z,fun g t=>⟨.inr rfl,a1 g t⟩,fun i a p=> ?_,X⟩
  simp only[start] at p
  by_cases hi:i<avs.length
  ·rw[mG hi] at p
   obtain⟨v,K,y⟩:=G.get _ _ i a p
   exact⟨v,by grind,y⟩
  ·rw[kV (by omega)] at p
   rw[vi] at p
   split at p
   ·rename_i a4
    cases p
    refine⟨undef,?_,trivial⟩
    grind
   ·cases p
 refine calls_of_wp V z ?_
 have M:fD P {C with k:=H.length,mv:=(F avs H).mv}:=⟨q.types,q.ek,q.call,q.mixed⟩
 refine wp_mono (nd (B:=B) M rfl (fun _ h=>h) L c _ _ _ _ w (h avs H r j O) ⟨rfl,ι,R⟩) fun e A w' a2=> ?_
 obtain⟨s',⟨U,⟨l,Y,J⟩,E⟩,hd,m,n⟩:=a2
 obtain⟨v,K,y⟩:=adV q.types n Y
 have a0: ∃v m,Ending.returned v= .returned v/\Kept (aN w ι H) w w'/\eG D w' m j/\(∀b,aN w ι H b->aN w' m j b)/\(∀h,h<H.length->((F avs H).mv.contains h=true\/sumOf m j h=sumOf ι H h)/\ ∃x,j[h]? =some (some x))/\ah w' (dst D w' m j) (sumOf m j) r v:=by
  subst E J
  exact⟨v,m,rfl,n.kept,n.am,n.stay,fun g t=>n.io g t,y⟩
 obtain⟨a6,a7,_,a5⟩:=a0
 have I:A.defers=[]/\ ∃v,(results fn A.tmps).run P w'= .ok v w'/\(∃u m,Ending.returned v= .returned u/\Kept (aN w ι H) w w'/\eG D w' m j/\(∀b,aN w ι H b->aN w' m j b)/\
   (∀h,h<H.length->((F avs H).mv.contains h=true\/sumOf m j h=sumOf ι H h)/\ ∃x,j[h]? =some (some x))/\ah w' (dst D w' m j) (sumOf m j) r u):=by
  subst E J
  exact⟨hd,v,K,v,m,rfl,n.kept,n.am,n.stay,fun g t=>n.io g t,y⟩
 cases e with
 |normal=>exact I
 |ret=>exact I
 |_=>exact U.elim
end
end Go.Rv
namespace Go.Rv
def bH:List (TypeId×TI)->TT
 |[],_=>none
 |p::r,t=>if beq p.1 t then some p.2 else bH r t
theorem NJ {t:TypeId} {b:TI}: ∀{l:List (TypeId×TI)},bH l t=some b->(t,b)∈l
 |[],h=>by simp[bH] at h
 |p::r,h=>by
  simp only[bH] at h
  split at h
  ·grind [Nat.eq_of_beq_eq_true]
  ·exact bA _ (NJ h)
theorem adX {P:Program} {l:List (TypeId×TI)} (h: ∀p∈l,iv P p.1 p.2):bP P (bH l):=fun t e b=>h (t,e) (NJ b)
def cO:List (FuncId×bd)->FuncId->bd
 |[],_=>fun _ _=>ad.no
 |p::r,f=>if beq p.1 f then p.2 else cO r f
theorem NK {P:Program}: ∀{l:List (FuncId×bd)},(∀p∈l,Sound P p.1 p.2)-> ∀f,Sound P f (cO l f)
 |[],_,f=>fun avs H r i h=>by simp[cO,ad.no,ad.run] at h
 |p::r,b,f=>by
  unfold cO
  split
  ·simp_all
  ·exact NK (fun g e=>b g (bA _ e)) f
theorem NL {P:Program}: ∀{l:List (FuncId×bd)},(∀p∈l,kl P p.1)-> ∀f avs H,(cO l f avs H).o.isSome=true->kl P f
 |[],_,f,avs,H,h=>by simp[cO,ad.no] at h
 |p::b,g,f,avs,H,h=>by
  by_cases i:beq p.1 f=true
  ·simp_all
  ·have e:cO (p::b) f=cO b f:=by simp[cO,i]
   rw[e] at h
   exact NL (fun m j=>g m (bA _ j)) f avs H h
theorem gF {P:Program} {types:List (TypeId×TI)} {b:List (FuncId×bd)} {io:FuncId->Nat->Bool} {k:Nat} {d:Bool} {m:List Nat} (h:bP P (bH types)) (e: ∀p∈b,Sound P p.1 p.2) (f: ∀p∈b,kl P p.1) (g:P.follows .mixedOrders=true):
  fD P ⟨bH types,cO b,io,k,d,m⟩:=⟨h,NK e,NL f,g⟩
theorem ad.NM {τ:Type} {o:Option τ} {enc:τ->AV×Heap} {mv:List Nat} {r:AV×Heap} (h:(ad.mk τ o enc mv none).run=some r): ∃t,o=some t/\enc t=r:=co.1 h
def Code.fst:Code->Code
 | .seq a _=>a
 | .cond _ a _=>a
 | .block _ a=>a
 | .loop a=>a
 |c=>c
def Code.snd:Code->Code
 | .seq _ b=>b
 | .cond _ _ b=>b
 |c=>c
def ct (fn:Func):Code:=match fn.body with|some c=>c|none=> .skip
def bj.fst:bj->bj
 | .seq a _=>a
 | .cond a _=>a
 | .block a=>a
 | .loop a=>a
 |a=>a
def bj.snd:bj->bj
 | .seq _ b=>b
 | .cond _ b=>b
 |a=>a
def LL:Nat:=1152921504606846976
def RR:Nat:=100000
def NN:Option TypeInfo->TypeInfo
 |some i=>i
 |none=>default
def fieldsOf:Option TypeDesc->Array Field
 |some (.struct f)=>f
 |_=> #[]
def cu:Nat->Nat->List (Nat×AV)->List AV
 |0,_,_=> []
 |n+1,i,l=>(match l with
  |(j,a)::r=>if beq j i then a::cu n (i+1) r else .undef::cu n (i+1) l
  |[]=> .undef::cu n (i+1) [])
theorem adY {b:Type} (g:Bool) (x y:Option b) (K:b->Prop):aJ (cond g x y) K=cond g (aJ x K) (aJ y K):=by grind
structure dn (C:Ctx) (L:Nat) (c:Code) (an:bj) (s:St) {τ:Type} (n:Option τ) (fin:τ->Exit×St):Prop where
 go: ∀K:Exit->St->Prop,aJ n (fun x=>K (fin x).1 (fin x).2)->bt C L c an s K
structure bY (C:Ctx) (L:Nat) (c:Code) (an:bj) (s:St) (K:Exit->St->Prop):Prop where
 go:bt C L c an s K
theorem bY.of {C:Ctx} {L:Nat} {c:Code} {an:bj} {s:St} {K:Exit->St->Prop} {X:Prop} (e:X=bt C L c an s K) (h:X):bY C L c an s K:=⟨e▸h⟩
theorem dn.of {C:Ctx} {L:Nat} {c:Code} {an:bj} {s:St} {τ:Type} {n:Option τ} {fin:τ->Exit×St} (h: ∀K:Exit->St->Prop,aJ n (fun x=>K (fin x).1 (fin x).2)->bY C L c an s K):dn C L c an s n fin:=
 ⟨fun K b=>(h K b).go⟩
theorem dn.cast {C:Ctx} {L:Nat} {c e:Code} {an b:bj} {s:St} {τ:Type} {n:Option τ} {fin:τ->Exit×St} (g:e=c) (f:b=an) (h:dn C L c an s n fin):dn C L e b s n fin:=by
 simp_all
theorem adZ {C:Ctx} {L:Nat} {a b:Code} {x y:bj} {s:St} {τ f:Type} {n:Option τ} {st:τ->St} (g:dn C L a x s n (fun t=>(Exit.normal,st t))) {m:τ->Option f} {e:f->Exit×St}
  (i: ∀t,dn C L b y (st t) (m t) e):dn C L (.seq a b) (.seq x y) s (n.bind m) e:=by
 refine⟨fun K h=> ?_⟩
 rw[ov] at h
 exact g.go _ (mK (fun t j=>(i t).go K j) h)
theorem ad0 (f g:St->Prop) (K:Exit->St->Prop):oE f (oE g K)=oE f K:=by
 funext e s
 cases e<;>rfl
def C4 {b:Type} (fin:b->Exit×St):Prop:= ∀e,∀(f:St->Prop) (K:Exit->St->Prop),K (fin e).1 (fin e).2->oE f K (fin e).1 (fin e).2
theorem ad1 {C:Ctx} {L:Nat} {a b:Code} {x y:bj} {s:St} {τ i p:Type} {n:Option (τ⊕i)} {st:τ->St} {g:i->Exit×St} (q:dn C L a x s n (Sum.elim (fun t=>(Exit.normal,st t)) g)) {m:τ->Option p} {f:p->Exit×St}
  (r: ∀t,dn C L b y (st t) (m t) f) (j:i->p) (z: ∀e,f (j e)=g e) (v:C4 g):dn C L (.seq a b) (.seq x y) s (n.bind (Sum.elim m (fun e=>some (j e)))) f:=by
 refine⟨fun K h=> ?_⟩
 rw[ov] at h
 refine q.go _ (mK (fun t w=> ?_) h)
 cases t with
 |inl t=>exact(r t).go K w
 |inr e=>
  refine v e _ K ?_
  grind [Eq.mp,ih]
theorem ad2 {C:Ctx} {L:Nat} {a:Code} {x:bj} {s:St} {τ e:Type} {n:Option τ} {fin:τ->Exit×St} (g:dn C L a x s n fin) (f:τ->e) {b:e->Exit×St} (i: ∀t,b (f t)=fin t):dn C L a x s (n.map f) b:=by
 refine⟨fun K h=> ?_⟩
 grind [BF,dn.go,mK]
theorem ad3 {C:Ctx} {L:Nat} {c:Operand} {a b:Code} {x y:bj} {s:St} {g:Bool} (i:ay s c=some (.aa .bool g)) {τ:Type} {n m:Option τ} {fin:τ->Exit×St} (e:dn C L a x s n fin) (f:dn C L b y s m fin):
  dn C L (.cond c a b) (.cond x y) s (cond g n m) fin:=by
 refine⟨fun K h=> ?_⟩
 grind [bt,dn.go]
theorem ad4 {C:Ctx} {L:Nat} {id:Nat} {a:Code} {x:bj} {s:St} {τ e:Type} {n:Option τ} {fin:τ->Exit×St} (g:dn C L a x s n fin) (f:τ->e) {b:e->Exit×St}
  (i: ∀t (K:Exit->St->Prop),K (b (f t)).1 (b (f t)).2->qC id K (fin t).1 (fin t).2):dn C L (.block id a) (.block x) s (n.map f) b:=by
 refine⟨fun K h=> ?_⟩
 rw[BF] at h
 exact g.go _ (mK (fun t j=>i t K j) h)
def ai {σ b:Type} (body:σ->Option (σ⊕b)):Nat->σ->Option b
 |0,_=>none
 |n+1,s=>(body s).bind fun r=>match r with
  | .inl s'=>ai body n s'
  | .inr o=>some o
theorem ad5 {C:Ctx} {L:Nat} {a:Code} {x:bj} {σ e:Type} {body:σ->Option (σ⊕e)} {mk:σ->St} {fin:e->Exit×St} (g:C4 fin)
  (f: ∀s,dn C L a x (mk s) (body s) (Sum.elim (fun s'=>(Exit.normal,mk s')) (fun o=>fin o))) (s:σ):dn C L (.loop a) (.loop x) (mk s) (ai body L s) fin:=by
 refine⟨fun K h=> ?_⟩
 unfold bt
 suffices H: ∀n s,aJ (ai body n s) (fun x=>K (fin x).1 (fin x).2)->u1 (fun s K=>bt C L a x s K) n (mk s) K from H L s h
 intro n
 induction n with
 |zero=>intro s h;exact(Eq.mp (kZ _) h).elim
 |succ n i=>
  intro s h
  simp only[ai,ov] at h
  refine(f s).go _ (mK (fun r b=> ?_) h)
  cases r with
  |inl s'=>exact i s' b
  |inr o=>exact g o _ _ (Eq.mp (ih o (fun x=>K (fin x).1 (fin x).2)) b)
theorem bY.cast {C b:Ctx} {L:Nat} {c:Code} {an:bj} {s s':St} {K e:Exit->St->Prop} (f:b=C) (g:s'=s) (i:e=K) (h:bY C L c an s K):bY b L c an s' e:=by
 simp_all
def C5:Exit->Bool
 | .normal=>true
 | .ret=>true
 |_=>false
theorem ad6 {T:TT} {f:List ResultVar} {r:AV} {b:Heap} {e:Exit} {s:St} (l:List AV) (j:C5 e=true) (g:hJ T s f=some l) (h:nf l=r) (i:s.heap=b):dR T f r b e s:=by
 refine⟨?_,⟨l,g,h⟩,i⟩
 grind [absurd,C5]
theorem vJ {C:Ctx} {L:Nat} {c:Code} {an:bj} {s:St} {τ b:Type} {n:Option τ} {fin:τ->Exit×St} (h:dn C L c an s n fin) {o:Option b} {enc:b->AV×Heap} (f:τ->b) (i:o=n.map f) {T:TT} {g:List ResultVar}
  (q: ∀t,dR T g (enc (f t)).1 (enc (f t)).2 (fin t).1 (fin t).2) {r:AV} {e:Heap} {mv:List Nat} (j:(ad.mk b o enc mv none).run=some (r,e)):bY C L c an s (dR T g r e):=by
 obtain⟨u,m,p⟩:=ad.NM j
 subst i
 obtain⟨t,v,rfl⟩:=co.1 m
 refine⟨h.go _ ?_⟩
 grind [ih]
theorem gG {C:Ctx} {L:Nat} {c:Code} {an:bj} {s:St} {τ:Type} {n:Option τ} {fin:τ->Exit×St} (h:dn C L c an s n fin) {o:Option τ} {enc:τ->AV×Heap} (f:o=n) {T:TT} {e:List ResultVar}
  (g: ∀t,dR T e (enc t).1 (enc t).2 (fin t).1 (fin t).2) {r:AV} {b:Heap} {mv:List Nat} (i:(ad.mk τ o enc mv none).run=some (r,b)):bY C L c an s (dR T e r b):=
 vJ h id (by rw[f];simp) g i
theorem gH {P:Program} {C:Ctx} (e:fD P C) {f:FuncId} {fn:Func} {c:Code} (j:P.funcs[f]? =some fn) (i:fn.body=some c) {F:bd} (L:Nat) (an:bj)
  (h: ∀avs H r b,(F avs H).run=some (r,b)->bY {C with k:=H.length,mv:=(F avs H).mv} L c an (start fn.ntmps avs H) (dR C.T fn.results.toList r b)):Sound P f F:=
 adW e j i L (fun _ _=>an) (fun avs H r b g=>(h avs H r b g).go)
def q9 (xs:List Int) (i:Int) (vs:List Int):Option (List Int):=
 match vs with
 |[]=>none
 |v::r=>(inc i (List.length xs)).bind fun k=>(room (List.length xs+List.length (v::r))).bind fun _=>some (xs.take k++(v::r)++xs.drop k)
end Go.Rv
namespace Go.Rv
def kq (s t:ByteArray):Option Int:=match t.data.toList with|[c]=>some (Lib.indexByte s.data.toList c)|_=>none
def C6 (n:Int):Option ByteArray:=if 0<=n/\n<100 then some ⟨(Lib.decDigits n.toNat).toArray⟩ else none
def eb (s:ByteArray):Int×Bool:=
 match Lib.atoiAll s.data.toList with
 | .ok v=>(v,false)
 | .range=>(Lib.atoiSat s.data.toList,true)
 |_=>(0,true)
def ra (s:ByteArray):Option (Int×Bool):=if s.size<=281474976710656 then some (eb s) else none
def oV {b:Type} (xs:List b):Option (List b):=if xs.length<=1099511627776 then some xs else none
def NO {b:Type} (f:b->Option ByteArray):List b->ByteArray->Option ByteArray
 |[],acc=>some acc
 |d::r,acc=>(f d).bind fun s=>if s=empty then some empty else if s.size+1<=1000000/\acc.size+(s.size+1)<=140737488355328 then NO f r (acc++(s++ByteArray.mk #[10])) else none
def apb {b:Type} (f:b->Option ByteArray) (xs:List b):Option ByteArray:=if xs.length<=1099511627776 then NO f xs empty else none
def oW (n:Int):Option ByteArray:=if-9223372036854775808<=n/\n<=9223372036854775807 then some ⟨(itoa n).toArray⟩ else none
def vK (xs:List ByteArray) (sep:ByteArray):Option ByteArray:=
 if xs.length<=1000000/\(join (xs.map (·.data.toList)) sep.data.toList).length<=100000000 then some ⟨(join (xs.map (·.data.toList)) sep.data.toList).toArray⟩ else none
end Go.Rv
namespace Go.Rv
section
variable {P : Program}
def oX (P:Program) (Q:Exit->Act->World->Prop):List Oper->Act->World->Prop
 |[],a,w=>Q .normal a w
 |o::r,a,w=>o.guard=none/\o.wp P a w (fun b w'=>oX P Q r b w') Q
theorem NP (ops:Array Oper) (Q:Exit->Act->World->Prop): ∀(r:List Oper) (i:Nat) (a:Act) (w:World),(∀j,r[j]? =ops[i+j]?)->oX P Q r a w->wpOps P ops Q (range' i r.length) a w
 |[],i,a,w,_,h=>h
 |o::r,i,a,w,b,h=>by
  have f:ops[i]? =some o:=by simpa using(b 0).symm
  have g: ∀j,r[j]? =ops[i+1+j]? :=fun j=>by
   have:=b (j+1)
   grind
  simp only[cB,CD]
  rw[wpOps_cons]
  unfold wpOp
  simp only[f]
  simp only[wanted,h.1,cN]
  exact .inl (Oper.wp_mono (fun e w' h'=>NP ops Q r (i+1) e w' g h') h.2)
theorem NQ {id:Nat} {ops:Array Oper} {Q:Exit->Act->World->Prop} {a:Act} {w:World} (h:oX P Q ops.toList a w):(Code.region id ops false).wp P Q a w:=by
 refine wp_region ?_
 have:=NP ops Q ops.toList 0 a w (by simp) h
 grind [List.range_eq_range']
def vL:Value->Value->Bool
 | .int i n,.int j m=>i==j&&n !=m
 | .string x,.string y=> !(x==y)
 |_,_=>false
def C7 (k:Value) (l:List (Value×Go.Fn)):Bool:=l.all fun p=>vL k p.1
def oY:TypeDesc->Value->Bool
 | .int _,.int _ _=>true
 | .string,.string _=>true
 |_,_=>false
def cP (w:World) (b:Array MapEntry) (c:Nat):World:={w with heap:=w.heap.push (.map b c)}
theorem ad7 {d:TypeDesc} {k c:Value} (hd:oY d k=true) (h:vL k c=true):sameNow d k c=some false:=by
 cases k<;>first|(cases d<;>cases hd;done)|skip
 case int i n=>
  cases d<;>first|(cases hd;done)|skip
  cases c<;>first|(cases h;done)|skip
  grind [vL,sameNow]
 case string x=>
  cases d<;>first|(cases hd;done)|skip
  cases c<;>first|(cases h;done)|skip
  grind [vL,Bool.not_eq_true',sameNow]
theorem C8 {d:TypeDesc} {k:Value} (hd:oY d k=true): ∀(h:List (Value×Go.Fn)) (b:List MapEntry) (i:Nat),C7 k h=true->b.map (fun e=>(e.key,e.val))=h.map (fun p=>(p.1,Value.func p.2 #[] #[]))->
  findNow d k b i=some none
 |[],b,i,_,g=>by
  have:b=[]:=by simpa using g
  subst this
  rfl
 |(c,f)::h,b,i,j,g=>by
  cases b with
  |nil=>simp at g
  |cons e b=>
   simp only[dJ,ls,gA] at g
   obtain⟨⟨q,r⟩,m⟩:=g
   simp only[C7,mE,aT] at j
   obtain⟨t,n⟩:=j
   have v:=C8 hd h b (i+1) n m
   grind [findNow,ad7]
theorem NR {w:World} {mt kt et:TypeId} {d:TypeDesc} (n:P.underlying mt=some (.map kt et)) (g:P.underlying kt=some d) {k x:Value} (hd:oY d k=true) {b:Array MapEntry} {c:Nat}
  (i:findNow d k b.toList 0=some none):(mapUpdate mt (.map (some w.heap.size)) k x).run P (cP w b c)= .ok () (cP w (b.push ⟨k,x,c⟩) (c+1)):=by
 have f:(cP w b c).heap[w.heap.size]? =some (.map b c):=by
  show(w.heap.push (.map b c))[w.heap.size]? =_
  simp
 have m: ∀y,(w.heap.push (.map b c)).setIfInBounds w.heap.size y=w.heap.push y:=fun y=>by
  grind
 have j:(getObj w.heap.size).run P (cP w b c)= .ok (.map b c) (cP w b c):=by simp[getObj,Sem.run,f]
 have h: ∀e:Bool,(checkKey e 10000 kt k).run P (cP w b c)= .ok () (cP w b c):=fun e=>by
  unfold checkKey
  simp only[aD,bi g,eg]
  unfold oY at hd
  split at hd<;>first|rfl|cases hd
 simp_all [setObj,Array.push,cP,Sem.run,mapUpdate,aD,bi,Instr.findKey]
def vM (mt:TypeId) (t:Tmp) (o:Oper):Option (Value×Go.Fn):=
 match o.op,o.dst,o.guard with
 | .insert b (.tmp e) (.const k) (.func f),none,none=>if b=mt/\e=t then some (k,.func f) else none
 |_,_,_=>none
theorem ad8 {mt:TypeId} {t:Tmp} {o:Oper} {p:Value×Go.Fn} (h:vM mt t o=some p): ∃f,p.2= .func f/\o.op= .insert mt (.tmp t) (.const p.1) (.func f)/\o.dst=none/\o.guard=none:=by
 grind [vM]
def vN (mt:TypeId) (t:Tmp) (o b:Oper):Option (Value×Go.Fn):=
 match o.op,o.dst,o.guard,b.op,b.dst,b.guard with
 | .makeFunc g x y,some t2,none,.insert e (.tmp f) (.const k) (.tmp h),none,none=>if e=mt/\f=t/\h=t2/\t2≠t/\x.toList=[]/\y.toList=[] then some (k,g) else none
 |_,_,_,_,_,_=>none
theorem ad9 {mt:TypeId} {t:Tmp} {o b:Oper} {p:Value×Go.Fn} (h:vN mt t o b=some p):
  ∃t2,o.op= .makeFunc p.2 #[] #[]/\o.dst=some t2/\o.guard=none/\t2≠t/\b.op= .insert mt (.tmp t) (.const p.1) (.tmp t2)/\b.dst=none/\b.guard=none:=by
 unfold vN at h
 split at h
 ·rename_i g x y t2 z A k D f i j m n q
  split at h
  ·rename_i e
   obtain⟨rfl,rfl,rfl,r,v,w⟩:=e
   cases h
   simp_all
  ·cases h
 ·cases h
def dF (mt:TypeId) (n:Nat) (t:Tmp):List Oper->List (Value×Go.Fn)×List Oper
 |[]=>([],[])
 |o::r=>match vM mt t o with
  |some p=>((p::(dF mt n t r).1),(dF mt n t r).2)
  |none=>match r with
   |[]=>([],o::r)
   |e::b=>match vN mt t o e,o.dst with
    |some p,some t2=>cond (blt t2 n) ((p::(dF mt n t b).1),(dF mt n t b).2) ([],o::r)
    |_,_=>([],o::r)
def rb:List (Value×Go.Fn)->List (Value×Go.Fn)->Bool
 |_,[]=>true
 |pre,p::r=>C7 p.1 pre&&rb (pre++ [p]) r
theorem C9 {Q:Exit->Act->World->Prop} {mt kt et:TypeId} {d:TypeDesc} (F:P.underlying mt=some (.map kt et)) (E:P.underlying kt=some d) {t:Tmp} {w:World} {n:Nat}:
  ∀(m:Nat) (l:List Oper) (j:List (Value×Go.Fn)) (g:Array MapEntry) (c:Nat) (a:Act),l.length<=m->a.tmps.size=n->a.tmps[t]? =some (.map (some w.heap.size))->g.toList.map (fun e=>(e.key,e.val))=j.map (fun p=>(p.1,Value.func p.2 #[] #[]))->
   rb j (dF mt n t l).1=true->(dF mt n t l).1.all (fun p=>oY d p.1)=true->
   (∀z A q,q.tmps.size=n->q.tmps[t]? =some (.map (some w.heap.size))->q.defers=a.defers->z.toList.map (fun e=>(e.key,e.val))=(j++(dF mt n t l).1).map (fun p=>(p.1,Value.func p.2 #[] #[]))->oX P Q (dF mt n t l).2 q (cP w z A))->
   oX P Q l a (cP w g c)
 |_,[],j,g,c,a,_,Z,L,D,_,_,v=>by
  grind [dF]
 |0,o::r,_,_,_,_,y,_,_,_,_,_,_=>by simp at y
 |m+1,o::r,j,g,c,a,y,Z,L,D,i,h,v=>by
  simp only[cB] at y
  have b0:a.eval (.tmp t)= .map (some w.heap.size):=by simp[eval,mB,L]
  cases hi:vM mt t o with
  |some p=>
   have e:dF mt n t (o::r)=((p::(dF mt n t r).1),(dF mt n t r).2):=by grind [dF.eq_def]
   rw[e] at v i h
   obtain⟨f,b5,V,J,K⟩:=ad8 hi
   simp only[rb,aT,mE] at i h
   refine⟨K,?_⟩
   have a8:=NR (P:=P) (w:=w) (c:=c) (x:= .func p.2 #[] #[]) F E h.1 (C8 h.1 j g.toList 0 i.1 D)
   unfold wp
   have M:(execOp a.eval o).run P (cP w g c)= .ok .skip (cP w (g.push ⟨p.1,.func p.2 #[] #[],c⟩) (c+1)):=by
    simp_all [execOp,eval,aD]
   rw[M,Cg,J]
   have O:a.put none undef=a:=rfl
   rw[O]
   refine C9 F E m r (j++ [p]) _ (c+1) a (by omega) Z L ?_ i.2 h.2 (fun z A q s' U I h'=>v z A q s' U I (by grind))
   simp[D]
  |none=>
   have skip (e:dF mt n t (o::r)=([],o::r)):oX P Q (o::r) a (cP w g c):=by
    simp_all
   match r,y,i,h,v,skip with
   |[],y,i,h,v,skip=>grind [dF.eq_def]
   |R::G,y,i,h,v,skip=>
    simp only[cB] at y
    cases a6:vN mt t o R with
    |none=>grind [dF.eq_def]
    |some p=>
     obtain⟨t2,V,J,K,b4,a0,a1,a2⟩:=ad9 a6
     cases b3:blt t2 n with
     |false=>grind [dF.eq_def]
     |true=>
      have e:dF mt n t (o::R::G)=((p::(dF mt n t G).1),(dF mt n t G).2):=by grind [dF.eq_def]
      have a7:t2<a.tmps.size:=by simp_all
      rw[e] at v i h
      simp only[rb,aT,mE] at i h
      refine⟨K,?_⟩
      unfold wp
      have a5:(execOp a.eval o).run P (cP w g c)= .ok (.value (.func p.2 #[] #[])) (cP w g c):=by
       simp[execOp,V,Instr.makeFunc]
      rw[a5,oO,J]
      generalize X:a.put (some t2) (.func p.2 #[] #[])=b
      have a3:b.tmps.size=n:=by grind [Act.put]
      have Y:b.tmps[t]? =some (.map (some w.heap.size)):=by
       grind [Act.put]
      have a4:b.defers=a.defers:=by rw[<-X];rfl
      have a9:b.eval (.tmp t2)= .func p.2 #[] #[]:=by
       rw[<-X]
       simp[eval,Act.put,mB,a7]
      have b1:b.eval (.tmp t)= .map (some w.heap.size):=by simp[eval,mB,Y]
      refine⟨a2,?_⟩
      have a8:=NR (P:=P) (w:=w) (c:=c) (x:= .func p.2 #[] #[]) F E h.1 (C8 h.1 j g.toList 0 i.1 D)
      unfold wp
      have M:(execOp b.eval R).run P (cP w g c)= .ok .skip (cP w (g.push ⟨p.1,.func p.2 #[] #[],c⟩) (c+1)):=by
       simp only[execOp,a0]
       have b2:b.eval (.const p.1)=p.1:=rfl
       simp_all
      rw[M,Cg,a1]
      have O:b.put none undef=b:=rfl
      rw[O]
      refine C9 F E m G (j++ [p]) _ (c+1) b (by omega) a3 Y ?_ i.2 h.2 (fun z A q s' U I h'=>v z A q s' U (I.trans a4) (by grind))
      simp[D]
def Da (fn:Func):Option (TypeId×List (Value×Go.Fn)):=
 match fn.body,fn.results.toList with
 |some (.seq (.region _ a false) (.seq (.region _ b false) .ret)),[.tmp d]=>match a.toList,b.toList with
  |[f],g::h=>match f.op,f.dst,f.guard,g.op,g.dst,g.guard with
   | .assign (.const _),some j,none,.makeMap mt none,some t,none=>match(dF mt fn.ntmps t h).2 with
    |[mv,e]=>match mv.op,mv.dst,mv.guard,e.op,e.dst,e.guard with
     | .move (.tmp m),some t2,none,.assign (.tmp n),some i,none=>
      if m=t/\n=t2/\i=d/\j<fn.ntmps/\t<fn.ntmps/\t2<fn.ntmps/\d<fn.ntmps then some (mt,(dF mt fn.ntmps t h).1) else none
     |_,_,_,_,_,_=>none
    |_=>none
   |_,_,_,_,_,_=>none
  |_,_=>none
 |_,_=>none
def rc (b:List (Value×Go.Fn)):bd:=fun avs H=>
 match avs,H with
 |[],[]=>⟨Unit,some (),fun _=>(.gm b,[]),[],none⟩
 |_,_=>ad.no
theorem aea {fn:Func} {mt:TypeId} {m:List (Value×Go.Fn)} (h:Da fn=some (mt,m)):
  ∃(n p:Nat) (a b:Array Oper) (f g mv e:Oper) (i:List Oper) (q:Value) (j t t2 d:Tmp),fn.body=some (.seq (.region n a false) (.seq (.region p b false) .ret))/\fn.results.toList=[.tmp d]/\a.toList=[f]/\b.toList=g::i/\
   f.op= .assign (.const q)/\f.dst=some j/\f.guard=none/\g.op= .makeMap mt none/\g.dst=some t/\g.guard=none/\dF mt fn.ntmps t i=(m,[mv,e])/\mv.op= .move (.tmp t)/\mv.dst=some t2/\mv.guard=none/\
   e.op= .assign (.tmp t2)/\e.dst=some d/\e.guard=none/\t<fn.ntmps/\t2<fn.ntmps/\d<fn.ntmps:=by
 unfold Da at h
 split at h
 ·rename_i n a p b d L O
  split at h
  ·rename_i f g i K M
   split at h
   ·rename_i q j R t D E F G I J
    split at h
    ·rename_i mv e Q
     split at h
     ·rename_i U t2 V r v w x y z A
      split at h
      all_goals grind
     ·cases h
    ·cases h
   ·cases h
  ·cases h
 ·cases h
theorem Db {f:FuncId} {fn:Func} {mt kt et:TypeId} {d:TypeDesc} {q:List (Value×Go.Fn)} (b2:P.funcs[f]? =some fn) (h:Da fn=some (mt,q)) (I:P.underlying mt=some (.map kt et)) (b3:P.underlying kt=some d)
  (d4:rb [] q=true) (d2:q.all (fun p=>oY d p.1)=true):Sound P f (rc q):=by
 obtain⟨e8,e9,a,b,U,c3,mv,Y,V,X,c9,t,t2,L,j,d7,a9,b0,a4,d0,a5,a6,a7,a8,c0,Z,M,a0,a1,a2,a3,c6,c7,c8⟩:=aea h
 intro avs H r c5 y D w args ι b6 d1 d5 d6 F
 unfold rc at y⊢
 split at y
 ·simp only[ad.run,ad.dec,bn,ew,gA] at y
  obtain⟨rfl,rfl⟩:=y
  have F:args=[]:=F
  subst F
  have A: ∀(ι:aX) (g b:Nat),¬aP ι [] g b:=fun ι g b o=>by
   grind [aP.row]
  refine calls_of_wp b2 j ?_
  have G: ∀{x:Act} {u:Tmp} {v:Value},u<x.tmps.size->(x.put (some u) v).tmps[u]? =some v/\(x.put (some u) v).tmps.size=x.tmps.size:=fun {x u v} I=>by
   simp[Act.put,I]
  have d3: ∀(x:Act) (u:Option Tmp) (v:Value),(x.put u v).defers=x.defers:=fun x u v=>by cases u<;>rfl
  have d9: ∀(x:Act) (u:Option Tmp) (v:Value),(x.put u v).tmps.size=x.tmps.size:=fun x u v=>by cases u<;>simp[Act.put]
  let c4:Exit->Act->World->Prop:=fun e x w'=>e= .ret/\x.defers=[]/\ ∃i c,w'=cP w i c/\x.tmps[L]? =some (.map (some w.heap.size))/\i.toList.map (fun e=>(e.key,e.val))=q.map (fun p=>(p.1,Value.func p.2 #[] #[]))
  refine wp_mono (Q:=c4) (wp_seq ?_) fun e x w' b9=> ?_
  ·refine NQ ?_
   rw[a9]
   refine⟨a5,?_⟩
   unfold wp
   have b1: ∀(x:Act) (w:World),(execOp x.eval U).run P w= .ok (.value X) w:=fun x w=>by
    simp[execOp,a4,eval]
   rw[b1,oO]
   show Code.wp P _ _ _ _
   refine wp_seq (NQ ?_)
   rw[b0]
   refine⟨a8,?_⟩
   unfold wp
   generalize e2:Act.put _ U.dst X=E
   have e3:E.defers=[]:=by grind
   have c1:E.tmps.size=fn.ntmps:=by grind
   have b4:(execOp E.eval c3).run P w= .ok (.value (.map (some w.heap.size))) (cP w #[] 0):=by
    simp[execOp,a6,Instr.makeMap,newObj,aD,Sem.run,cP]
   rw[b4,oO,a7]
   have O:=G (x:=E) (u:=t) (v:= .map (some w.heap.size)) (by simp_all)
   refine C9 I b3 V.length V [] #[] 0 _ (aS _) (O.2.trans c1) O.1 rfl (by simp_all) (by grind) fun i c J e5 e6 e4 z=> ?_
   rw[c0] at z⊢
   refine⟨a0,?_⟩
   unfold wp
   have b5:(execOp J.eval mv).run P (cP w i c)= .ok (.value (.map (some w.heap.size))) (cP w i c):=by
    simp_all [eval,mB,execOp]
   rw[b5,oO,M]
   refine⟨a3,?_⟩
   unfold wp
   have R:=G (x:=J) (u:=t2) (v:= .map (some w.heap.size)) (by simp_all)
   generalize e7:J.put (some t2) (.map (some w.heap.size))=K at R
   have has:(execOp K.eval Y).run P (cP w i c)= .ok (.value (.map (some w.heap.size))) (cP w i c):=by
    have:K.eval (.tmp t2)= .map (some w.heap.size):=by simp[eval,mB,R.1]
    simp[execOp,a1,this]
   rw[has,oO,a2]
   have c2:=G (x:=K) (u:=L) (v:= .map (some w.heap.size)) (by simp_all)
   refine wp_ret ⟨rfl,?_,i,c,rfl,c2.1,z⟩
   grind
  ·obtain⟨rfl,hd,i,c,rfl,e0,z⟩:=b9
   have b8: ∀b,b<w.heap.size->(cP w i c).heap[b]? =w.heap[b]? :=fun b j=>by
    show(w.heap.push _)[b]? =_
    grind
   have b7:(cP w i c).heap[w.heap.size]? =some (.map i c):=by
    show(w.heap.push (.map i c))[w.heap.size]? =_
    simp
   have d8:(cP w i c).heap.size=w.heap.size+1:=by
    show(w.heap.push (.map i c)).size=_
    simp
   refine⟨hd,.map (some w.heap.size),?_,?_⟩
   ·simp_all [oU,cP,Nc,Nd,undef,mB,aD,NI]
   ·refine⟨_,ι,rfl,⟨rfl,rfl,rfl,by omega,fun b j=>b8 b j.1,fun x e1=> ?_⟩,⟨fun g r n=>by simp at n,fun Z M b o _=>absurd o (A _ _ _),fun g b o=>absurd o (A _ _ _),fun g t xss m cs n=>by simp at n⟩,fun b j=>⟨by have:=j.1;omega,fun g=>A _ _ _⟩,fun g n=>absurd n (by simp),?_⟩
    ·grind [frozen?]
    ·exact⟨w.heap.size,i,c,rfl,⟨b6 _ (aS _),by omega,fun g=>A _ _ _⟩,by omega,b7,z⟩
 grind [ad.no,ad.run]
def NT (a:AV):AV:=cond a.cf .undef a
def oZ:Row->Row
 | .box cs=> .box (cs.map NT)
 |r=>r
def hK (H:Heap):Heap:=H.map (Option.map oZ)
def vO (q:AV×Heap):AV×Heap:=(q.1,hK q.2)
def rd (F:bd):bd:=fun avs H=>⟨(F avs H).τ,(F avs H).o,fun x=>vO ((F avs H).enc x),(F avs H).mv,(F avs H).alt.map fun p=>(p.1,fun x=>vO (p.2 x))⟩
def NU (i g:Nat) (avs:List AV):Bool:=match avs[i]? with|some (.fn h _ _)=>beq h g|_=>false
def re (i g:Nat) (F G:bd):bd:=fun avs H=>cond (NU i g avs) (F avs H) (G avs H)
theorem Sound.pick {P:Program} {f:FuncId} {F b:bd} (j:Sound P f F) (m:Sound P f b) (i g:Nat):Sound P f (re i g F b):=by
 intro avs H
 cases h:NU i g avs with
 |true=>
  have e:re i g F b avs H=F avs H:=by simp[re,h]
  rw[e]
  exact j avs H
 |false=>
  have e:re i g F b avs H=b avs H:=by simp[re,h]
  rw[e]
  exact m avs H
theorem aeb (F:bd) (avs:List AV) (H:Heap) (x:(F avs H).τ):(rd F avs H).dec x=vO ((F avs H).dec x):=by
 unfold rd ad.dec
 grind
theorem aec {F:bd} {avs:List AV} {H:Heap} {r:AV} {b:Heap} (h:(rd F avs H).run=some (r,b)): ∃f,(F avs H).run=some (r,f)/\b=hK f:=by
 have g:(F avs H).o.map (fun x=>vO ((F avs H).dec x))=some (r,b):=by
  rw[<-h]
  unfold ad.run
  congr 1
  grind [aeb]
 obtain⟨x,j,e⟩:=co.1 g
 cases i:(F avs H).dec x with
 |mk m f=>
  rw[i] at e
  cases e
  grind [ad.run]
theorem vP {H:Heap} {h:Nat} {r:Row} (e:(hK H)[h]? =some (some r)): ∃b,H[h]? =some (some b)/\r=oZ b:=by
 unfold hK at e
 rw[ei] at e
 cases f:H[h]? with
 |none=>simp_all
 |some x=>
  cases x<;>simp_all
theorem vQ {H:Heap} {h:Nat} {r:Row} (e:H[h]? =some (some r)):(hK H)[h]? =some (some (oZ r)):=by
 grind [hK]
theorem NV {r:Row} {t:Ty} {xss:List (List t.den)} {m:Nat} {cs:List AV} (e:oZ r= .nest t xss m cs):r= .nest t xss m cs:=by
 cases r<;>first|exact e|cases e
theorem vR (ι:aX) (H:Heap):sumOf ι (hK H)=sumOf ι H:=by
 funext h
 unfold sumOf
 cases b:H[h]? with
 |none=>grind [hK]
 |some x=>
  cases x with
  |none=>grind [hK]
  |some r=>
   rw[vQ b]
   cases r<;>simp[oZ,Row.cells,Row.len]
theorem vS {ι:aX} {H:Heap} {h b:Nat}:aP ι (hK H) h b↔aP ι H h b:=by
 constructor
 ·intro o
  cases o with
  |out r p g f e=>
   obtain⟨n,j,_⟩:=vP g
   exact .out n p j f e
  |aq t xss m cs i p g hi f e=>
   obtain⟨n,j,q⟩:=vP g
   rw[NV q.symm] at j
   exact .aq t xss m cs i p j hi f e
 ·intro o
  cases o with
  |out r p g f e=>exact .out _ p (vQ g) f e
  |aq t xss m cs i p g hi f e=>exact .aq t xss m cs i p (vQ g) hi f e
theorem NW {w:World} {ι:aX} {H:Heap} {b:Nat}:aN w ι (hK H) b↔aN w ι H b:=by
 simp_all [aN,vS]
theorem Dc (D:Nat->Prop) (w:World) (ι:aX) (H:Heap):dst D w ι (hK H)=dst D w ι H:=by
 grind [dst,NW]
theorem aed {w:World} {S:Nat->Prop} {σ:Nat->Option Sum} {p:Option (Nat×Nat×Nat)} {r:Row} (h:bF w S σ p r):bF w S σ p (oZ r):=by
 cases r with
 |seq t xs=>exact h
 |nest t xss m cs=>exact h
 |box cs=>
  obtain⟨b,o,c,n,e,q,x,y⟩:=h
  refine⟨b,o,c,n,e,q,x,fun j a f=> ?_⟩
  rw[ei] at f
  cases i:cs[j]? with
  |none=>simp_all
  |some g=>
   rw[i] at f
   cases f
   obtain⟨v,D,z,A⟩:=y j g i
   refine⟨v,D,z,?_⟩
   unfold NT
   cases g.cf with
   |true=>exact trivial
   |false=>exact A
theorem Sound.forget {f:FuncId} {F:bd} (I:Sound P f F):Sound P f (rd F):=by
 intro avs H r a2 h D w args ι Q J M U K
 obtain⟨q,E,rfl⟩:=aec h
 refine(I avs H r q E D w args ι Q J M U K).mono fun e w' R=> ?_
 obtain⟨v,a1,rfl,O,j,V,X,a3⟩:=R
 refine⟨v,a1,rfl,O,⟨fun g x i=> ?_,fun z A b Z a0=>j.one z A b (vS.1 Z) (vS.1 a0),fun g b o=>j.has g b (vS.1 o),fun g t xss m cs i=> ?_⟩,fun b L=>NW.2 (V b L),fun g i=> ?_,?_⟩
 ·obtain⟨p,n,rfl⟩:=vP i
  rw[Dc,vR]
  exact aed (j.rows g p n)
 ·obtain⟨p,n,y⟩:=vP i
  rw[NV y.symm] at n
  rw[Dc,vR]
  exact j.nest g t xss m cs n
 ·obtain⟨G,x,Y⟩:=X g i
  rw[vR]
  exact⟨G,_,vQ Y⟩
 grind [Dc,vR]
end
end Go.Rv
universe u
namespace Go.Rv
abbrev dI (x:Int):AV:= .aa (.int .i64) x
abbrev dU (x:Int):AV:= .aa (.int .u8) x
abbrev dW (x:Int):AV:= .aa (.int .u64) x
abbrev dB (x:Bool):AV:= .aa .bool x
abbrev dS (x:ByteArray):AV:= .aa .str x
abbrev dL (x:List Int):AV:= .aa (.list (.int .i64)) x
abbrev sI (x:List Int):Row:= .seq (.int .i64) x
abbrev sU (x:List Int):Row:= .seq (.int .u8) x
theorem be {b:Type u} {p:b->Prop} {a:b} {l:List b} (h:p a) (t: ∀x∈l,p x): ∀x∈a::l,p x:=List.forall_mem_cons.2 ⟨h,t⟩
theorem dd {b:Type u} {p:b->Prop}: ∀x∈([]:List b),p x:=fun x h=>by cases h
end Go.Rv
namespace Go.Rv
def ly (N:Nat) (p:List (Nat×AV)×Heap):St:=⟨cu N 0 p.1,p.2⟩
theorem bf {g β:Type} {p:g⊕β->Prop} (e: ∀a,p (.inl a)) (f: ∀b,p (.inr b)): ∀t,p t
 | .inl a=>e a
 | .inr b=>f b
theorem ae:(∀{b β:Type} (o:Option b) (f:b->Option β) (K:β->Prop),aJ (o.bind f) K=aJ o (fun a=>aJ (f a) K))/\(∀{b:Type} (g:Bool) (x y:Option b) (K:b->Prop),aJ (cond g x y) K=cond g (aJ x K) (aJ y K))/\
  (∀{b β:Type} (o:Option b) (f:b->β) (K:β->Prop),aJ (o.map f) K=aJ o (fun a=>K (f a)))/\(∀{b:Type} (a:b) (K:b->Prop),aJ (some a) K=K a)/\ ∀{b:Type} (K:b->Prop),aJ none K=False:=⟨ov,adY,BF,ih,kZ⟩
inductive LO where
 |t (l:List hb)
 |k (l:List Nat)
 |p (l:List Nat)
 |d (calm order:List Nat)
def Dd (l:List Nat):Nat:=l.foldr (fun i m=>lor (Nat.shiftLeft 1 i) m) 0
def De (m i:Nat):Nat:=Nat.sub m (land m (Nat.shiftLeft 1 i))
def vT (m:Nat):Nat->Nat->List Nat
 |0,_=> []
 |n+1,i=>cond (beq (land (Nat.shiftRight m i) 1) 1) (i::vT m n (i+1)) (vT m n (i+1))
def vU:List Operand->List Nat
 |[]=> []
 | .tmp t::r=>t::vU r
 |_::r=>vU r
def aee (ops:Array Oper) (j:Nat):List Nat:=match ops[j]? with|some o=>(match o.dst with|some d=> [d]|none=> [])|none=> []
def aef (ops:Array Oper) (o:Oper) (m:Nat):Nat:=
 lor (Dd (vU o.op.operands.toList++(match o.guard with|some (j,_)=>aee ops j|none=> []))) (match o.dst with|some d=>De m d|none=>m)
def vV:List ResultVar->List Nat
 |[]=> []
 | .tmp t::r=>t::vV r
 | .cell p _::r=>p::vV r
def Df:List (Nat×Nat)->Nat->Nat
 |[],_=>0
 |p::r,i=>cond (beq p.1 i) p.2 (Df r i)
def Dg (f:Nat->Nat):Nat->Nat->Nat
 |0,m=>m
 |n+1,m=>cond (beq (lor m (f m)) m) m (Dg f n (lor m (f m)))
def lz (R:Nat):Code->Nat->List (Nat×Nat)->Nat
 | .ret,_,_=>R
 | .exit i,_,e=>Df e i
 | .region _ ops _,m,_=>ops.toList.foldr (aef ops) m
 | .seq a b,m,e=>lz R a (lz R b m e) e
 | .cond c a b,m,e=>lor (Dd (vU [c])) (lor (lz R a m e) (lz R b m e))
 | .block i c,m,e=>lz R c m ((i,m)::e)
 | .loop c,_,e=>Dg (fun m=>lz R c m e) 20 0
 |_,m,_=>m
def vW:List (Nat×LO)->Nat->List hb
 |[],_=> []
 |(j,.t l)::r,i=>cond (beq i j) l (vW r i)
 |_::r,i=>vW r i
def vX:List (Nat×LO)->Nat->List Nat
 |[],_=> []
 |(j,.k l)::r,i=>cond (beq i j) l (vX r i)
 |_::r,i=>vX r i
def Dh:List (Nat×LO)->Nat->List Nat->List Nat×List Nat
 |[],_,l=>([],l)
 |(j,.d x y)::r,i,l=>cond (beq i j) (x,y.casesOn l fun _ _=>y) (Dh r i l)
 |_::r,i,l=>Dh r i l
def Di (N:Nat) (b:List (Nat×LO)) (i m:Nat):bj:=
 let v:=vT ((vX b i).foldr (fun j m=>De m j) m) N 0
 (vW b i).casesOn (.leaf v) fun x l=> .kc (x::l) v
def ng (N R:Nat) (f:List (Nat×LO)):Code->Nat->List (Nat×Nat)->Nat->bj×Nat
 | .ret,_,_,i=>(Di N f i R,i+1)
 | .exit j,_,e,i=>(Di N f i (Df e j),i+1)
 | .region _ ops true,m,_,i=>
  let v:=vT ((vX f i).foldr (fun j m=>De m j) m) N 0
  let p:=Dh f i (List.range ops.size)
  (.draw p.1 p.2 (vW f i) v,i+1)
 | .seq a b,m,e,i=>
  let y:=ng N R f b m e i
  let x:=ng N R f a (lz R b m e) e y.2
  (.seq x.1 y.1,x.2)
 | .cond _ a b,m,e,i=>
  let y:=ng N R f b m e i
  let x:=ng N R f a m e y.2
  (.cond x.1 y.1,x.2)
 | .block j c,m,e,i=>
  let x:=ng N R f c m ((j,m)::e) i
  (.block x.1,x.2)
 | .loop c,_,e,i=>
  let x:=ng N R f c (Dg (fun m=>lz R c m e) 20 0) e i
  (.loop x.1,x.2)
 |_,m,_,i=>(Di N f i m,i+1)
def NX:List (Nat×LO)->List Nat
 |[]=> []
 |(_,.p l)::_=>l
 |_::r=>NX r
def gI (b:List (Nat×LO)) (fn:Func):bj:=
 let R:=Dd (vV fn.results.toList++NX b)
 (ng fn.ntmps R b (ct fn) R [] 0).1
structure Lk (k:Bool) (N:Nat) (C:Ctx) (c:Code) (an:bj) (s:St) {τ:Type} (n:Option τ) (fin:τ->Exit×St):Prop where
 go:k=true->dn C LL c an s n fin
def rf:Code->bj->Bool
 | .seq _ _,.seq _ _=>true
 |_,_=>false
def NY:Code->bj->Bool
 | .cond _ _ _,.cond _ _=>true
 |_,_=>false
def NZ:Code->bj->Bool
 | .block _ _,.block _=>true
 |_,_=>false
def N0:Code->bj->Bool
 | .loop _,.loop _=>true
 |_,_=>false
theorem vY: ∀{c:Code} {an:bj},rf c an=true->c= .seq (Code.fst c) (Code.snd c)/\an= .seq an.fst an.snd
 | .seq _ _,.seq _ _,_=>⟨rfl,rfl⟩
def N1:Code->Operand
 | .cond o _ _=>o
 |_=> .tmp 0
theorem aeg: ∀{c:Code} {an:bj},NY c an=true->c= .cond (N1 c) (Code.fst c) (Code.snd c)/\an= .cond an.fst an.snd
 | .cond _ _ _,.cond _ _,_=>⟨rfl,rfl⟩
def vZ:Code->Nat
 | .block i _=>i
 |_=>0
theorem aeh: ∀{c:Code} {an:bj},NZ c an=true->c= .block (vZ c) (Code.fst c)/\an= .block an.fst
 | .block _ _,.block _,_=>⟨rfl,rfl⟩
theorem aei: ∀{c:Code} {an:bj},N0 c an=true->c= .loop (Code.fst c)/\an= .loop an.fst
 | .loop _,.loop _,_=>⟨rfl,rfl⟩
def v6:Exit->Bool
 | .normal=>true
 |_=>false
theorem N2 {i:Type} {fin:i->Exit×St} (h: ∀e,v6 (fin e).1=false):C4 fin:=fun e f K g=>by
 have b:=h e
 cases c:(fin e).1 with
 |normal=>rw[c] at b;cases b
 |_=>rw[c] at g;exact g
section
variable {N : Nat} {C : Ctx} {c : Code} {an : bj} {s : St} {k k1 k2 : Bool}
theorem Lk.ch {τ:Type} {n:Option τ} {fin:τ->Exit×St} (h: ∀K:Exit->St->Prop,aJ n (fun x=>K (fin x).1 (fin x).2)=bt C LL c an s K):Lk true N C c an s n fin:=⟨fun _=>⟨fun K b=>(h K).mp b⟩⟩
theorem Lk.seq {τ e:Type} {n:Option τ} {m:τ->Option e} {fin:e->Exit×St} (st:τ->List (Nat×AV)×Heap) (f:Lk k1 N C (Code.fst c) an.fst s n (fun t=>(Exit.normal,ly N (st t))))
  (g: ∀t,Lk k2 N C (Code.snd c) an.snd (ly N (st t)) (m t) fin):Lk (rf c an&&(k1&&k2)) N C c an s (n.bind m) fin:=by
 refine⟨fun b=> ?_⟩
 simp only[aT] at b
 obtain⟨i,h⟩:=vY b.1
 rw[i,h]
 exact adZ (f.go b.2.1) (fun t=>(g t).go b.2.2)
theorem Lk.aK {τ g f:Type} {n:Option (τ⊕g)} {m:τ->Option f} {j:g->f} {fin:f->Exit×St} (q: ∀e,v6 (fin (j e)).1=false) (st:τ->List (Nat×AV)×Heap)
  (h:Lk k1 N C (Code.fst c) an.fst s n (Sum.elim (fun t=>(Exit.normal,ly N (st t))) (fun e=>fin (j e))))
  (i: ∀t,Lk k2 N C (Code.snd c) an.snd (ly N (st t)) (m t) fin):Lk (rf c an&&(k1&&k2)) N C c an s (n.bind (Sum.elim m (fun e=>some (j e)))) fin:=by
 refine⟨fun b=> ?_⟩
 simp only[aT] at b
 obtain⟨r,p⟩:=vY b.1
 rw[r,p]
 exact ad1 (h.go b.2.1) (fun t=>(i t).go b.2.2) j (fun _=>rfl) (N2 q)
theorem Lk.map {τ b:Type} {n:Option τ} {f:τ->b} {fin:b->Exit×St} (h:Lk k N C c an s n (fun t=>fin (f t))):Lk k N C c an s (n.map f) fin:=⟨fun e=>ad2 (h.go e) f (fun _=>rfl)⟩
theorem Lk.cond {g:Bool} {τ:Type} {n m:Option τ} {fin:τ->Exit×St} (j:ay s (N1 c)=some (.aa .bool g)) (e:Lk k1 N C (Code.fst c) an.fst s n fin) (f:Lk k2 N C (Code.snd c) an.snd s m fin):Lk (NY c an&&(k1&&k2)) N C c an s (_root_.cond g n m) fin:=by
 refine⟨fun b=> ?_⟩
 simp only[aT] at b
 obtain⟨i,h⟩:=aeg b.1
 rw[i,h]
 exact ad3 j (e.go b.2.1) (f.go b.2.2)
def Dj (id:Nat):Bool->Exit×St->Exit×St
 |true,p=>(.exit id,p.2)
 |false,p=>p
def N3 (id:Nat):Bool->Exit->Bool
 |true,e=>v6 e
 |false,.exit i=> !(beq i id)
 |false,_=>true
theorem Lk.block {τ p:Type} {n:Option τ} {f:τ->p} {fin:p->Exit×St} (g:τ->Bool) (v: ∀t,N3 (vZ c) (g t) (fin (f t)).1=true)
  (h:Lk k N C (Code.fst c) an.fst s n (fun t=>Dj (vZ c) (g t) (fin (f t)))):Lk (NZ c an&&k) N C c an s (n.map f) fin:=by
 refine⟨fun b=> ?_⟩
 simp only[aT] at b
 obtain⟨r,q⟩:=aeh b.1
 rw[r,q]
 refine ad4 (h.go b.2) f (fun t K b=> ?_)
 have j:=v t
 cases m:g t with
 |true=>
  rw[m] at j
  simp only[Dj,qC,cN]
  cases e:(fin (f t)).1 with
  |normal=>rw[e] at b;exact b
  |_=>rw[e] at j;cases j
 |false=>
  rw[m] at j
  simp only[Dj]
  cases e:(fin (f t)).1 with
  |exit i=>
   rw[e] at b j
   have ne: ¬i=vZ c:=fun z=>by
    subst z
    simp[N3] at j
   simp only[qC,aG ne]
   exact b
  |_=>rw[e] at b;exact b
theorem Lk.loop {σ f:Type} {body:σ->Option (σ⊕f)} {i:σ} {fin:f->Exit×St} (h: ∀e,v6 (fin e).1=false) (mk:σ->List (Nat×AV)×Heap) (n:s=ly N (mk i))
  (j: ∀t,Lk k N C (Code.fst c) an.fst (ly N (mk t)) (body t) (Sum.elim (fun t=>(Exit.normal,ly N (mk t))) fin)):Lk (N0 c an&&k) N C c an s (ai body LL i) fin:=by
 refine⟨fun b=> ?_⟩
 simp only[aT] at b
 obtain⟨m,g⟩:=aei b.1
 rw[m,g,n]
 exact ad5 (N2 h) (fun t=>(j t).go b.2) i
def lA:Nat->Code->Code×Code
 |0,c=>(Code.fst c,Code.snd c)
 |k+1,c=>(.seq (Code.fst c) (lA k (Code.snd c)).1,(lA k (Code.snd c)).2)
def lB:Nat->bj->bj×bj
 |0,c=>(c.fst,c.snd)
 |k+1,c=>(.seq c.fst (lB k c.snd).1,(lB k c.snd).2)
def v7:Nat->Code->bj->Bool
 |0,c,an=>rf c an
 |k+1,c,an=>rf c an&&v7 k (Code.snd c) an.snd
theorem N4 {C:Ctx} {L:Nat}: ∀(k:Nat) (c:Code) (an:bj),v7 k c an=true-> ∀(s:St) (K:Exit->St->Prop),bt C L c an s K=bt C L (.seq (lA k c).1 (lA k c).2) (.seq (lB k an).1 (lB k an).2) s K
 |0,c,an,h,s,K=>by
  obtain⟨e,b⟩:=vY h
  show bt C L c an s K=bt C L (.seq (Code.fst c) (Code.snd c)) (.seq an.fst an.snd) s K
  rw[<-e,<-b]
 |k+1,c,an,h,s,K=>by
  simp only[v7,aT] at h
  obtain⟨e,b⟩:=vY h.1
  have f:=N4 (C:=C) (L:=L) k (Code.snd c) an.snd h.2
  rw[e,b]
  show bt C L (.seq (Code.fst c) (Code.snd c)) (.seq an.fst an.snd) s K=bt C L (.seq (.seq (Code.fst c) (lA k (Code.snd c)).1) (lA k (Code.snd c)).2) (.seq (.seq an.fst (lB k an.snd).1) (lB k an.snd).2) s K
  simp only[bt,ad0]
  congr 1
  congr 1
  funext s'
  rw[f s' K]
  simp only[bt]
theorem Lk.group (j:Nat) {τ:Type} {n:Option τ} {fin:τ->Exit×St} (h:Lk k N C (.seq (lA j c).1 (lA j c).2) (.seq (lB j an).1 (lB j an).2) s n fin):Lk (v7 j c an&&k) N C c an s n fin:=
 ⟨fun b=>by
  simp only[aT] at b
  exact⟨fun K e=>by rw[N4 j c an b.1];exact(h.go b.2).go K e⟩⟩
theorem fF {T:TT} {f:List ResultVar} {r:AV} {b:Heap} {e:Exit} {s:St} (h:(C5 e,(hJ T s f).map nf,s.heap)=(true,some r,b)):dR T f r b e s:=by
 simp only[gA,co] at h
 obtain⟨g,⟨l,i,j⟩,m⟩:=h
 exact ad6 l g i j m
theorem aej {r:AV×Heap} (h:ad.no.run=some r) {p:Prop}:p:=by simp[ad.no,ad.run] at h
structure af (P:Program) where
 f:FuncId
 F:bd
 s:Sound P f F
 c:kl P f
def af.forget {P:Program} (e:af P):af P:=⟨e.f,rd e.F,Sound.forget e.s,e.c⟩
def rg {P:Program} (l:List (af P)):List (FuncId×bd):=l.map fun e=>(e.f,e.F)
structure rh (P:Program) where
 t:List (TypeId×TI)
 ok:bP P (bH t)
 io:FuncId->Nat->Bool
 m:P.follows .mixedOrders=true
structure Fit {P:Program} (S:rh P) (l:List (af P)) (fn:Func) (d:Bool) (an:bj) (avs:List AV) (H:Heap) (a:ad):Prop where
 go: ∀r H',a.run=some (r,H')->fn.body.isSome=true/\bY ⟨bH S.t,cO (rg l),S.io,H.length,d,a.mv⟩ LL (ct fn) an (start fn.ntmps avs H) (dR (bH S.t) fn.results.toList r H')
theorem aek {fn:Func} (h:fn.body.isSome=true):fn.body=some (ct fn):=by
 unfold ct
 cases e:fn.body with
 |none=>rw[e] at h;cases h
 |some c=>rfl
section
variable {P : Program} {S : rh P} {l : List (af P)} {fn : Func} {d : Bool} {avs : List AV} {H : Heap} {τ : Type} {o : Option τ} {enc : τ -> AV × Heap} {mv : List Nat}
theorem ael {f:FuncId} (j:P.funcs[f]? =some fn) {F:bd} (i: ∀avs H,Fit S l fn d an avs H (F avs H)):Sound P f F:=fun avs H r b h=>
 gH (C:=⟨bH S.t,cO (rg l),S.io,0,d,[]⟩) (gF S.ok (fun p g=>by obtain⟨e,_,rfl⟩:=iB.1 g;exact e.s) (fun p g=>by obtain⟨e,_,rfl⟩:=iB.1 g;exact e.c) S.m) j
  (aek ((i avs H).go r b h).1) LL an (fun avs H r b h=>((i avs H).go r b h).2) avs H r b h
structure N5 (S:rh P) (l:List (af P)) (fn:Func) (d:Bool) (an:bj) (avs:List AV) (H:Heap) where
 a:ad
 h:Fit S l fn d an avs H a
def aj:N5 S l fn d an avs H:=⟨ad.no,⟨fun _ _ h=>aej h⟩⟩
def ak (S:rh P) {f:FuncId} (g:P.funcs[f]? =some fn) (e:kl P f) (l:List (af P)) (d:Bool) (i:List (Nat×LO)) (b: ∀avs H,N5 S l fn d (gI i fn) avs H):af P:=
 ⟨f,fun avs H=>(b avs H).a,ael g fun avs H=>(b avs H).h,e⟩
def ad.a {τ:Type} (o:Option τ) (enc:τ->AV×Heap):ad:=⟨τ,o,enc,[],none⟩
def N6:List ResultVar->AV->List (Nat×AV)
 |[.tmp t],a=> [(t,a)]
 |rs,.ba l=>(vV rs).zip l
 |_,_=> []
def v8 (fn:Func) (b:τ->List (Nat×AV)) (enc:τ->AV×Heap) (t:τ):Exit×St:=(.ret,ly fn.ntmps (b t,(enc t).2))
theorem fi (g:τ->List (Nat×AV)) (e:(fun t=>(fn.body.isSome,k,(hJ (bH S.t) (v8 fn g enc t).2 fn.results.toList).map nf))=fun t=>(true,true,some (enc t).1))
  (h:Lk k fn.ntmps ⟨bH S.t,cO (rg l),S.io,H.length,d,mv⟩ (ct fn) an (start fn.ntmps avs H) o (v8 fn g enc)):Fit S l fn d an avs H ⟨τ,o,enc,mv,none⟩:=by
 refine⟨fun r i f=> ?_⟩
 obtain⟨t,m,j⟩:=ad.NM f
 have b:=congrFun e t
 simp only[gA] at b
 exact⟨b.1,gG (h.go b.2.1) rfl (fun t=>fF (by
  have:=congrFun e t
  simp only[gA] at this
  rw[this.2.2]
  rfl)) f⟩
theorem al (b:(fun t=>(fn.body.isSome,k,(hJ (bH S.t) (v8 fn (fun t=>N6 fn.results.toList (enc t).1) enc t).2 fn.results.toList).map nf))=fun t=>(true,true,some (enc t).1))
  (h:Lk k fn.ntmps ⟨bH S.t,cO (rg l),S.io,H.length,d,mv⟩ (ct fn) an (start fn.ntmps avs H) o (v8 fn (fun t=>N6 fn.results.toList (enc t).1) enc)):Fit S l fn d an avs H ⟨τ,o,enc,mv,none⟩:=fi _ b h
theorem Dk {a:ad} (e:fn.body.isSome=true) (h: ∀r b,a.run=some (r,b)->bY ⟨bH S.t,cO (rg l),S.io,H.length,d,a.mv⟩ LL (ct fn) an (start fn.ntmps avs H) (dR (bH S.t) fn.results.toList r b)):Fit S l fn d an avs H a:=⟨fun r b f=>⟨e,h r b f⟩⟩
end
end
def Dl (P:Program) (t:TypeId):TK->TK
 | .kY l=>match P.underlying t with
  |some (.pointer _)=>cond (l.all fun p=>qE P t p.1 p.2) (.kY l) .hA
  |_=> .hA
 |_=>match P.underlying t with
  |some (.int k)=> .int k
  |some .string=> .str
  |some (.slice e)=> .slice e
  |some (.array n e)=> .arr n e
  |some (.struct f)=> .ex (f.toList.map fun x=>(x.offset,x.type))
  |some .bool=> .bool
  |some (.interface _)=> .hA
  |some (.map k e)=> .map k e
  |some _=> .scalar
  |none=> .kY []
theorem aem {P:Program} {t:TypeId}: ∀{k:TK},Dl P t k=k->kindOk P t k:=by
 intro k h
 cases k<;>unfold Dl at h<;>(dsimp only at h;split at h)<;>simp_all [kindOk]
 ·rename_i l _ _ _;cases c:l.all fun p=>qE P t p.1 p.2<;>simp_all
 all_goals split<;>simp_all
theorem aen {P:Program} {l:List (TypeId×TI)} (h:(l.map fun p=>(Dl P p.1 p.2.kind,(P.info? p.1).map (fun i=>(i.size,i.bytes,i.zero.map fun z=>z.cells.toList)),!p.2.eq||BX P p.1))=l.map fun p=>(p.2.kind,some (p.2.size,p.2.bytes,some p.2.zero),true)):bP P (bH l):=adX fun p t=>by
 have b:=List.map_inj_left.1 h p t
 simp only[gA,co] at b
 obtain⟨f,⟨i,g,j,m,z,n,q⟩,r⟩:=b
 exact⟨⟨i,g,j,m,z,n,q⟩,aem f,fun e=>by simpa[e] using r⟩
end Go.Rv
namespace Go.Rv
open Go.RowKit
def wa:aX:=⟨fun _=>none,fun _ _=>none⟩
theorem aeo {w w':World} (h:Kept (aN w wa []) w w'):Below w.heap.size w w':=
 ⟨h.os,h.tape,h.output,h.size,fun i hi=>h.block i ⟨hi,fun h' o=>by grind [aP.row]⟩⟩
end Go.Rv
namespace Go.Rv
open Go.RowKit Go.ChangeShapes Go.WideShapes
section
variable {H : Type} {enc : TypeId × Value -> H} {P : Program} {W : World}
abbrev S0 (W:World):Nat->Prop:=dst (fun _=>True) W wa []
theorem ri {b:Nat} (h:b<W.heap.size):S0 W b:=⟨trivial,h,fun h' o=>by grind [aP.row]⟩
theorem nh {a:Addr} {v:Value} (h:W.cell? a=some v):a.block<W.heap.size:=by
 grind [cell?,Array.getElem?_eq_some_iff]
theorem apc {t e:TypeId} {k:IntKind} {r:Reach} {p:Nat} {v:Value} {d:DataW H} {K:List MemPlace} (h:P.underlying t=some (.slice e)) (A:P.underlying e=some (.int k)) (y:P.cellsOf e=1)
  (G:okWide P W r p t v) (hd:Trod enc P W 0 (fun _=>true) true t v d K):
  ∃xs:List Int,(∀n∈xs,(Lit.int k n).wf=true)/\xs.length<=maxLen/\ ∀σ,ah W (S0 W) σ (.aa (.list (.int k)) xs) v:=by
 obtain⟨O,D⟩:=hd
 obtain⟨L,len,cap,rfl⟩:=okWide_slice h G
 rcases open_ints h A y D with⟨f,m⟩|⟨a,Y,M,zs,f,_,U,V,J,m,z,I⟩
 ·simp[Value.cells] at f
  obtain⟨rfl,rfl,rfl⟩:=f
  exact⟨[],by simp,by simp,fun σ=>⟨none,0,rfl,by simp,.inl rfl⟩⟩
 ·simp[Value.cells] at f
  obtain⟨rfl,rfl,rfl⟩:=f
  simp only[cN] at J
  refine⟨zs.take len,fun n F=>I n (CE F),by simp;omega,fun σ=> ?_⟩
  have E:(zs.take len).length=len:=by simp;omega
  refine⟨some a,cap,by rw[E],by omega,?_⟩
  by_cases q:zs.take len=[]
  ·exact .inl q
  ·right
   have X:0<len:=by
    grind
   have g:=z 0 (by omega)
   obtain⟨b,o,ar⟩:=a
   have w:ar=none:=by
    cases ar<;>grind [cell?,Addr.add]
   subst w
   refine⟨b,o,rfl,ri (nh g),nh g,fun i x m=> ?_⟩
   have Q:i<len:=by grind
   refine⟨[.int k x],rfl,fun j u R=> ?_⟩
   grind [List.getElem?_eq_some_iff,getD,addr_add,Ty.cells]
def ni (P:Program):Ty->TypeId⊕(List Field×Nat)->Prop
 | .int k,.inl t=>P.underlying t=some (.int k)
 | .bool,.inl t=>P.underlying t=some .bool
 | .str,.inl t=>P.underlying t=some .string
 | .list u,.inl t=> ∃e,P.underlying t=some (.slice e)/\P.cellsOf e=u.cells/\0<u.cells/\ni P u (.inl e)
 | .unit,.inr (g,_)=>g=[]
 | .pair a b,.inr (g,o)=> ∃f r,g=f::r/\f.offset=o/\P.cellsOf f.type=a.cells/\ni P a (.inl f.type)/\ni P b (.inr (r,o+a.cells))
 | .pair a b,.inl t=> ∃g f r,P.underlying t=some (.struct g)/\P.cellsOf t=a.cells+b.cells/\g.toList=f::r/\f.offset=0/\P.cellsOf f.type=a.cells/\ni P a (.inl f.type)/\ni P b (.inr (r,a.cells))
 |_,_=>False
abbrev rj (P:Program) (u:Ty) (t:TypeId):Prop:=ni P u (.inl t)
def Fits:(u:Ty)->u.den->Prop
 | .int k,n=>(Lit.int k n).wf=true
 | .str,s=>s.size<=maxLen
 | .list u,xs=>xs.length<=maxLen/\ ∀x∈xs,Fits u x
 | .pair a b,x=>Fits a x.1/\Fits b x.2
 |_,_=>True
theorem N7 {b:Type} {p:Nat->b->Prop}: ∀(n:Nat),(∀i,i<n-> ∃x,p i x)-> ∃xs:List b,xs.length=n/\ ∀i x,xs[i]? =some x->p i x
 |0,_=>⟨[],rfl,fun i x h=>by simp at h⟩
 |n+1,h=>by
  obtain⟨xs,e,f⟩:=N7 n (fun i hi=>h i (by omega))
  obtain⟨y,g⟩:=h n (by omega)
  refine⟨xs++ [y],by simp[e],fun i x hi=> ?_⟩
  grind
theorem aep {E:Nat->Bool} {u:Ty} (L: ∀{t:TypeId} {f:Nat} {cs:List Value} {x:DataW H×List MemPlace},rj P u t->trod enc P W 0 E true f t cs=some x-> ∃d:u.den,ax W (S0 W) u d cs/\Fits u d)
  {t:TypeId} {f:Nat} {cs:List Value} {x:DataW H×List MemPlace} (m:rj P (.list u) t) (h:trod enc P W 0 E true f t cs=some x): ∃d:(Ty.list u).den,ax W (S0 W) (.list u) d cs/\Fits (.list u) d:=by
 obtain⟨e,m,Q,M,Z⟩:=m
 rcases DataW.trod_slice m h with⟨rfl,_⟩|⟨a,len,cap,elems,a0,n,_,rfl,_,O,V,Y,X,R,_⟩
 ·exact⟨[],⟨none,0,rfl,aS _,.inl rfl⟩,by simp[Fits]⟩
 ·have F: ∀i,i<len-> ∃d:u.den,∃c,W.cells? 0 (a.add (i*P.cellsOf e)) (P.cellsOf e)=some c/\ax W (S0 W) u d c/\Fits u d:=fun i hi=>by
   grind [List.getElem?_eq_getElem,Option.bind_eq_some_iff]
  obtain⟨xs,K,A⟩:=N7 len F
  refine⟨xs,⟨some a,cap,by rw[K],by omega,?_⟩,by omega,fun y D=> ?_⟩
  ·by_cases z:xs=[]
   ·exact .inl z
   ·right
    have J:0<xs.length:=List.length_pos_iff.2 z
    obtain⟨c,g,p,_⟩:=A 0 xs[0] (by simp[J])
    obtain⟨_,I,w⟩:=World.cells?_some g
    have r:=w 0 (by omega)
    rw[bh (show 0<c.length by omega)] at r
    obtain⟨b,o,ar⟩:=a
    have G:ar=none:=by
     cases ar<;>grind [cell?,Addr.add]
    subst G
    have q:b<W.heap.size:=by simpa[addr_add] using nh r
    refine⟨b,o,rfl,ri q,q,fun i y D=> ?_⟩
    obtain⟨c,g,p,_⟩:=A i y D
    obtain⟨_,I,w⟩:=World.cells?_some g
    refine⟨c,p,fun j v U=> ?_⟩
    grind [List.getElem?_eq_some_iff,addr_add]
  grind [List.getElem?_of_mem]
mutual
theorem rk {M:Nat->Bool}: ∀(u:Ty) {t:TypeId} {j:Nat} {cs:List Value} {x:DataW H×List MemPlace},rj P u t->trod enc P W 0 M true j t cs=some x-> ∃d:u.den,ax W (S0 W) u d cs/\Fits u d
 | .int k,t,j,cs,x,e,h=>by
  obtain⟨n,rfl,_,p⟩:=DataW.trod_int e h
  exact⟨n,rfl,p⟩
 | .bool,t,j,cs,x,e,h=>by
  obtain⟨b,rfl,_⟩:=DataW.trod_bool e h
  exact⟨b,rfl,trivial⟩
 | .str,t,j,cs,x,e,h=>by
  obtain⟨s,rfl,_,p⟩:=DataW.trod_string e h
  exact⟨s,rfl,p⟩
 | .unit,_,_,_,_,e,_=>e.elim
 | .val,_,_,_,_,e,_=>e.elim
 | .err,_,_,_,_,e,_=>e.elim
 | .list u,t,j,cs,x,e,h=>aep (fun e h=>rk u e h) e h
 | .pair a b,t,j,cs,x,e,h=>by
  obtain⟨O,f,r,e,Q,m,G,K,I,J⟩:=e
  obtain⟨xs,n,_,_,R,w,v⟩:=DataW.trod_struct e h
  have q:=v 0 f (by rw[<-vt,m];rfl)
  rw[bh (by rw[w,<-vu,m];simp),G,fY,K] at q
  obtain⟨A,y,E⟩:=rk a I q
  obtain⟨D,z,F⟩:=N8 b (n:=n) (xs:=xs) (cs:=cs) (k:=1) J (by rw[w,<-vu,m];simp;omega) (by omega) (fun i g L=>by
   have:=v (1+i) g (by rw[<-vt,m,Nat.add_comm];simpa using L)
   exact this)
  refine⟨(A,D),⟨_,_,?_,y,z⟩,E,F⟩
  rw[show(cs.drop a.cells).take b.cells=cs.drop a.cells from vv (by rw[og];omega),uL]
theorem N8 {I:Nat->Bool}: ∀(u:Ty) {e:List Field} {o n k:Nat} {cs:List Value} {xs:List (DataW H×List MemPlace)},ni P u (.inr (e,o))->xs.length=k+e.length->o+u.cells<=cs.length->
  (∀(i:Nat) (g:Field),e[i]? =some g->trod enc P W 0 I true n g.type ((cs.drop g.offset).take (P.cellsOf g.type))=xs[k+i]?)-> ∃d:u.den,ax W (S0 W) u d ((cs.drop o).take u.cells)/\Fits u d
 | .unit,e,o,n,k,cs,xs,h,_,_,_=>⟨(),by simp[ax,Ty.cells],trivial⟩
 | .int _,_,_,_,_,_,_,h,_,_,_=>h.elim
 | .bool,_,_,_,_,_,_,h,_,_,_=>h.elim
 | .str,_,_,_,_,_,_,h,_,_,_=>h.elim
 | .val,_,_,_,_,_,_,h,_,_,_=>h.elim
 | .err,_,_,_,_,_,_,h,_,_,_=>h.elim
 | .list _,_,_,_,_,_,_,h,_,_,_=>h.elim
 | .pair a b,e,o,n,k,cs,xs,h,q,m,p=>by
  obtain⟨f,r,rfl,A,F,D,E⟩:=h
  have j:=p 0 f rfl
  have m:o+(a.cells+b.cells)<=cs.length:=m
  rw[bh (by rw[q];simp),A,F] at j
  obtain⟨w,t,y⟩:=rk a D j
  obtain⟨x,v,z⟩:=N8 b (n:=n) (xs:=xs) (cs:=cs) (k:=k+1) E (by rw[q];simp;omega) (by omega) (fun i g G=>by
   have:=p (i+1) g (by simpa using G)
   rw[this]
   congr 1
   omega)
  refine⟨(w,x),⟨_,_,?_,t,v⟩,y,z⟩
  show(cs.drop o).take (a.cells+b.cells)=_
  rw[List.take_add,List.drop_drop]
end
theorem apd {u:Ty} {t e:TypeId} {r:Reach} {b:Nat} {v:Value} {d:DataW H} {n:List MemPlace} (i:P.underlying t=some (.slice e)) (j:rj P (.list u) t)
  (m:okWide P W r b t v) (hd:Trod enc P W 0 (fun _=>true) true t v d n): ∃xs:List u.den,Fits (.list u) xs/\ ∀σ,ah W (S0 W) σ (.aa (.list u) xs) v:=by
 obtain⟨q,h⟩:=hd
 obtain⟨p,len,cap,rfl⟩:=okWide_slice i m
 obtain⟨xs,f,g⟩:=rk (.list u) j h
 exact⟨xs,g,fun σ=>f⟩
theorem aeq {a b:Ty} {t:TypeId} {f:Array Field} {r:Reach} {e:Nat} {v:Value} {d:DataW H} {p:List MemPlace} (j:P.underlying t=some (.struct f)) (m:rj P (.pair a b) t)
  (n:okWide P W r e t v) (hd:Trod enc P W 0 (fun _=>true) true t v d p): ∃x:(Ty.pair a b).den,Fits (.pair a b) x/\ ∀σ,ah W (S0 W) σ (.agg (leaves (.pair a b) x)) v:=by
 obtain⟨q,i⟩:=hd
 obtain⟨cs,rfl,_⟩:=okWide_struct j n
 obtain⟨x,g,h⟩:=rk (.pair a b) m i
 exact⟨x,h,fun σ=>⟨cs.toList,by simp,oI _ _ _ g⟩⟩
theorem aer {t:TypeId} {r:Reach} {e:Nat} {v:Value} {d:DataW H} {b:List MemPlace} (f:P.underlying t=some .string)
  (g:okWide P W r e t v) (hd:Trod enc P W 0 (fun _=>true) true t v d b): ∃s:ByteArray,v= .string s/\d= .lit (.string s.data.toList)/\b=[]/\s.size<=maxLen:=by
 obtain⟨s,rfl⟩:=okWide_string f g
 obtain⟨h,i⟩:=hd
 grind [DataW.trod_string,Value.cells,Prod.mk.injEq]
theorem stays {t:TypeId} (j:laidOutB P=true) (q:P.readableRec t=true) (r:t<P.types.size) {f:World} {sp':Nat->Bool} {v:Value} {d:DataW H} {e:List MemPlace}
  (h:Trod enc P W 0 (fun _=>true) true t v d e) (m: ∀p∈e,p.block<W.heap.size) (i: ∀b,b<W.heap.size->f.heap[b]? =W.heap[b]?) (w: ∀p∈e,sp' p.block=true):
  Trod enc P f 0 sp' true t v d e:=by
 refine WideElems.Trod_stays j q r h (fun p n=> ?_) w
 have g:=i p.block (m p n)
 cases p with
 |cell b off=>
  have x:f.heap[b]? =W.heap[b]? :=g
  grind [World.sameAt,cell?]
 |map b=>exact g
theorem aes {f:FuncId} {F:bd} (n:Sound P f F) {avs:List AV} (j:(F avs []).run=some (.aa .bool true,[])) {args:List Value} (w:gY W (S0 W))
  (p:aC W (S0 W) (sumOf wa []) avs args):Calls P f args.toArray W fun e w'=>e= .returned (.bool true)/\Below W.heap.size W w'/\ ∀b,b<W.heap.size->w'.heap[b]? =W.heap[b]? :=by
 have h:=n avs [] _ _ j (fun _=>True) W args wa (fun _ _=>trivial) ⟨fun h r g=>by simp at g,fun h h' b o=>by grind [aP.row],fun h b o=>by simp_all,fun h t xss m cs g=>by simp at g⟩ w (fun h x=>by simp at x) p
 refine h.mono fun e w' ⟨v,z,y,i,_,_,_,g⟩=>⟨?_,aeo i,fun b q=>i.block b ⟨q,fun h' o=>by grind [aP.row]⟩⟩
 grind [bool,ah,ax]
theorem aet {i:World} {f:Func} {s:ChangeSpec} {apart E F D:Bool} {args:Array Value} {v:Value} {m n:List (DataW H)} {e pa pv:List MemPlace}
  (q:DataW.Whole enc P f.params.toList s.vars apart W args.toList m n e)
  (y: ∀(b:Nat) (h:Nat->Bool) (hd:Bool),TrodAll enc P i b h hd f.resultTypes.toList (v.resultList f.resultTypes.size) (s.fn H (m++n)).results [])
  (w: ∀h:Nat->Bool,(∀p∈e,h p.block=true)->TrodAll enc P i 0 h true f.params.toList args.toList (s.fn H (m++n)).args pa)
  (z: ∀h:Nat->Bool,(∀p∈e,h p.block=true)->TrodVars enc P i h s.vars (s.fn H (m++n)).vars pv)
  (L:e=pa++pv) (x:Below W.heap.size W i)
  (G: ∀(j:Nat) (t:TypeId) (r:Value),f.resultTypes[j]? =some t->(v.resultList f.resultTypes.size)[j]? =some r->okWide P i .any 0 t r):
  s.post enc P f apart E F D W args v i:=by
 have lt:=q.lt
 have A: ∀p∈e,(fun b=>decide (b<W.heap.size)) p.block=true:=fun p g=>by simp_all
 refine⟨m,n,e,[],pa,pv,q,y _ _ _,w _ A,z _ A,World.keptBut_mono (fun p g=>⟨g,?_⟩) (x.frame (· ∈e)),fun _=> ?_⟩
 ·simp_all
 ·obtain⟨_,_,_,_,_,I,K⟩:=q
  refine⟨G,_,_,([]++pa)++pv,⟨[]++pa,pv,trodAll_append (w _ (fun _ _=>rfl)) (y _ _ _),z _ (fun _ _=>rfl),rfl,fun b off g=> ?_,fun J=> ?_⟩,fun p g _=> ?_⟩
  ·have g:MemPlace.cell b off∈e:=by simp_all
   rw[x.frozen (lt _ g)]
   exact I b off g
  all_goals simp_all
theorem aeu {n:String} {b:List (DataW H)} {f:List MemPlace} (h:TrodVars enc P W (fun _=>true) [n] b f): ∃g,b=[g]:=by
 cases b with
 |nil=>exact h.elim
 |cons g r=>
  obtain⟨_,_,_,_,_,_,_,_,_,_,e,_⟩:=h
  cases r with
  |nil=>simp_all
  |cons _ _=>exact e.elim
theorem aev {n:String} {g:Nat} {t:TypeId} (w:P.globalNamed n=some g) (y:(P.globals[g]?).map (·.type)=some t) (I:laidOutB P=true) (K:P.readableRec t=true) (L:t<P.types.size) {j:World} (G: ∀b,b<W.heap.size->j.heap[b]? =W.heap[b]?)
  {d:DataW H} {e:List MemPlace} (h:TrodVars enc P W (fun _=>true) [n] [d] e) (J: ∀p∈e,p.block<W.heap.size) {i:Nat->Bool} (M: ∀p∈e,i p.block=true):TrodVars enc P j i [n] [d] e:=by
 obtain⟨O,U,cs,z,p,r,m,q,Q,D,F,rfl⟩:=h
 rw[w] at m
 cases m
 rw[y] at q
 cases q
 have R:g<W.heap.size:=by
  grind [var?,Nat.lt_or_ge,Array.getElem?_eq_none]
 obtain⟨A,E⟩:=stays I K L (v:= .agg cs) (sp':=i) ⟨z,D⟩ (fun x f=>J x (by simp[f])) G (fun x f=>M x (by simp[f]))
 exact⟨g,t,cs,A,p,r,w,y,by grind [var?],E,F,rfl⟩
theorem ape (h: ∀g,jR g=none) (S:Nat->Prop):gY W S:=fun g t xs e=>by simp_all
end
end Go.Rv
namespace Go.Rv
theorem Dm {P:Program} {W:World} {name:String} {g n:Nat} {cs:Array Value} (f:P.globalNamed name=some g) (h:W.var? P name=some cs) (i:cs.size=n):qt W g n:=by
 unfold var? at h
 rw[f,ac] at h
 split at h
 ·rename_i c e j b
  cases h
  exact⟨_,_,_,b,i⟩
 ·cases h
theorem Dn {P:Program} {W:World} {name:String} {k:IntKind} {zs:List Int} {g:Nat} (h:TabIs P W name k zs) (b:P.globalNamed name=some g) (m:0<zs.length):ig W (S0 W) g 0 (.int k) zs/\qt W g (zs.length*Ty.cells (.int k)):=by
 have e:=h.cell b 0 m
 refine⟨⟨ri (nh e),nh e,fun i x q=> ?_⟩,Dm b h (by simp[Ty.cells])⟩
 have n:i<zs.length:=(aO.1 q).1
 refine⟨[.int k x],rfl,fun j u f=> ?_⟩
 have p:j=0:=by grind
 subst p
 simp at f
 subst f
 have r:=h.cell b i n
 grind [getD,Ty.cells]
theorem aew {H:Type} {enc:TypeId×Value->H} {P:Program} {w:World} {base:Nat} {G:Nat->Bool} {D:Bool} {f:Nat} {t e:TypeId} {n:Nat} {cs:List Value} {zs:List ByteArray} {p:List MemPlace}
  (F:P.underlying t=some (.array n e)) (A:P.underlying e=some .string) (x:P.cellsOf e=1) (y:P.cellsOf t=n)
  (h:trod enc P w base G D f t cs=some (.agg (zs.map fun z=> .lit (.string z.data.toList)),p)):cs=zs.map Value.string:=by
 cases f with
 |zero=>simp[trod] at h
 |succ f=>
  simp only[trod,F,x,y,Nat.mul_one] at h
  split at h
  ·rename_i K
   obtain⟨xs,j,L⟩:=co.1 h
   have m:xs.map (·.1)=zs.map fun z=>(lit (.string z.data.toList):DataW H):=by
    simp_all
   have M:xs.length=n:=by simpa using Lib.mapM_length j
   have Q:zs.length=n:=by
    have:=aR List.length m
    grind
   apply hx
   intro i
   by_cases hi:i<n
   ·obtain⟨b,r,E⟩:=Lib.mapM_at j i i (by simp[hi])
    obtain⟨s,v,rfl,_⟩:=DataW.trod_string A E
    have J:cs[i]? =some (.string s):=by
     have:=aR (·[0]?) v
     grind
    have g:(xs.map (·.1))[i]? =some (lit (.string s.data.toList):DataW H):=by simp[r]
    rw[m] at g
    simp only[ei,co,DataW.lit.injEq,Lit.string.injEq] at g
    obtain⟨q,O,I⟩:=g
    have:q=s:=by
     rcases q with⟨⟨R⟩⟩
     simp_all
    simp_all
   simp_all
  ·cases h
theorem aex {P:Program} {W:World} {name:String} {zs:List ByteArray} {G:List (String×DataW Unit)} {g:Nat} {t e:TypeId} {n:Nat}
  (b:P.globalNamed name=some g) (F:(P.globals[g]?).map (·.type)=some t) (D:P.underlying t=some (.array n e)) (y:P.underlying e=some .string) (q:P.cellsOf e=1) (w:P.cellsOf t=n)
  (h:laidMet P ((name,.agg (zs.map fun z=> .lit (.string z.data.toList)))::G) W) (K:0<zs.length):ig W (S0 W) g 0 .str zs/\qt W g (zs.length*Ty.cells .str):=by
 obtain⟨O,⟨J,R,cs,I,p,Q,A,E,m,hd,_,_⟩,_⟩:=h
 obtain rfl:=fV (b.symm.trans A)
 obtain rfl:=fV (F.symm.trans E)
 have r:=aew D y q w hd
 have cell: ∀i,W.cell? ⟨g,i,none⟩=(zs[i]?).map Value.string:=fun i=>by
  rw[World.var?_cell b m i,<-vt,r,ei]
 have f:g<W.heap.size:=nh (a:=⟨g,0,none⟩) (v:= .string zs[0]) (by simp_all)
 refine⟨⟨ri f,f,fun i x M=>⟨[.string x],rfl,fun j u L=> ?_⟩⟩,Dm b m (by grind [Array.length_toList,Ty.cells])⟩
 grind [List.getElem?_eq_some_iff,Ty.cells]
theorem N9 {P:Program} {W:World} {name E:String} {y:DataW Unit} {F:List (String×DataW Unit)} {g:Nat} {r:TypeId} {ms:Array (String×TypeId)}
  (b:P.globalNamed name=some g) (D:(P.globals[g]?).map (·.type)=some r) (hi:P.underlying r=some (.interface ms))
  (h:laidMet P ((name,.iface E y)::F) W):ig W (S0 W) g 0 .err [true]/\qt W g ([true].length*Ty.cells .err):=by
 obtain⟨J,⟨G,L,cs,e,p,K,z,A,n,hd,_,_⟩,_⟩:=h
 obtain rfl:=fV (b.symm.trans z)
 obtain rfl:=fV (D.symm.trans A)
 obtain⟨u,v,f⟩: ∃u v,cs.toList=[.iface u v]:=by
  cases e with
  |zero=>simp[trod] at hd
  |succ e=>
   unfold trod at hd
   grind
 have t:W.cell? ⟨g,0,none⟩=some (.iface u v):=by
  rw[World.var?_cell b n 0,<-vt,f]
  rfl
 have m:g<W.heap.size:=nh t
 refine⟨⟨ri m,m,fun i x q=>⟨[.iface u v],?_,fun j w I=> ?_⟩⟩,Dm b n (by rw[<-vu,f];rfl)⟩
 ·cases i with
  |zero=>cases q;exact⟨_,rfl,_,_,rfl⟩
  |succ i=>simp at q
 grind
end Go.Rv
namespace Go.Rv
open Go.Proofs Go.Shelf
theorem aey {xs:List Int} {i:Int} {vs L:List Int} (h:q9 xs i vs=some L): ∃k:Nat,i=(k:Int)/\k<=xs.length/\0<vs.length/\xs.length+vs.length<=1099511627776/\L=xs.take k++vs++xs.drop k:=by
 unfold q9 at h
 split at h
 ·cases h
 ·rename_i v r
  unfold Go.Rv.inc at h
  split at h
  ·rename_i hi
   simp only[ac] at h
   obtain⟨b,h⟩:=qM h
   unfold room at b
   split at b
   ·rename_i e
    cases h
    exact⟨i.toNat,by omega,by omega,by simp,e,rfl⟩
   ·cases b
  ·cases h
def Do:bd:=fun avs H=>
 match avs,H with
 |[.ab 0,.aa (.int .i64) i,.ab 1],[some (.seq (.int .i64) xs),some (.seq (.int .i64) vs)]=>⟨List Int,q9 xs i vs,fun ys=>(.ab 0,[some (.seq (.int .i64) ys),some (.seq (.int .i64) vs)]),[0],none⟩
 |_,_=>ad.no
def bW (xs:List Int):List Value:=xs.map fun x=> .int .i64 x
theorem Oa {xs:List Int} {j:Nat} {v:Value} (h:(bW xs)[j]? =some v): ∃x,xs[j]? =some x/\v= .int .i64 x:=by
 unfold bW at h
 rw[ei] at h
 cases b:xs[j]? with
 |none=>rw[b] at h;cases h
 |some x=>rw[b] at h;cases h;exact⟨x,rfl,rfl⟩
theorem nj {xs:List Int}: ∀v∈bW xs,v.oneCell'=true:=fun v b=>by
 obtain⟨x,_,rfl⟩:=iB.mp b
 rfl
theorem pb {b:Nat} {e:TypeId}: ∀(vs:List Value) (o:Nat) (w:World) (f:Array Value),w.heap[b]? =some (.cells f e (0,0))->
  ∃g,w.setCells b o vs=w.setRow b g/\g.size=f.size/\ ∀m,m<f.size->g[m]? =if o<=m/\m<o+vs.length then vs[m-o]? else f[m]?
 |[],o,w,f,h=>by
  have x:=(jd.1 h).1
  have j:=(jd.1 h).2
  refine⟨f,?_,rfl,fun m n=>by rw[aG (by simp only[ot];omega)]⟩
  show w=w.setRow b f
  have p:(w.setRow b f).heap=w.heap:=by
   unfold World.setRow
   apply qZ
   ·simp
   ·intro i q t
    rw[kn]
    split
    ·rename_i hi
     subst hi
     rw[j]
    ·rfl
  cases w
  simp only[World.setRow] at p⊢
  rw[p]
 |v::r,o,w,f,h=>by
  have x:=(jd.1 h).1
  have j:=(jd.1 h).2
  have z:(w.setCell ⟨b,o,none⟩ v).heap[b]? =some (.cells (f.setIfInBounds o v) e (0,0)):=by
   simp only[World.setCell]
   rw[CF (by simpa using x),kn,aA rfl,j]
   simp
  obtain⟨g,q,t,y⟩:=pb r (o+1) (w.setCell ⟨b,o,none⟩ v) _ z
  refine⟨g,?_,by rw[t];simp,fun m n=> ?_⟩
  ·rw[World.setCells,q]
   unfold World.setRow World.setCell
   congr 1
   apply qZ
   ·simp
   ·intro i D E
    rw[kn,kn,kn]
    by_cases hi:b=i
    ·subst hi
     simp[j]
    ·simp[hi]
  ·rw[y m (by simpa using n)]
   by_cases hi:o+1<=m/\m<o+1+r.length
   ·rw[aA hi,aA (by simp;omega),show m-o=(m-(o+1))+1 by omega,mF]
   ·rw[aG hi]
    by_cases A:m=o
    ·subst A
     rw[aA (by simp),CG]
     simp[n]
    ·rw[aG (by simp;omega),Array.getElem?_setIfInBounds_ne (by omega)]
theorem nk {w:World} {S:Nat->Prop} {xs:List Int} {e:Array Value} {o:Nat}:gW w S (.int .i64) xs e o↔ ∀(i:Nat) (x:Int),xs[i]? =some x->e[o+i]? =some (.int .i64 x):=by
 constructor
 ·intro h i x b
  obtain⟨cs,hd,g⟩:=h i x b
  have hd:cs=[.int .i64 x]:=hd
  subst hd
  have:=g 0 _ rfl
  simpa[Ty.cells] using this
 ·intro h i x b
  refine⟨[.int .i64 x],rfl,fun j v f=> ?_⟩
  cases j with
  |zero=>
   cases f
   have:=h i x b
   simpa[Ty.cells] using this
  |succ j=>simp at f
theorem Dp (xs vs:List Int) (k:Nat) (g:k<=xs.length) (j:Nat):(xs.take k++vs++xs.drop k)[j]? =if j<k then xs[j]? else if j<k+vs.length then vs[j-k]? else xs[j-vs.length]? :=by
 have f:(xs.take k).length=k:=by simp;omega
 by_cases b:j<k
 ·rw[aA b,mZ,mG (by omega),qq,aA b]
 ·rw[aG b]
  by_cases e:j<k+vs.length
  ·rw[aA e,mG (by simp;omega),kV (by omega),f]
  ·rw[aG e,kV (by simp;omega),mD]
   congr 1
   simp
   omega
theorem Ob {w:World} {b:Nat} {f:Array Value} {e:TypeId} (h:w.heap[b]? =some (.cells f e (0,0))):w.shape? b=some (e,f.size):=by simp[World.shape?,h]
theorem wb {w:World} {b:Nat} {f:Array Value} {e:TypeId} (h:w.heap[b]? =some (.cells f e (0,0))) (k:Nat):w.frozen? ⟨b,k,none⟩=false:=by simp[frozen?,h]
theorem cell_of {w:World} {b:Nat} {f:Array Value} {e:TypeId} (h:w.heap[b]? =some (.cells f e (0,0))) (k:Nat):w.cell? ⟨b,k,none⟩=f[k]? :=by simp[cell?,h]
theorem setRow_setRow (w:World) (b:Nat) (c d:Array Value):(w.setRow b c).setRow b d=w.setRow b d:=by
 unfold World.setRow
 congr 1
 apply qZ
 ·simp
 ·intro i f e
  rw[kn,kn,kn]
  split
  ·cases w.heap[i]'(by simpa using e)<;>rfl
  ·rfl
theorem Oc (w:World) (t:TypeId) (c d:Array Value):(w.alloc (.cells c t)).setRow w.heap.size d=w.alloc (.cells d t):=by
 unfold World.setRow World.alloc
 congr 1
 apply qZ
 ·simp
 ·intro i e b
  rw[kn]
  by_cases hi:w.heap.size=i
  ·subst hi
   simp
  ·rw[aG hi]
   have:i<w.heap.size:=by simp at b;omega
   simp[Array.getElem_push,this]
section
variable {P : Program}
theorem aez {ρ:Ren} (L:Lays2.n21 P ρ):Sound P (ρ.f 21) Do:=by
 intro avs H r h5 b4 D w args ι g1 c3 f9 g3 f3
 unfold Do at b4⊢
 split at b4
 ·rename_i i xs vs
  simp only[ad.run,ad.dec,co] at b4
  obtain⟨y,f2,q⟩:=b4
  cases q
  obtain⟨k,rfl,c5,a3,h8,a9⟩:=aey f2
  let H:Heap:=[some (.seq (.int .i64) xs),some (.seq (.int .i64) vs)]
  obtain⟨d6,i1,rfl,g5,v1,i2,rfl,d3,v2,h2,rfl,g6,b0⟩:=f3
  have b0:h2=[]:=b0
  subst b0
  have d3:[v1]=[.int .i64 (k:Int)]:=d3
  cases d3
  let B:ce:={w0:=w,S0:=aN w ι H,D:=D,mI:=sumOf ι H,k:=2,mv:=fun h=>beq h 0,new:=g1}
  have e5:Inv B ⟨[],H⟩ #[] w ι:=⟨Kept.refl _ _,c3,fun b f4=>f4,fun g f8=>⟨.inr rfl,g3 g (by simpa using f8)⟩,fun i a b6=>by simp at b6,f9⟩
  have c2:H[0]? =some (some (.seq (.int .i64) xs)):=rfl
  have c9:H[1]? =some (some (.seq (.int .i64) vs)):=rfl
  have b1:=c3.rows 0 _ c2
  have c6:=c3.rows 1 _ c9
  obtain⟨d5,d2,d4⟩:=g6
  have d2:=dA (s:=⟨[],H⟩) c9 d2
  subst d2
  obtain⟨i3,d1,V⟩:=g5
  have d1:=dA (s:=⟨[],H⟩) c2 d1
  subst d1
  have done: ∀(e:Ending) (w1 w':World) (c7:Value) (p:Option (Nat×Nat×Nat)),(w1=w\/w1=w.drew)->e= .returned c7->va w1 (dst D w1 ι H) (.int .i64) y [] (ι 0) c7 w' p->
    (∃v F,e= .returned v/\Kept (aN w ι H) w w'/\eG D w' F [some (.seq (.int .i64) y),some (.seq (.int .i64) vs)]/\(∀b,aN w ι H b->aN w' F [some (.seq (.int .i64) y),some (.seq (.int .i64) vs)] b)/\
   (∀h,h<H.length->(([0]:List Nat).contains h=true\/sumOf F [some (.seq (.int .i64) y),some (.seq (.int .i64) vs)] h=sumOf ι H h)/\ ∃x,([some (.seq (.int .i64) y),some (.seq (.int .i64) vs)]:Heap)[h]? =some (some x))/\
   ah w' (dst D w' F [some (.seq (.int .i64) y),some (.seq (.int .i64) vs)]) (sumOf F [some (.seq (.int .i64) y),some (.seq (.int .i64) vs)]) (.ab 0) v):=by
   intro e w1 w' c7 p g9 q f7
   have f1:Inv B ⟨[],H⟩ #[] w1 ι:=by
    rcases g9 with rfl|rfl
    ·exact e5
    ·exact e5.drew (w.drawn+1)
   obtain⟨F,b3,e4⟩:=vc f1 (g:=0) c2 (.inr rfl) (fun b o c a4=>⟨o,c,a4⟩) (fun b o c a4=>by
    rw[a4] at b1
    obtain⟨e0,e,Z,a8,e2,d0,e3⟩:=b1
    exact d0) f7
   rw[fZ] at b3 e4
   refine⟨c7,F,q,b3.kept,b3.am,b3.stay,fun h g0=> ?_,e4⟩
   have:=b3.io h g0
   refine⟨this.1.imp (fun b8=>by
    have:h=0:=qQ b8
    subst this
    rfl) id,this.2⟩
  obtain⟨z,E,A,b2,c8,g2,c4,i0,h9,h6,g4,g7⟩: ∃z E A b2 c8,ι 1=some (z,E,A)/\w.heap[z]? =some (.cells b2 c8 (0,0))/\b2.size=E+A/\vs.length<=A/\A<=maxLen/\(∀(i:Nat) (x:Int),vs[i]? =some x->b2[E+i]? =some (.int .i64 x))/\v2= .slice (some ⟨z,E,none⟩) vs.length A:=by
   cases a4:ι 1 with
   |none=>
    rw[a4] at c6
    have:vs=[]:=c6
    rw[this] at a3
    simp at a3
   |some b8=>
    obtain⟨z,E,A⟩:=b8
    rw[a4] at c6
    obtain⟨e0,e,Z,a8,e2,d0,e3⟩:=c6
    refine⟨z,E,A,e0,e,rfl,Z,by simpa[Ty.cells] using a8,e2,d0,nk.mp e3,?_⟩
    unfold br at d4
    simp only[a4] at d4
    obtain⟨h7,rfl|⟨f5,a,rfl⟩⟩:=d4
    ·simp[Row.len]
    ·simp only[Row.len] at*
     omega
  subst g7
  have c0: ∀j v,(bW vs)[j]? =some v->w.cell? ⟨z,E+j,none⟩=some v:=fun j v U=>by
   obtain⟨x,m,rfl⟩:=Oa U
   rw[cell_of c4]
   exact g4 j x m
  have K:(bW vs).length=vs.length:=by simp[bW]
  have X:(bW xs).length=xs.length:=by simp[bW]
  have G:y.length=xs.length+vs.length:=by
   rw[a9]
   simp
   omega
  have d8: ∀n,(zeroCells (Value.int .i64 0).cells n).size=n:=fun n=>by simp[zeroCells,Value.cells]
  have e1: ∀a,xs=[]->d6= .slice a 0 0->Calls P (ρ.f 21) #[d6,.int .i64 (k:Int),.slice (some ⟨z,E,none⟩) vs.length A] w (fun e w'=> ∃v F,e= .returned v/\Kept (aN w ι H) w w'/\eG D w' F [some (.seq (.int .i64) y),some (.seq (.int .i64) vs)]/\(∀b,aN w ι H b->aN w' F [some (.seq (.int .i64) y),some (.seq (.int .i64) vs)] b)/\
   (∀h,h<H.length->(([0]:List Nat).contains h=true\/sumOf F [some (.seq (.int .i64) y),some (.seq (.int .i64) vs)] h=sumOf ι H h)/\ ∃x,([some (.seq (.int .i64) y),some (.seq (.int .i64) vs)]:Heap)[h]? =some (some x))/\
   ah w' (dst D w' F [some (.seq (.int .i64) y),some (.seq (.int .i64) vs)]) (sumOf F [some (.seq (.int .i64) y),some (.seq (.int .i64) vs)]) (.ab 0) v):=by
   intro a m U
   subst m U
   have h0:k=0:=by simpa using c5
   subst h0
   refine(Any2.slices_Insert_int_end_grow L a 0 0 z E vs.length A [] (bW vs) w a3 (aS _) (by omega) (by omega) rfl K (fun _=>rfl) (fun a h j v U=>by simp at U) c0 nj).mono fun e w' Q=> ?_
   obtain⟨q,rfl⟩:=Q
   have b5:=ol w (0+vs.length) 0 (ρ.t 3)
   have a0:=om w (0+vs.length) 0 (ρ.t 3) (by simp only[maxLen];omega)
   generalize grownCap w (0+vs.length) 0 (ρ.t 3)=M at q b5 a0⊢
   have G:y.length=vs.length:=by rw[G];simp
   refine done e w _ _ _ (.inl rfl) q (.inr (.inr ⟨M,_,_,rfl,rfl,?_,?_,a0,?_,?_⟩))
   ·simp[G]
   ·simp[G];omega
   ·simp only[oo,d8,qs,hz,K,Ty.cells]
    omega
   ·rw[fZ]
    refine nk.mpr fun j x m=> ?_
    have J:=(aO.1 m).1
    rw[a9] at m
    simp only[List.take_nil,List.drop_nil,hz,fZ] at m
    rw[ix,vw (by simp[K];have:=(aO.1 m).1;omega)]
    simp[bW,m]
  show Calls P (ρ.f 21) #[d6,.int .i64 (k:Int),.slice (some ⟨z,E,none⟩) vs.length A] w _
  cases a5:ι 0 with
  |none=>
   rw[a5] at b1
   have m:xs=[]:=b1
   unfold br at V
   simp only[a5] at V
   obtain⟨_,_,a,b6⟩:=V
   exact e1 a m b6
  |some b8=>
   obtain⟨b,o,c⟩:=b8
   rw[a5] at b1
   obtain⟨a1,c1,O,e7,e6,f6,b7⟩:=b1
   have b7:=nk.mp b7
   have e7:a1.size=o+c:=by simpa[Ty.cells] using e7
   unfold br at V
   simp only[a5] at V
   obtain⟨_,V|⟨f5,a,b6⟩⟩:=V
   ·simp only[Row.len,Nat.zero_mul,gV,CC] at V
    subst V
    have g8:z≠b:=c3.sep 1 0 _ _ _ _ c9 c2 g2 a5 (by omega)
    have d9:c<=9223372036854775807:=by unfold maxLen at f6;omega
    have d7: ∀j v,(bW xs)[j]? =some v->w.cell? ⟨b,o+j,none⟩=some v:=fun j v U=>by
     obtain⟨x,m,rfl⟩:=Oa U
     rw[cell_of O]
     exact b7 j x m
    have e9: ∀j,j<c->(w.cell? ⟨b,o+j,none⟩).isSome=true:=fun j J=>by
     rw[cell_of O,CF (by omega)]
     rfl
    by_cases b0:xs.length+vs.length<=c
    ·by_cases a2:k<xs.length
     ·refine(Any2.slices_Insert_int_shift L b o xs.length c k z E vs.length A (bW xs) (bW vs) w a2 a3 b0 d9 g8 X K d7 (fun j J=>e9 j (by omega)) (fun j J=>wb O _) c0 nj nj c8 c1 b2.size a1.size (Ob c4) (Ob O) (by omega) (wb c4 _) (wb c4 _)).mono fun e w' Q=> ?_
      obtain⟨q,rfl⟩:=Q
      obtain⟨I,Z,d5,a6⟩:=pb ((bW xs).drop k) (o+(k+vs.length)) w.drew a1 O
      obtain⟨a7,a8,h3,t2⟩:=pb (bW vs) (o+k) (w.drew.setRow b I) I (jb w.drew b a1 _ c1 _ O)
      refine done e w.drew _ _ (some (b,o,c)) (.inr rfl) q (.inr (.inl ⟨b,o,c,a1,c1,a7,a5,rfl,O,?_,?_,?_,?_,?_⟩))
      ·rw[Z,a8,setRow_setRow]
      ·simp[G]
      ·simp[G];omega
      ·simp[Ty.cells];omega
      ·rw[fZ]
       refine nk.mpr fun j x m=> ?_
       have J:=(aO.1 m).1
       rw[a9,Dp xs vs k c5] at m
       rw[t2 (o+j) (by omega),K]
       by_cases Y:j<k
       ·rw[aA Y] at m
        rw[aG (by omega),a6 (o+j) (by omega),aG (by omega)]
        exact b7 j x m
       ·rw[aG Y] at m
        by_cases b9:j<k+vs.length
        ·rw[aA b9] at m
         rw[aA (by omega),show o+j-(o+k)=j-k by omega]
         simp[bW,m]
        ·rw[aG b9] at m
         rw[aG (by omega),a6 (o+j) (by omega),aA (by simp[X];omega),mD,show k+(o+j-(o+(k+vs.length)))=j-vs.length by omega]
         simp[bW,m]
     ·have a2:k=xs.length:=by omega
      subst a2
      refine(Any2.slices_Insert_int_end_room L b o xs.length c z E vs.length A (bW vs) w a3 b0 d9 K (fun j J=>by rw[kU];exact e9 _ (by omega)) (fun j J=>wb O _) c0 nj).mono fun e w' Q=> ?_
      obtain⟨q,rfl⟩:=Q
      obtain⟨I,Z,d5,a6⟩:=pb (bW vs) (o+xs.length) w a1 O
      refine done e w _ _ (some (b,o,c)) (.inl rfl) q (.inr (.inl ⟨b,o,c,a1,c1,I,a5,rfl,O,Z,?_,?_,?_,?_⟩))
      ·simp[G]
      ·simp[G];omega
      ·simp[Ty.cells];omega
      ·rw[fZ]
       refine nk.mpr fun j x m=> ?_
       have J:=(aO.1 m).1
       rw[a9,Dp xs vs _ c5] at m
       rw[a6 (o+j) (by omega),K]
       by_cases Y:j<xs.length
       ·rw[aA Y] at m
        rw[aG (by omega)]
        exact b7 j x m
       ·rw[aG Y,aA (by omega)] at m
        rw[aA (by omega),show o+j-(o+xs.length)=j-xs.length by omega]
        simp[bW,m]
    ·by_cases a2:k<xs.length
     ·refine(Any2.slices_Insert_int_grow L b o xs.length c k z E vs.length A (bW xs) (bW vs) w a2 a3 e6 (by omega) (by omega) X K d7 c0 nj nj).mono fun e w' Q=> ?_
      obtain⟨q,rfl⟩:=Q
      have b5:=ol w (xs.length+vs.length) c (ρ.t 3)
      have a0:=om w (xs.length+vs.length) c (ρ.t 3) (by simp only[maxLen];omega)
      generalize grownCap w (xs.length+vs.length) c (ρ.t 3)=M at q b5 a0⊢
      have h4:(((bW xs).take k).toArray++zeroCells (Value.int .i64 0).cells (xs.length+vs.length-k)++zeroCells (Value.int .i64 0).cells (M-(xs.length+vs.length))).size=M:=by
       simp only[oo,d8,qs,mH,X]
       omega
      have f0: ∀j,j<k->(((bW xs).take k).toArray++zeroCells (Value.int .i64 0).cells (xs.length+vs.length-k)++zeroCells (Value.int .i64 0).cells (M-(xs.length+vs.length)))[j]? =(bW xs)[j]? :=fun j J=>by
       rw[Array.append_assoc,vw (by simp[X];omega)]
       simp[qq,J]
      generalize ((bW xs).take k).toArray++zeroCells (Value.int .i64 0).cells (xs.length+vs.length-k)++zeroCells (Value.int .i64 0).cells (M-(xs.length+vs.length))=R at h4 f0⊢
      have e8:(w.alloc (.cells R (ρ.t 3))).drew.heap[w.heap.size]? =some (.cells R (ρ.t 3) (0,0)):=qr w _
      obtain⟨I,Z,d5,a6⟩:=pb (bW vs) k (w.alloc (.cells R (ρ.t 3))).drew R e8
      have h1:=jb (w.alloc (.cells R (ρ.t 3))).drew w.heap.size R I (ρ.t 3) (0,0) e8
      obtain⟨a7,a8,h3,t2⟩:=pb ((bW xs).drop k) (k+vs.length) ((w.alloc (.cells R (ρ.t 3))).drew.setRow w.heap.size I).drew I h1
      refine done e w.drew _ _ (some (w.heap.size,0,M)) (.inr rfl) q (.inr (.inr ⟨M,a7,ρ.t 3,rfl,?_,?_,?_,a0,?_,?_⟩))
      ·rw[Z,a8]
       show((w.drew.drew.alloc (.cells R (ρ.t 3))).setRow w.drew.drew.heap.size I).setRow w.heap.size a7=_
       exact(aR (fun x=>World.setRow x w.heap.size a7) (Oc w.drew.drew (ρ.t 3) R I)).trans (Oc w.drew.drew (ρ.t 3) I a7)
      ·simp[G]
      ·simp[G];omega
      ·simp[Ty.cells];omega
      ·rw[fZ]
       refine nk.mpr fun j x m=> ?_
       have J:=(aO.1 m).1
       rw[a9,Dp xs vs k c5] at m
       rw[ix,t2 j (by omega)]
       by_cases Y:j<k
       ·rw[aA Y] at m
        rw[aG (by omega),a6 j (by omega),aG (by omega),f0 j Y]
        simp[bW,m]
       ·rw[aG Y] at m
        by_cases b9:j<k+vs.length
        ·rw[aA b9] at m
         rw[aG (by omega),a6 j (by omega),aA (by omega)]
         simp[bW,m]
        ·rw[aG b9] at m
         rw[aA (by simp[X];omega),mD,show k+(j-(k+vs.length))=j-vs.length by omega]
         simp[bW,m]
     ·have a2:k=xs.length:=by omega
      subst a2
      refine(Any2.slices_Insert_int_end_grow L (some ⟨b,o,none⟩) xs.length c z E vs.length A (bW xs) (bW vs) w a3 e6 (by omega) (by omega) X K (fun h=>by cases h) (fun a h j v U=>by
       cases h
       rw[addr_add]
       exact d7 j v U) c0 nj).mono fun e w' Q=> ?_
      obtain⟨q,rfl⟩:=Q
      have b5:=ol w (xs.length+vs.length) c (ρ.t 3)
      have a0:=om w (xs.length+vs.length) c (ρ.t 3) (by simp only[maxLen];omega)
      generalize grownCap w (xs.length+vs.length) c (ρ.t 3)=M at q b5 a0⊢
      refine done e w _ _ _ (.inl rfl) q (.inr (.inr ⟨M,_,_,rfl,rfl,?_,?_,a0,?_,?_⟩))
      ·simp[G]
      ·simp[G];omega
      ·simp only[oo,d8,qs,List.length_append,X,K,Ty.cells]
       omega
      ·rw[fZ]
       refine nk.mpr fun j x m=> ?_
       have J:=(aO.1 m).1
       rw[a9,lr,List.drop_length,fZ] at m
       rw[ix,vw (by simp[X,K];omega),List.getElem?_toArray,show bW xs++bW vs=bW (xs++vs) by simp[bW]]
       simp only[bW,ei,m,bn]
   ·have m:xs=[]:=kW (by omega)
    exact e1 a m b6
 ·simp[ad.no,ad.run] at b4
end
end Go.Rv
namespace Go.Rv
open Go.Proofs Go.Shelf Go.RowKit
theorem Kept.below {w w':World} {S:Nat->Prop} (e: ∀b,S b->b<w.heap.size) (h:Below w.heap.size w w'):Kept S w w':=
 ⟨h.os,h.tape,h.output,h.size,fun b g=>h.block b (e b g),fun a f=>h.frozen f⟩
theorem wc {P:Program} {f:FuncId} {args:List Value} {w:World} {D:Nat->Prop} {ι:aX} {Q:Value->Prop} {r:AV} {mv:List Nat}
  (p:Calls P f args.toArray w fun e w'=> ∃v,e= .returned v/\Q v/\Below w.heap.size w w')
  (g: ∀v w',Q v->ah w' (dst D w' ι []) (sumOf ι []) r v):
  Calls P f args.toArray w (fun e w'=> ∃v i,e= .returned v/\Kept (aN w ι []) w w'/\eG D w' i []/\(∀b,aN w ι [] b->aN w' i [] b)/\
   (∀h,h<([]:Heap).length->(mv.contains h=true\/sumOf i [] h=sumOf ι [] h)/\ ∃x,([]:Heap)[h]? =some (some x))/\ah w' (dst D w' i []) (sumOf i []) r v):=by
 refine p.mono fun e w' ⟨v,q,z,j⟩=>⟨v,ι,q,Kept.below (fun b j=>j.1) j,⟨fun h r g=>by simp at g,fun h h' b o=>by obtain⟨r,g⟩:=o.row;simp at g,fun h b o=>by obtain⟨r,g⟩:=o.row;simp at g,fun h t xss m cs g=>by simp at g⟩,fun b n=>⟨gz n.1 j.size,n.2⟩,fun h y=>by simp at y,g v w' z⟩
section
variable {P : Program}
def Dq:bd:=fun avs H=>
 match avs,H with
 |[.aa .str s,.aa .str t],[]=>⟨Int,kq s t,fun n=>(.aa (.int .i64) n,[]),[],none⟩
 |_,_=>ad.no
theorem aeA {ρ:Ren} (L:Lays.n219 P ρ):Sound P (ρ.f 219) Dq:=by
 intro avs H r E b D w args ι I F G J q
 unfold Dq at b⊢
 split at b
 ·rename_i s t
  simp only[ad.run,ad.dec,co] at b
  obtain⟨n,g,h⟩:=b
  cases h
  obtain⟨A,K,rfl,j,v1,z,rfl,m,i⟩:=q
  have i:z=[]:=i
  subst i
  have j:[A]=[.string s]:=j
  have m:[v1]=[.string t]:=m
  cases j
  cases m
  unfold kq at g
  split at g
  ·rename_i c p
   cases g
   have x:t=⟨#[c]⟩:=by
    rcases t with⟨⟨l⟩⟩
    simp only at p
    rw[p]
   subst x
   refine wc (Q:=fun v=>v= .int .i64 (Lib.indexByte s.data.toList c)) ((Any.stringslite_Index_one L s c w).mono fun e w' ⟨h,y⟩=>⟨_,h,rfl,by rw[y];exact Below.refl _ _⟩) ?_
   rintro v w' rfl
   rfl
  ·cases g
 ·simp[ad.no,ad.run] at b
def Dr:bd:=fun avs H=>
 match avs,H with
 |[.aa .str s],[]=>⟨Int×Bool,ra s,fun y=>(.ba [.aa (.int .i64) y.1,.aa .err y.2],[]),[],none⟩
 |_,_=>ad.no
theorem Od {w:World} {S:Nat->Prop} (h:gY w S) {g:Nat} (f:jR g=some ⟨.err,[true]⟩): ∃b,w.cell? ⟨g,0,none⟩=some b/\(b= .nilIface\/ ∃m j,b= .iface m j):=by
 obtain⟨⟨_,_,h⟩,_⟩:=h g .err [true] f
 obtain⟨c,⟨v,rfl,t,p,i⟩,e⟩:=h 0 true rfl
 exact⟨v,by simpa using e 0 v rfl,.inr ⟨t,p,i⟩⟩
theorem aeB {ρ:Ren} (L:LaysC.n172 P ρ) (K:jR (ρ.g 15)=some ⟨.err,[true]⟩) (M:jR (ρ.g 16)=some ⟨.err,[true]⟩):Sound P (ρ.f 172) Dr:=by
 intro avs H r Y h D w args ι a0 Z q a1 O
 unfold Dr at h⊢
 split at h
 ·rename_i s
  simp only[ad.run,ad.dec,co] at h
  obtain⟨y,i,b⟩:=h
  cases b
  obtain⟨X,V,rfl,p,n⟩:=O
  have n:V=[]:=n
  subst n
  have p:[X]=[.string s]:=p
  cases p
  unfold ra at i
  split at i
  ·rename_i z
   cases i
   obtain⟨I,A,F⟩:=Od q K
   obtain⟨J,E,G⟩:=Od q M
   refine wc (Q:=fun v=> ∃x,v= .tuple #[.int .i64 (eb s).1,x]/\ou (eb s).2 x) ?_ ?_
   ·unfold eb
    cases j:Lib.atoiAll s.data.toList with
    |ok v=>
     refine(Any.strconv_Atoi_ok L s (by omega) v j w).mono fun e w' ⟨b,R⟩=>⟨_,b,⟨_,rfl,rfl⟩,?_⟩
     rcases R with rfl|⟨t,rfl⟩
     ·exact Below.refl _ _
     ·exact Lib.bytesWorld_below _ _ _
    |range=>exact(Any.strconv_Atoi_range L s z j J w E G).mono fun e w' ⟨N,b,_,_,m⟩=>⟨_,b,⟨_,rfl,_,_,rfl⟩,m⟩
    |_=>exact(Any.strconv_Atoi_syntax L s z j I w A F).mono fun e w' ⟨N,b,_,_,m⟩=>⟨_,b,⟨_,rfl,_,_,rfl⟩,m⟩
   ·rintro v w' ⟨x,rfl,U⟩
    exact⟨[_,x],rfl,_,_,rfl,rfl,x,[],rfl,⟨x,rfl,U⟩,rfl⟩
  ·cases i
 ·simp[ad.no,ad.run] at h
end
end Go.Rv
namespace Go.Rv
open Go.Proofs Go.Shelf Go.RowKit
section
variable {P : Program}
def Ds:bd:=fun avs H=>
 match avs,H with
 |[.aa (.int .i64) n],[]=>⟨ByteArray,oW n,fun s=>(.aa .str s,[]),[],none⟩
 |_,_=>ad.no
theorem aeC {w:World} {S:Nat->Prop} (h:gY w S) {g:Nat} {name:String} {k:IntKind} {zs:List Int} (n:jR g=some ⟨.int k,zs⟩) (p:P.globalNamed name=some g):TabIs P w name k zs:=by
 obtain⟨⟨_,_,r⟩,cs,e,t,b,q⟩:=h g (.int k) zs n
 unfold TabIs var?
 rw[p,ac,b]
 simp only
 congr 1
 refine qZ (by simpa[Ty.cells] using q) fun i f j=> ?_
 have hi:i<zs.length:=by simpa using j
 obtain⟨c,hd,m⟩:=r i zs[i] (bh hi)
 have hd:c=[.int k zs[i]]:=hd
 subst hd
 have:=m 0 _ rfl
 simp only[cell?,ix,Ty.cells,Nat.mul_one,gV,b] at this
 rw[CF f] at this
 simpa using this
theorem aeD {ρ:Ren} (L:LaysM.n171 P ρ) (x:jR (ρ.g 17)=some ⟨.int .u64,Lib.pow10Tab⟩) (z:P.globalNamed "internal/strconv.uint64pow10" =some (ρ.g 17)):Sound P (ρ.f 171) Ds:=by
 intro avs H r I b D w args ι K J y M t
 unfold Ds at b⊢
 split at b
 ·rename_i n
  simp only[ad.run,ad.dec,co] at b
  obtain⟨s,h,i⟩:=b
  cases i
  obtain⟨G,F,rfl,m,j⟩:=t
  have j:F=[]:=j
  subst j
  have m:[G]=[.int .i64 n]:=m
  cases m
  unfold oW at h
  split at h
  ·rename_i p
   cases h
   refine wc (Q:=fun v=>v= .string ⟨(itoa n).toArray⟩) ((Any.strconv_Itoa L n p.1 p.2 w (aeC y x z)).mono fun e w' ⟨i,k,os,E⟩=>⟨_,i,rfl,?_⟩) ?_
   ·subst E
    refine⟨rfl,rfl,rfl,?_,fun q A=> ?_⟩
    ·show w.heap.size<=(w.heap++os).size
     simp
    ·show(w.heap++os)[q]? =w.heap[q]?
     rw[vw A]
   ·rintro v w' rfl
    rfl
  ·cases h
 ·simp[ad.no,ad.run] at b
def Dt:bd:=fun avs H=>
 match avs,H with
 |[.aa (.list .str) xs,.aa .str sep],[]=>⟨ByteArray,vK xs sep,fun s=>(.aa .str s,[]),[],none⟩
 |_,_=>ad.no
theorem aeE {ρ:Ren} (L:Lays.n156 P ρ) (X:Builder.Extra P ρ):Sound P (ρ.f 156) Dt:=by
 intro avs H r O g D w args ι Y R V Z A
 unfold Dt at g⊢
 split at g
 ·rename_i xs sep
  simp only[ad.run,ad.dec,co] at g
  obtain⟨s,m,i⟩:=g
  cases i
  obtain⟨a1,a0,rfl,J,v1,M,rfl,p,n⟩:=A
  have n:M=[]:=n
  subst n
  have p:[v1]=[.string sep]:=p
  cases p
  obtain⟨a,cap,y,G,K⟩:=J
  cases y
  unfold vK at m
  split at m
  ·rename_i U
   cases m
   refine wc (Q:=fun v=>v= .string ⟨(join (xs.map (·.data.toList)) sep.data.toList).toArray⟩) ?_ ?_
   ·by_cases t:xs=[]
    ·subst t
     exact(Any.strings_Join_none L X a cap sep w).mono fun e w' ⟨i,q⟩=>⟨_,i,rfl,by rw[q];exact Below.refl _ _⟩
    ·rcases K with h|⟨b,o,rfl,_,E,z⟩
     ·exact absurd h t
     ·refine(Any.strings_Join L X b o cap xs sep w (fun j x I=> ?_) E (by omega) G (by omega)).mono fun e w' ⟨i,q⟩=>⟨_,i,rfl,q⟩
      obtain⟨c,hd,F⟩:=z j x I
      have hd:c=[.string x]:=hd
      subst hd
      simpa[Ty.cells] using F 0 _ rfl
   ·rintro v w' rfl
    rfl
  ·cases m
 ·simp[ad.no,ad.run] at g
end
end Go.Rv
namespace Go.Rv
open Go.Proofs Go.Shelf Go.RowKit Go.Lib
def wd:bd:=fun avs H=>
 match avs,H with
 |[.aa (.list u) xs],[]=>cond (beq u.cells 1) ⟨List u.den,oV xs,fun ys=>(.ab 0,[some (.seq u ys)]),[],none⟩ ad.no
 |_,_=>ad.no
section
variable {P : Program} {ρ : Ren}
set_option maxHeartbeats 2000000 in
set_option maxRecDepth 100000 in
theorem aeF (L:SlLaysE0.n41 P ρ) (b:TypeInfo) (z:Value) (bytes:Nat) (hi:P.info? (ρ.t 23)=some b) (D:b.zero=some z) (E:b.size=1) (F:b.bytes=bytes) (G:z.cells.size=1)
  (V: ∀w,(Go.sizeOf (ρ.t 23)).run P w= .ok 1 w) (a:Addr) (c:Nat) (w:World):
  Calls P (ρ.f 41) #[.slice (some a) 0 c] w fun e w'=> ∃g,e= .returned g/\w'.ownsRow w.heap.size (ρ.t 23) 1 g 0 []/\g≠ .slice none 0 0/\Below w.heap.size w w':=by
 have mixed:=L.mixed;have M:=L.t4;have J:=L.a4;have X:=L.z4;have R:=L.v4;have m:=L.t22;have I:=L.a22;have U:=L.z22;have Q:=L.v22
 have K: ∀(w:World) (a:Option Addr) (n c i h:Nat),(binOp .eql (ρ.t 22) (.slice a n c) (.slice none i h)).run P w= .ok (.bool a.isNone) w:=fun w a n c i h=>Lib.run_eql_slice_nil w _ _ a n c i h L.t22
 have O: ∀w,Sem.run P (underlying (ρ.t 22)) w= .ok (TypeDesc.slice (ρ.t 23)) w:=bi m
 obtain⟨_,_,p⟩:=L.f41
 go_enter p,SlBodyN.n41_ntmps ρ
 go_wp2_with (at_builtin;refine wpList_append_own _ rfl _ _ (ρ.t 22) rfl w.heap.size (ρ.t 23) b z 1 bytes m hi D E F G (by decide) _ _ _ rfl (World.ownsRow_made w #[] 0 (aS _) (vz _) (by simp)) a 0 c [] rfl (by simp) (by intro j u r;simp at r) (by intro u A;cases A) (by unfold maxLen;omega) (by omega) (by simp) ?_)
 intro g w1 y q x
 go_wp2
 go_ret
 refine⟨g,rfl,by simpa using y,?_,?_⟩
 ·exact x
 ·exact((Below.refl _ w).alloc (aS _) _).grown q (by simp) (by intro k v;simp[Value.ownBlock] at v;omega)
theorem aC.Oe {w:World} {S:Nat->Prop} {σ:Nat->Option Sum} {u:Ty} {xs:List u.den} {vs:List Value} (h:aC w S σ (xs.map (AV.aa u)) vs) {i:Nat} {x:u.den} (f:xs[i]? =some x): ∃v,vs[i]? =some v/\ax w S u x [v]:=by
 obtain⟨v,b,e⟩:=aC.get _ _ i (.aa u x) h (by rw[ei,f];rfl)
 exact⟨v,b,e⟩
theorem Du {f:FuncId} {args:List Value} {w:World} {D:Nat->Prop} {ι:aX} (a3: ∀b,w.heap.size<=b->D b) {u:Ty} (Q:u.cells=1) {xs:List u.den} {e:TypeId} {vs:List Value}
  (a7:aC w (dst D w ι []) (sumOf ι []) (xs.map (AV.aa u)) vs)
  (X:Calls P f args.toArray w fun L w'=> ∃v,L= .returned v/\w'.ownsRow w.heap.size e 1 v xs.length vs/\Below w.heap.size w w') {mv:List Nat}:
  Calls P f args.toArray w (fun e w'=> ∃v A,e= .returned v/\Kept (aN w ι []) w w'/\eG D w' A [some (.seq u xs)]/\(∀b,aN w ι [] b->aN w' A [some (.seq u xs)] b)/\
   (∀h,h<([]:Heap).length->(mv.contains h=true\/sumOf A [some (.seq u xs)] h=sumOf ι [] h)/\ ∃x,([some (.seq u xs)]:Heap)[h]? =some (some x))/\ah w' (dst D w' A [some (.seq u xs)]) (sumOf A [some (.seq u xs)]) (.ab 0) v):=by
 refine X.mono fun L w' ⟨v,M,⟨b0,a4⟩,n⟩=> ?_
 have G: ∀{h:Nat} {r:Row},([some (.seq u xs)]:Heap)[h]? =some (some r)->h=0/\r= .seq u xs:=fun {h r} q=>by
  cases h with
  |zero=>simp at q;exact⟨rfl,q.symm⟩
  |succ h=>simp at q
 rcases a4 with⟨rfl,a2⟩|⟨g,cap,V,rfl,a0,Y,a1,Z,a5,a6⟩
 ·have I:xs=[]:=kW a2
  subst I
  have E: ∀{h b:Nat},¬aP (⟨fun _=>none,fun _ _=>none⟩:aX) [some (.seq u [])] h b:=fun {h b} o=>by
   cases o with
   |out r p q z e=>cases z
   |aq t xss m cs i p q hi z e=>cases z
  refine⟨_,⟨fun _=>none,fun _ _=>none⟩,M,Kept.mk n.os n.tape n.output n.size (fun b h=>n.block b h.1) (fun a J=>n.frozen J),⟨fun h r q=> ?_,fun h h' b o=>absurd o E,fun h b o=>absurd o E,fun h t xss m cs q=>by cases (G q).2⟩,fun b F=>⟨gz F.1 n.size,fun h=>E⟩,fun h K=>by simp at K,⟨_,rfl,rfl,rfl,none,rfl⟩⟩
  obtain⟨rfl,rfl⟩:=G q
  rfl
 ·let A:aX:=⟨fun h=>if h=0 then some (g,0,cap) else none,fun _ _=>none⟩
  have E: ∀{h b:Nat},aP A [some (.seq u xs)] h b->h=0/\b=g:=fun {h b} o=>by
   cases o with
   |out r p q z e=>
    obtain⟨rfl,rfl⟩:=G q
    have z:some (g,0,cap)=some p:=z
    cases z
    exact⟨rfl,e.symm⟩
   |aq t xss m cs i p q hi z e=>cases z
  have O: ∀b,aN w ι [] b->aN w' A [some (.seq u xs)] b:=fun b F=>⟨gz F.1 n.size,fun h o=>by
   have:=(E o).2
   have:=F.1
   omega⟩
  refine⟨_,A,M,Kept.mk n.os n.tape n.output n.size (fun b h=>n.block b h.1) (fun a J=>n.frozen J),⟨fun h r q=> ?_,fun h h' b o a9=>(E o).1.trans (E a9).1.symm,fun h b o=>a3 b (by rw[(E o).2];exact a0),fun h t xss m cs q=>by cases (G q).2⟩,O,fun h K=>by simp at K,⟨_,rfl,?_⟩⟩
  ·obtain⟨rfl,rfl⟩:=G q
   refine⟨V,e,Y,by rw[a5,Q,ix],a1,Z,fun i x I=> ?_⟩
   obtain⟨v,R,a8⟩:=a7.Oe I
   refine⟨[v],ax.mono n.size (fun b F _=>⟨⟨F.1,O b F.2⟩,n.block b F.2.1⟩) _ _ _ a8,fun j y U=> ?_⟩
   cases j with
   |zero=>
    cases U
    have hi:=(aO.1 I).1
    rw[<-a6,qq,aA (by omega)] at R
    simpa[Q] using R
   |succ j=>simp at U
  ·show 0+xs.length<=cap/\_
   exact⟨by omega,.inl (by simp[Row.len])⟩
theorem Of (L:SlLaysE0.n41 P ρ) (p:TypeInfo) (z:Value) (bytes:Nat) (hi:P.info? (ρ.t 23)=some p) (M:p.zero=some z) (O:p.size=1) (Q:p.bytes=bytes) (R:z.cells.size=1) (a1:bytes<=128)
  (U: ∀w,(Go.sizeOf (ρ.t 23)).run P w= .ok 1 w):Sound P (ρ.f 41) wd:=by
 intro avs H r a9 j D w args ι A b0 b2 b4 a0
 unfold wd at j⊢
 split at j
 ·rename_i u xs
  cases g:beq u.cells 1 with
  |false=>rw[g] at j;simp[ad.no,ad.run] at j
  |true=>
   have g:=qQ g
   simp only[g,qR,aw] at j⊢
   simp only[ad.run,ad.dec,co] at j
   obtain⟨ys,q,m⟩:=j
   cases m
   unfold oV at q
   split at q
   ·rename_i a3
    cases q
    obtain⟨b7,a8,rfl,a5,F⟩:=a0
    have F:a8=[]:=F
    subst F
    obtain⟨a,cap,X,b1,K⟩:=a5
    cases X
    cases a with
    |none=>
     have n:xs=[]:=by
      rcases K with h|⟨b,o,h,_⟩
      ·exact h
      ·cases h
     subst n
     exact Du (ι:=ι) A g (xs:=[]) (vs:=[]) (e:=ρ.t 23) rfl ((AnyE.slices_Clone_nil L 0 cap w).mono fun e w' ⟨m,a7⟩=>⟨_,m,⟨rfl,.inl ⟨rfl,rfl⟩⟩,by rw[a7];exact Below.refl _ _⟩)
    |some V=>
     by_cases n:xs=[]
     ·subst n
      exact Du (ι:=ι) A g (xs:=[]) (vs:=[]) (e:=ρ.t 23) rfl ((aeF L p z bytes hi M O Q R U V cap w).mono fun e w' ⟨v,m,E,_,y⟩=>⟨v,m,E,y⟩)
     ·rcases K with h|⟨b,o,h,_,_,Z⟩
      ·exact absurd h n
      ·cases h
       obtain⟨vs,G,a6⟩:=qG (σ:=sumOf ι []) g xs o (fun i x n=>by
        obtain⟨cs,hd,a2⟩:=Z i x n
        exact⟨cs,hd,by simpa[g] using a2⟩)
       have b5:vs.length=xs.length:=by simpa using G.length
       exact Du A g (e:=ρ.t 23) G ((AnyE.slices_Clone L p z 1 bytes hi M O Q R (by decide) U b o xs.length cap vs w (by omega) (by unfold maxLen;omega) (fu (fv a3 a1) (by omega)) a6 (fun v a4=>by
        obtain⟨i,J⟩:=List.getElem?_of_mem a4
        have b3:=(aO.1 J).1
        obtain⟨b6,I,Y⟩:=G.Oe (bh (show i<xs.length by omega))
        rw[J] at I
        cases I
        exact ax.one _ _ _ Y v (uI.2 rfl))).mono fun e w' ⟨v,m,E,_,y⟩=>⟨v,m,E,y⟩)
   ·cases q
 ·simp[ad.no,ad.run] at j
end
end Go.Rv
