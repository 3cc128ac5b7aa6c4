/-
  The framework: regions,functions,laws. Conditions: none.
-/
import Derived.Test.YthjlnoplibeclaaGreatDoorFC
import Derived.LoopN
import Derived.KernelRfl
import Derived.Lib.Bytealg
import Derived.Lib.ItoaNum
import Derived.Lib.AtoiAll
import Derived.Lib.Join
import Derived.Below
import Derived.WideKeyArgs
import Derived.ChangeSlices
import Derived.WideShapes
import Derived.ChangeSame
import Derived.Lib.LaidTab
import Derived.Stop.LaidErr
import Derived.Shelf.Spec.SlicesInsertGrow
import Derived.Shelf.Strings.Search2
import Derived.Shelf.Strconv.Itoa3
import Derived.Shelf.Strconv.AtoiAll
import Derived.Shelf.Strings.OnBuilder
import Derived.Shelf.SlicesE.Clone
open Go.Op (operands)
open Nat (beq lor blt land)
open List (replicate range' getD)
open Go.DataW (trod Trod TrodVars TrodAll lit)
open Go.Builtin (zeroCells)
open Go.Oper (looksAt wp)
open Go.Region (wanted ready binds)
open Go.Act (eval)
open Go.World (cell? var? frozen?)
open Go.Value (okWide)
open ByteArray (empty)
open Go.Lib (join TabIs itoa)
open Go.Instr (sameNow findNow mapUpdate checkKey)
set_option linter.all false
namespace Go.Rv
def bo:=@Bool.not_true
def cU:=@if_true
def fJ:=@Option.bind_assoc
def iC:=@List.mem_map
def ku:=@Array.getElem_modify
def pf:=@List.append_assoc
def re:=@ready_mono
def rf:=@Bool.false_eq_true
def rg:=@Array.ext
def vJ:=@mem_ready
def vK:=@List.mem_of_mem_take
def vL:=@Array.getElem?_toList
def vM:=@Array.length_toList
def vN:=@List.take_of_length_le
def vO:=@Array.getElem?_append_left
def vP:=@Nat.zero_le
def CW:=@List.not_mem_nil
def CX:=@Oper.apart_spec
def CY:=@Nat.sub_zero
def CZ:=@List.range'_succ
def C0:=@Array.getElem?_eq_getElem
def C1:=@Nat.sub_self
def C2:=@List.length_append
def No:=@Array.mapM_eq_mapM_toList
def Np:=@LawfulMonad.bind_pure_comp
section
variable {β : Type}
theorem C3 (b:EK) (e:BinOp) (x y:AV) (k:AV->Option β):jX (ag β) b e x y k=(jX (ag AV) b e x y some).bind k:=by
 unfold jX
 split
 ·split
  ·simp[ag,fJ]
  ·simp[ag,fJ]
  ·split
   ·split<;>simp[ag,fJ]
   ·rfl
 ·split<;>simp[ag,fJ]
 ·split
  ·split<;>rfl
  ·rfl
 ·split
  ·split<;>rfl
  ·rfl
 ·rfl
theorem C4 (b:UnOp) (x:AV) (k:AV->Option β):jY (ag β) b x k=(jY (ag AV) b x some).bind k:=by
 unfold jY
 split<;>rfl
theorem acY {e:Type} (lo hi:Option AV) (L:Nat) (k:Nat->Nat->Option e) (j:e->Option β):fA (ag β) lo hi L (fun a b=>(k a b).bind j)=(fA (ag e) lo hi L k).bind j:=by
 unfold fA
 split<;>simp[ag,fJ]
theorem C5 (T:TT) (s:St) (t:TypeId) (x:AV) (lo hi:Option AV) (k:AV->Option β):ff (ag β) T s t x lo hi k=(ff (ag AV) T s t x lo hi some).bind k:=by
 have h: ∀(L:Nat) (f:Nat->Nat->AV),fA (ag β) lo hi L (fun q r=>k (f q r))=(fA (ag AV) lo hi L (fun q r=>some (f q r))).bind k:=fun L f=>by
  rw[<-acY];rfl
 unfold ff
 split
 ·split
  ·split
   ·split
    ·split
     ·exact h _ _
     ·rfl
    ·split
     ·split
      ·exact h _ _
      ·rfl
     ·rfl
    ·split
     ·split
      ·exact h _ _
      ·rfl
     ·rfl
    ·rfl
   ·rfl
  ·split
   ·exact h _ _
   ·rfl
  ·split
   ·split
    ·split
     all_goals simp_all [ag,fJ]
    ·rfl
   ·rfl
  ·rfl
 ·rfl
theorem C6 (T:TT) (s:St) (t:TypeId) (x i:AV) (k:AV->Option β):fg (ag β) T s t x i k=(fg (ag AV) T s t x i some).bind k:=by
 unfold fg
 split
 ·split
  ·split
   ·split
    ·split
     ·split<;>simp[ag,fJ]
     ·split
      ·split<;>simp[ag,fJ]
      ·rfl
     ·split
      ·split<;>simp[ag,fJ]
      ·rfl
     ·rfl
    ·rfl
   ·split
    ·split
     ·split
      ·split
       ·simp[ag,fJ]
       ·split
        ·split<;>simp[ag,fJ]
        ·rfl
      ·split<;>simp[ag,fJ]
      ·rfl
     ·split
      ·split<;>simp[ag,fJ]
      ·rfl
     ·split
      ·simp[ag,fJ]
      ·split
       ·split<;>simp[ag,fJ]
       ·rfl
     ·rfl
    ·rfl
   ·rfl
  ·rfl
 ·rfl
theorem C7 (b:Bool) (n:Nat) (cs:List AV) (off:Nat) (k:AV->Option β):
  (if b then(if off+n<=cs.length then k (.agg ((cs.drop off).take n)) else(ag β).fail) else match cs[off]? with|some a=>k a|none=>(ag β).fail)=
  (if b then(if off+n<=cs.length then some (.agg ((cs.drop off).take n)) else(ag AV).fail) else match cs[off]? with|some a=>some a|none=>(ag AV).fail).bind k:=by
 split
 ·split<;>rfl
 ·split<;>rfl
theorem C8 (T:TT) (s:St) (t:TypeId) (p:AV) (k:AV->Option β):eQ (ag β) T s t p k=(eQ (ag AV) T s t p some).bind k:=by
 unfold eQ
 split
 ·rfl
 ·simp only
  split
  ·exact C7 _ _ _ _ _
  ·exact C7 _ _ _ _ _
  ·split
   all_goals grind [ag,Option.bind_assoc]
  ·split
   ·exact C7 _ _ _ _ _
   ·split
    all_goals simp_all [ag,fJ]
   ·rfl
  ·split
   all_goals simp_all [ag,fJ]
  ·rfl
theorem C9 (T:TT) (t:TypeId) (x:AV) (f:Nat) (k:AV->Option β):jZ (ag β) T t x f k=(jZ (ag AV) T t x f some).bind k:=by
 unfold jZ
 split
 ·split
  ·split
   ·split
    ·split
     ·rfl
     ·split<;>rfl
    ·rfl
   ·rfl
  ·rfl
 ·rfl
theorem Da (T:TT) (t:TypeId) (x:AV) (f:Nat) (k:AV->Option β):ka (ag β) T t x f k=(ka (ag AV) T t x f some).bind k:=by
 unfold ka
 split
 ·split
  ·split
   ·split
    ·split
     ·split<;>rfl
     ·split<;>rfl
    ·rfl
   ·rfl
  ·rfl
 ·rfl
end
def RowsIn (s t:St):Prop:= ∀(h:Nat) (r:Row),s.heap[h]? =some (some r)->t.heap[h]? =some (some r)
theorem Db {β:Type} {k:AV} {hit:Go.Fn->Option β} {g:Option β} {r:β}: ∀(b:List (Value×Go.Fn)),jm (ag β) k hit g b=some r->(∃f,hit f=some r)\/g=some r
 |[],h=> .inr h
 |(c,f)::b,h=>by
  unfold jm at h
  split at h
  ·split at h
   ·rename_i n _ m _
    cases e:(n==m) with
    |true=>grind
    |false=>rw[e] at h;exact Db b h
   ·cases h
  ·rename_i x y
   cases e:(x==y) with
   |true=>grind
   |false=>rw[e] at h;exact Db b h
  ·cases h
theorem RowsIn.row {s t:St} (h:RowsIn s t) {g:Nat} {r:Row} (b:s.row g=some r):t.row g=some r:=by
 have:=h g r (bj b)
 simp[St.row,this]
def eT (x:AV) (s t:St):Prop:= ∀g∈x.ids,∀r,s.heap[g]? =some (some r)->t.heap[g]? =some (some r)
theorem eT.row {x:AV} {s t:St} (h:eT x s t) {g:Nat} (b:g∈x.ids) {r:Row} (e:s.row g=some r):t.row g=some r:=by
 have:=h g b r (bj e)
 simp[St.row,this]
def vQ (o:Oper) (s t:St):Prop:= ∀x∈o.op.operands.toList,∀a,az s x=some a->eT a s t
theorem RowsIn.acZ {s t:St} (h:RowsIn s t) (o:Oper):vQ o s t:=fun _ _ _ _ g _ r b=>h g r b
theorem ac0 {s t:St} {x:AV} {n:Nat} (h:eT x s t) (b:gJ s x=some n):gJ t x=some n:=by
 unfold gJ at*
 grind [eT.row,AV.ids]
theorem ac1 {T:TT} {s t:St} {ty:TypeId} {x:AV} {lo hi:Option AV} {a:AV} (h:eT x s t) (b:ff (ag AV) T s ty x lo hi some=some a):ff (ag AV) T t ty x lo hi some=some a:=by
 unfold ff at*
 split at b
 ·split at b
  ·split at b
   ·split at b
    ·exact b
    ·split at b
     ·grind [eT.row,AV.ids]
     ·cases b
    ·split at b
     ·grind [eT.row,AV.ids]
     ·cases b
    ·cases b
   ·cases b
  all_goals omega
 ·cases b
theorem ac2 {T:TT} {s t:St} {ty:TypeId} {x i:AV} {a:AV} (h:eT x s t) (b:fg (ag AV) T s ty x i some=some a):fg (ag AV) T t ty x i some=some a:=by
 unfold fg at*
 split at b
 ·split at b
  ·split at b
   ·split at b
    ·split at b
     ·exact b
     ·split at b
      ·grind [eT.row,AV.ids]
      ·cases b
     ·split at b
      ·grind [eT.row,AV.ids]
      ·cases b
     ·cases b
    ·cases b
   ·split at b
    ·split at b
     ·split at b
      ·grind [eT.row,AV.ids]
      ·grind [eT.row,AV.ids]
      ·cases b
     ·split at b
      ·grind [eT.row,AV.ids]
      ·cases b
     all_goals omega
    ·cases b
   ·cases b
  ·cases b
 ·cases b
theorem ac3 {T:TT} {s t:St} {ty:TypeId} {p:AV} {a:AV} (h:eT p s t) (b:eQ (ag AV) T s ty p some=some a):eQ (ag AV) T t ty p some=some a:=by
 unfold eQ at*
 split at b
 ·cases b
 ·simp only at b⊢
  split at b
  ·exact b
  ·exact b
  ·split at b
   ·grind [eT.row,AV.ids]
   ·grind [eT.row,AV.ids]
   ·cases b
  ·split at b
   ·grind [eT.row,AV.ids]
   ·grind [eT.row,AV.ids]
   ·cases b
  all_goals omega
theorem ac4 {s t:St} {x:AV} (h:x.ids=[]):gJ t x=gJ s x:=by
 cases x<;>simp[AV.ids] at h<;>first|rfl|(rename_i u y;cases u<;>rfl)
theorem ac5 {T:TT} {s t:St} {ty:TypeId} {x:AV} {lo hi:Option AV} (h:x.ids=[]):ff (ag AV) T t ty x lo hi some=ff (ag AV) T s ty x lo hi some:=by
 cases x<;>simp[AV.ids] at h<;>first|rfl|(rename_i u y;cases u<;>rfl)
theorem ac6 {T:TT} {s t:St} {ty:TypeId} {x i:AV} (h:x.ids=[]):fg (ag AV) T t ty x i some=fg (ag AV) T s ty x i some:=by
 cases x<;>simp[AV.ids] at h<;>first|rfl|(rename_i u y;cases u<;>rfl)
theorem ac7 {T:TT} {s t:St} {ty:TypeId} {p:AV} (h:p.ids=[]):eQ (ag AV) T t ty p some=eQ (ag AV) T s ty p some:=by
 cases p<;>simp[AV.ids] at h<;>first|rfl|(rename_i u y;cases u<;>rfl)
theorem vR {o:Oper} {s:St} (h:iv o s=true) {x:Operand} (b:x∈o.op.operands.toList) {a:AV} (e:az s x=some a):a.ids=[]:=by
 have:=bT.1 h x b
 simp_all
end Go.Rv
namespace Go.Rv
theorem cA {b β:Type} {o:Option b} {f:b->Option β} {r:β} (h:o.bind f=some r): ∃a,o=some a/\f a=some r:=by
 cases o<;>simp_all
theorem Dc {s t:St} {x:Option Operand} (h: ∀y,x=some y->az t y=az s y):evalOp t x=evalOp s x:=by
 cases x<;>grind [evalOp]
theorem iD {s t:St}: ∀{xs:List Operand},(∀x∈xs,az t x=az s x)->cO t xs=cO s xs
 |[],_=>rfl
 |x::r,h=>by simp only[cO,h x (by simp),iD (fun y b=>h y (bB _ b))]
theorem rh {s t:St}: ∀{xs:List (Nat×Operand)},(∀x∈xs.map (·.2),az t x=az s x)->gx t xs=gx s xs
 |[],_=>rfl
 |x::r,h=>by
  obtain⟨i,y⟩:=x
  simp only[gx,h y (by simp),rh (xs:=r) (fun y b=>h y (by simp_all))]
theorem ac8 {C:Ctx} {base:Nat} {o:Oper} {s a0:St} (I:eE o.op=true) (h:bb (ag St) C base o s some=some a0):
  ∃a,a0=s.put o.dst a/\ ∀(a1:Nat) (t:St),(∀x∈o.op.operands.toList,az t x=az s x)->(is o.op=true\/iv o s=true\/vQ o s t)->bb (ag St) C a1 o t some=some (t.put o.dst a):=by
 obtain⟨V,b1,Z,Y,U,X⟩:=o
 simp only at I⊢
 unfold bb at h⊢
 cases b1<;>(try cases I)<;>simp only[operands,Array.toList,ej,CW,or_false,forall_eq_or_imp,forall_eq] at h⊢
 case move x=>
  obtain⟨a,q,h⟩:=aJ h
  cases h
  refine⟨a,rfl,fun _ t w _=> ?_⟩
  rw[w,q];rfl
 case pick c x y=>
  obtain⟨b5,a9,h⟩:=aJ h
  split at h
  ·rename_i g
   obtain⟨z,j,h⟩:=aJ h
   obtain⟨b4,O,h⟩:=aJ h
   cases h
   refine⟨_,rfl,fun _ t w _=> ?_⟩
   rw[w.1,w.2.1,w.2.2,a9,j,O];rfl
  ·cases h
 case build ty d5=>
  split at h
  ·rename_i D l M R
   split at h
   ·rename_i b8 c4
    split at h
    ·rename_i b9
     obtain⟨cs,c0,h⟩:=aJ h
     grind [gx,rh,lift]
    ·cases h
   ·cases h
  ·cases h
 case load ty p=>
  obtain⟨b3,L,h⟩:=aJ h
  rw[C8] at h
  obtain⟨a,q,h⟩:=cA h
  cases h
  refine⟨a,rfl,fun _ t w v=> ?_⟩
  rw[w,L]
  simp only[lift]
  have R:eQ (ag AV) C.T t ty b3 some=some a:=by
   rcases v.resolve_left (by simp[is]) with A|v
   ·rw[ac7 (s:=s) (vR A (x:=p) (by simp[operands]) L)];exact q
   ·exact ac3 (v p (by simp[operands]) _ L) q
  grind [C8]
 case nilCheck x=>
  obtain⟨a,q,h⟩:=aJ h
  split at h
  all_goals first
   |(cases h
     refine⟨_,rfl,fun _ t w _=> ?_⟩
     rw[w,q];rfl)
   |cases h
 case binOp b2 ty x y e0=>
  obtain⟨z,j,h⟩:=aJ h
  obtain⟨b4,O,h⟩:=aJ h
  rw[C3] at h
  obtain⟨a,q,h⟩:=cA h
  grind [lift,C3]
 case unOp b2 ty x=>
  obtain⟨z,j,h⟩:=aJ h
  rw[C4] at h
  obtain⟨a,q,h⟩:=cA h
  grind [lift,C4]
 case convert st b7 x=>
  obtain⟨z,j,h⟩:=aJ h
  split at h
  ·rename_i d8 D k n a6 a7
   split at h
   ·grind [lift]
   ·cases h
  ·rename_i d7 D ys a6 a7
   split at h
   ·rename_i e c8 d0
    split at h
    ·rename_i d4 c2
     split at h
     ·grind [lift]
     ·cases h
    ·cases h
   ·cases h
  ·cases h
 case makeFunc fn first b6=>
  cases fn<;>(try simp only at h)<;>(try cases h)
  case func f=>
   split at h
   ·grind [cO,iD]
   ·cases h
 case slice ty x lo hi b0=>
  cases b0 with
  |some m=>cases h
  |none=>
   simp only at h
   split at h
   ·rename_i b l Q j R c1
    rw[C5] at h
    obtain⟨a,q,h⟩:=cA h
    cases h
    refine⟨a,rfl,fun _ t w v=> ?_⟩
    have a3:az t x=some b:=by simp_all
    have a4:evalOp t lo=some l:=by grind [Dc]
    have a5:evalOp t hi=some Q:=by grind [Dc]
    simp only[a3,a4,a5]
    have c9:ff (ag AV) C.T t ty b l Q some=some a:=by
     rcases v.resolve_left (by simp[is]) with A|v
     ·rw[ac5 (s:=s) (vR A (x:=x) (by simp[operands]) j)];exact q
     ·exact ac1 (v x (by simp[operands]) _ j) q
    grind [C5]
   ·cases h
 case fieldAddr ty x f=>
  obtain⟨z,j,h⟩:=aJ h
  rw[C9] at h
  obtain⟨a,q,h⟩:=cA h
  grind [lift,C9]
 case field ty x f=>
  obtain⟨z,j,h⟩:=aJ h
  rw[Da] at h
  obtain⟨a,q,h⟩:=cA h
  grind [lift,Da]
 case indexAddr ty x i=>
  obtain⟨z,j,h⟩:=aJ h
  obtain⟨i1,hi,h⟩:=aJ h
  rw[C6] at h
  obtain⟨a,q,h⟩:=cA h
  cases h
  refine⟨a,rfl,fun _ t w v=> ?_⟩
  rw[w.1,w.2,j,hi]
  simp only[lift]
  have c3:fg (ag AV) C.T t ty z i1 some=some a:=by
   rcases v.resolve_left (by simp[is]) with A|v
   ·rw[ac6 (s:=s) (vR A (x:=x) (by simp[operands]) j)];exact q
   ·exact ac2 (v x (by simp[operands]) _ j) q
  grind [C6]
 case index ty x i=>
  split at h
  ·rename_i D b k n M j hi
   split at h
   ·rename_i J
    obtain⟨m,K,h⟩:=cA h
    grind [ag]
   ·cases h
  ·rename_i D cs k n M j hi
   split at h
   ·rename_i c e J
    obtain⟨d6,c7,h⟩:=aJ h
    obtain⟨m,K,h⟩:=cA h
    grind [ag,lift]
   ·cases h
  ·cases h
 case extract x i=>
  obtain⟨z,j,h⟩:=aJ h
  split at h
  ·rename_i cs
   obtain⟨y,O,h⟩:=aJ h
   grind [lift]
  ·cases h
 case call c=>
  obtain⟨a2,E,F⟩:=c
  cases a2<;>(try cases I)
  case builtin b=>
   cases b<;>(try cases I)
   case len=>
    simp only at h⊢
    split at h
    ·rename_i x d9 d3 d1
     obtain⟨z,j,h⟩:=aJ h
     have d2: ∀t:St,(∀y∈(Call.operands ⟨.builtin .len,E,F⟩).toList,az t y=az s y)->az t x=some z:=fun t w=>by
      grind [ks,Call.operands]
     have c5: ∀(t:St) (n:Nat),(is (.call ⟨.builtin .len,E,F⟩)=true\/iv ⟨V,.call ⟨.builtin .len,E,F⟩,Z,Y,U,X⟩ s=true\/vQ ⟨V,.call ⟨.builtin .len,E,F⟩,Z,Y,U,X⟩ s t)->gJ s z=some n->gJ t z=some n:=fun t n v G=>by
      rcases v.resolve_left (by simp[is]) with A|v
      ·rw[ac4 (s:=s) (vR A (x:=x) (by
        grind [ks,operands,Call.operands]) j)];exact G
      ·exact ac0 (v x (by
        grind [ks,operands,Call.operands]) _ j) G
     split at h
     ·rename_i D M
      split at h
      ·cases h
      ·cases h
      ·rename_i J
       obtain⟨n,G,h⟩:=aJ h
       grind [lift]
      ·rename_i J c6
       obtain⟨n,G,h⟩:=aJ h
       grind [lift]
      ·cases h
     ·cases h
    ·cases h
   case max=>
    simp only at h⊢
    split at h
    ·rename_i k n r a8
     obtain⟨m,K,h⟩:=aJ h
     grind [cO,iD,Call.operands,lift]
    ·cases h
   case min=>
    simp only at h⊢
    split at h
    ·rename_i k n r a8
     obtain⟨m,K,h⟩:=aJ h
     grind [cO,iD,Call.operands,lift]
    ·cases h
end Go.Rv
namespace Go.Rv
theorem hK (s:St) (d:Option Tmp) (a:AV) (h:Nat):(s.put d a).row h=s.row h:=by cases d<;>rfl
theorem da (s:St) (d:Option Tmp) (a:AV):(s.put d a).heap=s.heap:=by cases d<;>rfl
theorem put_comm {s:St} {d e:Option Tmp} {a b:AV} (h: ∀t,d=some t->e≠some t):(s.put d a).put e b=(s.put e b).put d a:=by
 cases d with
 |none=>rfl
 |some t=>
  cases e<;>grind [St.put,List.set_comm]
theorem hg {s:St} {d:Option Tmp} {a:AV} {x:Operand} (h: ∀t,d=some t->x≠ .tmp t):az (s.put d a) x=az s x:=by
 cases d with
 |none=>rfl
 |some t=>
  cases x<;>grind [az,St.put,List.getElem?_set_ne]
section
variable {β : Type} {s : St} {d : Option Tmp} {a : AV}
theorem ac9 (x:AV):gJ (s.put d a) x=gJ s x:=by
 simp_all [gJ,hK]
theorem Dd (u:Ty) (x:AV):elems (s.put d a) u x=elems s u x:=by
 simp_all [elems,hK]
theorem ada (A:cz (Option β)) (T:TT) (t:TypeId) (x:AV) (lo hi:Option AV) (k:AV->Option β):ff A T (s.put d a) t x lo hi k=ff A T s t x lo hi k:=by
 simp_all [ff,hK]
theorem adb (A:cz (Option β)) (T:TT) (t:TypeId) (x i:AV) (k:AV->Option β):fg A T (s.put d a) t x i k=fg A T s t x i k:=by
 simp_all [fg,hK]
theorem adc (A:cz (Option β)) (T:TT) (t:TypeId) (p:AV) (k:AV->Option β):eQ A T (s.put d a) t p k=eQ A T s t p k:=by
 grind [eQ,hK]
theorem nk (h:Nat) (r:Row):(s.put d a).setRow h r=(s.setRow h r).put d a:=by cases d<;>rfl
theorem lH (base:Nat) (r:Row) (k:St->Option β):cP (ag β) (s.put d a) base r k=cP (ag β) s base r (fun s'=>k (s'.put d a)):=by
 grind [cP,da,nk]
theorem ade (T:TT) (t:TypeId) (p v:AV) (k:St->Option β):fi (ag β) T (s.put d a) t p v k=fi (ag β) T s t p v (fun s'=>k (s'.put d a)):=by
 simp_all [fi,hK,nk]
theorem adf (T:TT) (t:TypeId) (x y:AV) (k:AV->St->Option β):jl (ag β) T (s.put d a) t x y k=jl (ag β) T s t x y (fun n s'=>k n (s'.put d a)):=by
 simp_all [jl,hK,nk,Dd]
theorem Nq (T:TT) (io:Bool) (t:TypeId) (x:AV):il (s.put d a) T io t x=il s T io t x:=by
 simp_all [il,hK]
theorem Nr: ∀(cs:List AV),im (s.put d a) cs=im s cs
 |[]=>rfl
 |x::r=>by
  have e:ln (s.put d a) x=ln s x:=by
   simp_all [ln,Nq]
  simp only[im,e,Nr r]
theorem adg (T:TT) (io:Bool) (t:TypeId) (x:AV):jj (s.put d a) T io t x=jj s T io t x:=by
 simp_all [jj,Nr,Nq]
theorem vS (T:TT) (io:Nat->Bool): ∀(xs:List AV) (n:Nat) (b:List TypeId),eD (s.put d a) T io n b xs=eD s T io n b xs
 |[],_,_=>by simp[eD]
 |x::r,n,[]=>by simp[eD]
 |x::r,n,t::b=>by
  have f: ∀x:AV,lp (s.put d a) x=lp s x:=fun x=>by
   simp_all [lp,hK]
  have g: ∀xs:List AV,ip (s.put d a) xs=ip s xs:=fun xs=>by
   induction xs<;>grind [ip]
  have e:lq (s.put d a) x=lq s x:=by
   simp_all [lq,hK]
  simp only[eD,adg,e,vS T io r]
theorem adh (C:Ctx) (base:Nat) (f:FuncId) (args:List AV) (types:List TypeId) (k:AV->St->Option β):
  eR (ag β) C base (s.put d a) f args types k=eR (ag β) C base s f args types (fun v s'=>k v (s'.put d a)):=by
 cases d with
 |none=>rfl
 |some t=>
  unfold eR
  rw[vS]
  rfl
theorem kv {e:Type} {x y:Option e} {k j:e->Option β} (h:x=y) (f: ∀b,k b=j b):lift (ag β) x k=lift (ag β) y j:=by
 subst h
 cases x with
 |none=>rfl
 |some b=>exact f b
theorem Ns {e:Type} {x:Option e} {k j:e->Option β} (f: ∀b,k b=j b):(ag β).bind x k=(ag β).bind x j:=by
 have:k=j:=funext f
 rw[this]
theorem adi {C:Ctx} {base:Nat} {o:Oper} (k:St->Option β) (r:dQ o.op=true->iu o s=true) (A: ∀t,d=some t->Operand.tmp t∉o.op.operands.toList) (D: ∀t,d=some t->o.dst≠some t):
  bb (ag β) C base o (s.put d a) k=bb (ag β) C base o s (fun s'=>k (s'.put d a)):=by
 have g: ∀x∈o.op.operands.toList,az (s.put d a) x=az s x:=fun x h=>hg (fun t F e=>A t F (e▸h))
 have E: ∀(s':St) (v:AV),(s'.put d a).put o.dst v=(s'.put o.dst v).put d a:=fun s' v=>put_comm D
 obtain⟨Z,J,a2,a1,Y,a0⟩:=o
 simp only at r g E
 unfold bb
 cases J<;>simp only[operands,Array.toList,ej,CW,or_false,forall_eq_or_imp,forall_eq] at g⊢
 case move x=>simp_all
 case assign x=>
  grind [kv,lH]
 case pick c x y=>
  simp_all
 case alloc e=>
  simp_all [lH]
 case box e x=>
  grind [kv,lH]
 case build t j=>
  have e:gx (s.put d a) j.toList=gx s j.toList:=rh (fun x h=>g x h)
  simp_all
 case buildSlice t n j=>
  have e:gx (s.put d a) j.toList=gx s j.toList:=rh (fun x h=>g x h)
  rw[e]
  split
  ·split
   ·split
    ·split
     ·have R:(s.put d a).heap=s.heap:=by cases d<;>rfl
      grind [lH]
     ·rfl
    ·rfl
   ·rfl
  ·rfl
 case makeSlice t l c=>
  simp_all [Ns,lH]
 case load t p=>grind [kv,adc]
 case store t p v=>simp_all [kv,ade]
 case nilCheck x=>
  simp_all
 case binOp K t x y a3=>simp_all
 case unOp K t x=>simp_all
 case convert st O x=>
  simp_all
 case lookup t x X ok=>
  simp_all
 case makeFunc fn first L=>
  cases fn<;>(try rfl)
  grind [cO,St.put,iD]
 case slice t x lo hi I=>
  cases I<;>grind [az,St.put,evalOp,Dc,ada]
 case fieldAddr t x f=>simp_all
 case field t x f=>simp_all
 case indexAddr t x i=>simp_all [kv,adb]
 case index t x i=>
  simp_all
 case extract x i=>
  simp_all
 case call c=>
  obtain⟨w,m,M⟩:=c
  cases w<;>(try rfl)
  case value f=>
   have Q:az (s.put d a) f=az s f:=g f (by simp[Call.operands])
   have z:cO (s.put d a) m.toList=cO s m.toList:=iD (fun x h=>g x (by grind [Call.operands]))
   simp_all [kv,cO,adh]
  case builtin b=>
   have z: ∀x∈m.toList,az (s.put d a) x=az s x:=fun x h=>g x (by grind [Call.operands])
   cases b<;>(try rfl)
   case len=>
    simp only
    split
    all_goals simp_all [kv,ac9]
   case append=>
    have q:=r rfl
    simp only[iu] at q
    simp only
    split
    ·rename_i x y t t2 G V
     rw[G] at q
     simp only at q
     have U:az s x=some .aI:=by
      grind
     simp_all [lift,az,kd,Dd,Ns,lH]
    ·rfl
   case copy=>
    simp only
    split
    all_goals simp_all [kv,adf]
   all_goals grind [Max.max,iD,kv,Min.min]
 all_goals rfl
end
end Go.Rv
namespace Go.Rv
def js (H b:Heap):Prop:= ∀(h:Nat) (r:Row),H[h]? =some (some r)->b[h]? =some (some r)
theorem js.refl (H:Heap):js H H:=fun _ _ h=>h
theorem ri {H:Heap} {base:Nat} {r:Row} (h:H[base]? =some none):js H (H.set base (some r)):=fun g e b=>by
 grind
theorem adj {C:Ctx} {base:Nat} {o:Oper} {s q:St} (M:dQ o.op=true->iu o s=true) (h:bb (ag St) C base o s some=some q):
  ∃(v:AV) (H:Heap),q=(⟨s.env,H⟩:St).put o.dst v/\ ∀(calm:List Nat) (i:Nat),fj calm i o.op=true->bz C calm i o s=true->js s.heap H:=by
 obtain⟨w,D,I,G,E,F⟩:=o
 simp only at M⊢
 have j: ∀{v:AV} {q:St},some (s.put w v)=some q-> ∃(v:AV) (H:Heap),q=(⟨s.env,H⟩:St).put w v/\ ∀(calm:List Nat) (i:Nat),fj calm i D=true->bz C calm i ⟨w,D,I,G,E,F⟩ s=true->js s.heap H:=fun {v q} e=>by
  cases e
  grind [js.refl]
 have z: ∀{r:Row} {v:AV} {q:St},cP (ag St) s base r (fun s'=>some (s'.put w v))=some q-> ∃(v:AV) (H:Heap),q=(⟨s.env,H⟩:St).put w v/\ ∀(calm:List Nat) (i:Nat),fj calm i D=true->bz C calm i ⟨w,D,I,G,E,F⟩ s=true->js s.heap H:=fun {r v q} e=>by
  obtain⟨Z,e⟩:=dR e
  cases e
  exact⟨v,_,rfl,fun _ _ _ _=>ri Z⟩
 unfold bb at h
 cases D<;>simp only at h
 case move x=>obtain⟨a,_,h⟩:=aJ h;exact j h
 case assign x=>
  obtain⟨a,_,h⟩:=aJ h
  split at h
  ·split at h
   ·split at h
    ·exact z h
    ·cases h
   ·cases h
  grind
 case pick c x y=>
  obtain⟨a,_,h⟩:=aJ h
  split at h
  ·obtain⟨_,_,h⟩:=aJ h
   obtain⟨_,_,h⟩:=aJ h
   exact j h
  ·cases h
 case alloc e=>
  split at h
  ·split at h
   ·split at h
    ·split at h
     ·split at h
      ·exact z h
      ·cases h
     ·cases h
    ·cases h
   ·split at h
    ·exact z h
    ·cases h
  ·cases h
 case box e x=>
  obtain⟨a,_,h⟩:=aJ h
  split at h
  ·split at h
   ·exact z h
   ·cases h
  ·split at h
   ·exact z h
   ·cases h
 case build t a6=>
  split at h
  ·split at h
   ·split at h
    ·obtain⟨_,_,h⟩:=aJ h;exact j h
    ·cases h
   ·cases h
  ·cases h
 case buildSlice t n a6=>
  split at h
  ·split at h
   ·split at h
    ·split at h
     ·split at h
      ·exact j h
      ·exact z h
     ·cases h
    ·cases h
   ·cases h
  ·cases h
 case makeSlice t l c=>
  split at h
  ·split at h
   ·split at h
    ·obtain⟨_,_,h⟩:=cA h
     exact z h
    ·cases h
   ·cases h
  ·cases h
 case load t p=>
  obtain⟨_,_,h⟩:=aJ h
  rw[C8] at h
  obtain⟨_,_,h⟩:=cA h
  exact j h
 case store t p v=>
  obtain⟨b8,_,h⟩:=aJ h
  obtain⟨v1,_,h⟩:=aJ h
  have a0: ∀(r:Row) (g:Nat),some ((s.setRow g r).put w .undef)=some q-> ∃(u:AV) (H:Heap),q=(⟨s.env,H⟩:St).put w u/\ ∀(calm:List Nat) (i:Nat),fj calm i (.store t p v)=true->bz C calm i ⟨w,.store t p v,I,G,E,F⟩ s=true->js s.heap H:=fun r g e=>by
   cases e
   exact⟨_,_,rfl,fun _ _ J _=>by simp[fj] at J⟩
  unfold fi at h
  split at h
  ·cases h
  ·split at h
   ·split at h
    ·split at h
     ·split at h
      ·grind
      ·cases h
     ·split at h
      ·obtain⟨_,_,h⟩:=cA h
       grind
      ·cases h
     ·cases h
    ·cases h
   ·split at h
    ·split at h
     ·split at h
      ·split at h
       ·split at h
        ·grind
        ·cases h
       ·cases h
      ·split at h
       ·split at h
        ·obtain⟨_,_,h⟩:=cA h
         grind
        ·cases h
       ·cases h
      ·cases h
     ·split at h
      ·split at h
       ·grind
       ·cases h
      ·cases h
     ·cases h
    ·cases h
 case nilCheck x=>
  obtain⟨a,_,h⟩:=aJ h
  split at h<;>first|exact j h|cases h
 case binOp a5 t x y c0=>
  obtain⟨_,_,h⟩:=aJ h
  obtain⟨_,_,h⟩:=aJ h
  rw[C3] at h
  obtain⟨_,_,h⟩:=cA h
  exact j h
 case unOp a5 t x=>
  obtain⟨_,_,h⟩:=aJ h
  rw[C4] at h
  obtain⟨_,_,h⟩:=cA h
  exact j h
 case convert st a8 x=>
  obtain⟨_,_,h⟩:=aJ h
  split at h
  ·split at h
   ·exact j h
   ·cases h
  ·split at h
   ·split at h
    ·split at h
     ·exact j h
     ·cases h
    ·cases h
   ·cases h
  ·cases h
 case lookup t x b7 ok=>
  obtain⟨_,_,h⟩:=aJ h
  obtain⟨_,_,h⟩:=aJ h
  split at h
  ·split at h
   ·split at h
    ·split at h
     ·grind [Db]
     ·cases h
    ·cases h
   ·cases h
  ·cases h
 case makeFunc fn first U=>
  cases fn<;>(try simp only at h)<;>(try cases h)
  split at h
  ·exact j h
  ·cases h
 case slice t x lo hi a4=>
  cases a4 with
  |some m=>cases h
  |none=>
   simp only at h
   split at h
   ·rw[C5] at h
    obtain⟨_,_,h⟩:=cA h
    exact j h
   ·cases h
 case fieldAddr t x f=>
  obtain⟨_,_,h⟩:=aJ h
  rw[C9] at h
  obtain⟨_,_,h⟩:=cA h
  exact j h
 case field t x f=>
  obtain⟨_,_,h⟩:=aJ h
  rw[Da] at h
  obtain⟨_,_,h⟩:=cA h
  exact j h
 case indexAddr t x i=>
  obtain⟨_,_,h⟩:=aJ h
  obtain⟨_,_,h⟩:=aJ h
  rw[C6] at h
  obtain⟨_,_,h⟩:=cA h
  exact j h
 case index t x i=>
  split at h
  ·split at h
   ·obtain⟨_,_,h⟩:=cA h
    exact j h
   ·cases h
  ·split at h
   ·obtain⟨_,_,h⟩:=aJ h
    obtain⟨_,_,h⟩:=cA h
    exact j h
   ·cases h
  ·cases h
 case extract x i=>
  obtain⟨_,_,h⟩:=aJ h
  split at h
  ·obtain⟨_,_,h⟩:=aJ h
   exact j h
  ·cases h
 case call c=>
  obtain⟨R,K,L⟩:=c
  cases R<;>(try simp only at h)<;>(try cases h)
  case value f=>
   obtain⟨a9,b2,h⟩:=aJ h
   split at h
   ·rename_i g first U
    split at h
    ·rename_i args b0
     unfold eR at h
     split at h
     ·cases h
     ·rename_i avs b1
      simp only at h
      generalize b5:reach s.heap (s.heap.length+1) 0 (dy [] (cp avs))=ids at h
      split at h
      ·rename_i X
       simp only[aT] at X
       obtain⟨x,a2,h⟩:=cA h
       rw[mT] at h
       split at h
       ·rename_i Y
        simp only[aT,cY] at Y
        cases h
        refine⟨_,_,rfl,fun calm i O A=> ?_⟩
        simp only[fj] at O
        simp only[bz,O,bo,km,aT] at A
        have b4:cp avs=[]:=by
         grind [dq]
        have a1:ids=[]:=by
         grind [dy,reach]
        subst a1
        intro g r b3
        grind [ni,List.getElem?_eq_some_iff,q5,List.length_nil,fB]
       ·cases h
      ·cases h
    ·cases h
   ·cases h
  case builtin b=>
   cases b<;>(try simp only at h)<;>(try cases h)
   case len=>
    split at h
    ·obtain⟨a7,a2,h⟩:=aJ h
     split at h
     ·split at h
      ·cases h
      ·cases h
      ·obtain⟨_,_,h⟩:=aJ h
       exact j h
      ·obtain⟨_,_,h⟩:=aJ h
       exact j h
      ·cases h
     ·cases h
    ·cases h
   case append=>
    have A:=M rfl
    simp only[iu] at A
    split at h
    ·rename_i x y t t2 a3 b6
     rw[a3] at A
     simp only at A
     have V:az s x=some .aI:=by
      grind
     split at h
     ·obtain⟨a7,Q,h⟩:=aJ h
      obtain⟨b9,_,h⟩:=aJ h
      rw[V] at Q
      cases Q
      simp only[kd] at h
      split at h
      ·split at h
       ·split at h
        ·split at h
         ·obtain⟨_,_,h⟩:=cA h
          exact z h
         ·cases h
        ·cases h
       ·cases h
      ·cases h
     ·cases h
    ·cases h
   case copy=>
    have a0: ∀(v:AV) (r:Row) (g:Nat),some ((s.setRow g r).put w v)=some q-> ∃(u:AV) (H:Heap),q=(⟨s.env,H⟩:St).put w u/\ ∀(calm:List Nat) (i:Nat),fj calm i (.call ⟨.builtin .copy,K,L⟩)=true->bz C calm i ⟨w,.call ⟨.builtin .copy,K,L⟩,I,G,E,F⟩ s=true->js s.heap H:=fun v r g e=>by
     cases e
     exact⟨_,_,rfl,fun _ _ J _=>by simp[fj] at J⟩
    split at h
    ·obtain⟨_,_,h⟩:=aJ h
     obtain⟨_,_,h⟩:=aJ h
     unfold jl at h
     split at h
     ·split at h
      ·split at h
       ·split at h
        ·split at h
         ·split at h
          ·grind
          ·cases h
         ·cases h
        ·cases h
       ·split at h
        ·split at h
         ·split at h
          ·grind
          ·cases h
         ·cases h
        ·cases h
       ·cases h
      ·cases h
     ·cases h
    ·cases h
   case max=>
    split at h
    ·obtain⟨_,_,h⟩:=aJ h
     exact j h
    ·cases h
   case min=>
    split at h
    ·obtain⟨_,_,h⟩:=aJ h
     exact j h
    ·cases h
 all_goals cases h
end Go.Rv
namespace Go.Rv
section
variable {β : Type} {Kf : β -> Prop}
theorem dF {b:Type} (o:Option b) (f:b->Option β) (g:b->Prop) (h: ∀a,g a=aK (f a) Kf):co.bind o g=aK ((ag β).bind o f) Kf:=by
 cases o with
 |none=>exact(ll _).trans (ll _).symm
 |some a=>exact(ij a g).trans (h a)
theorem aX:co.fail=aK ((ag β).fail) Kf:=(ll _).symm
theorem dG {b:Type} (x:Option b) (k:b->Option β) (g:b->Prop) (h: ∀a,g a=aK (k a) Kf):lift co x g=aK (lift (ag β) x k) Kf:=by
 cases x with
 |none=>first|exact aX|rfl
 |some a=>exact h a
theorem adk (b:EK) (e:BinOp) (x y:AV) (k:AV->Option β) (g:AV->Prop) (h: ∀a,g a=aK (k a) Kf):jX co b e x y g=aK (jX (ag β) b e x y k) Kf:=by
 unfold jX
 split
 all_goals grind [dF,aX]
theorem adl (b:UnOp) (x:AV) (k:AV->Option β) (g:AV->Prop) (h: ∀a,g a=aK (k a) Kf):jY co b x g=aK (jY (ag β) b x k) Kf:=by
 unfold jY
 grind [aX]
theorem Nt (lo hi:Option AV) (L:Nat) (k:Nat->Nat->Option β) (g:Nat->Nat->Prop) (h: ∀a b,g a b=aK (k a b) Kf):fA co lo hi L g=aK (fA (ag β) lo hi L k) Kf:=by
 unfold fA
 grind [dF,aX]
theorem vT {c:Prop} [Decidable c] (x y:Option β) (a b:Prop) (e:a=aK x Kf) (f:b=aK y Kf):(if c then a else b)=aK (if c then x else y) Kf:=by
 grind
theorem adm (T:TT) (s:St) (t:TypeId) (x:AV) (lo hi:Option AV) (k:AV->Option β) (g:AV->Prop) (h: ∀a,g a=aK (k a) Kf):ff co T s t x lo hi g=aK (ff (ag β) T s t x lo hi k) Kf:=by
 unfold ff
 split
 ·split
  all_goals grind [Nt,aX,dF]
 grind [aX]
theorem adn (T:TT) (s:St) (t:TypeId) (x i:AV) (k:AV->Option β) (g:AV->Prop) (h: ∀a,g a=aK (k a) Kf):fg co T s t x i g=aK (fg (ag β) T s t x i k) Kf:=by
 unfold fg
 split
 ·split
  ·split
   ·grind [dF,aX]
   ·split
    ·split
     all_goals grind [dF,aX]
    grind [aX]
   grind [aX]
  grind [aX]
 grind [aX]
theorem ado (T:TT) (s:St) (t:TypeId) (p:AV) (k:AV->Option β) (g:AV->Prop) (h: ∀a,g a=aK (k a) Kf):eQ co T s t p g=aK (eQ (ag β) T s t p k) Kf:=by
 unfold eQ
 split
 ·grind [aX]
 ·simp only
  split
  all_goals grind [dF,aX]
theorem adp (T:TT) (t:TypeId) (x:AV) (f:Nat) (k:AV->Option β) (g:AV->Prop) (h: ∀a,g a=aK (k a) Kf):jZ co T t x f g=aK (jZ (ag β) T t x f k) Kf:=by
 unfold jZ
 split
 ·split
  all_goals grind [aX]
 grind [aX]
theorem adq (T:TT) (t:TypeId) (x:AV) (f:Nat) (k:AV->Option β) (g:AV->Prop) (h: ∀a,g a=aK (k a) Kf):ka co T t x f g=aK (ka (ag β) T t x f k) Kf:=by
 unfold ka
 split
 ·split
  all_goals grind [aX]
 grind [aX]
theorem adr (T:TT) (s:St) (t:TypeId) (p v:AV) (k:St->Option β) (g:St->Prop) (h: ∀a,g a=aK (k a) Kf):fi co T s t p v g=aK (fi (ag β) T s t p v k) Kf:=by
 unfold fi
 split
 ·grind [aX]
 ·refine vT _ _ _ _ ?_ (vT _ _ _ _ ?_ aX)
  ·grind [aX,dF]
  ·split
   all_goals grind [aX,dF]
theorem hL (s:St) (base:Nat) (r:Row) (k:St->Option β) (g:St->Prop) (h: ∀a,g a=aK (k a) Kf):cP co s base r g=aK (cP (ag β) s base r k) Kf:=by
 grind [cP,aX]
theorem ads (T:TT) (s:St) (t:TypeId) (x y:AV) (k:AV->St->Option β) (g:AV->St->Prop) (h: ∀a b,g a b=aK (k a b) Kf):jl co T s t x y g=aK (jl (ag β) T s t x y k) Kf:=by
 unfold jl
 split
 all_goals grind [aX]
theorem adt (C:Ctx) (base:Nat) (s:St) (t:TypeId) (x y:AV) (k:AV->St->Option β) (g:AV->St->Prop) (h: ∀a b,g a b=aK (k a b) Kf):kd co C base s t x y g=aK (kd (ag β) C base s t x y k) Kf:=by
 unfold kd
 split
 ·split
  ·refine vT _ _ _ _ ?_ aX
   split
   all_goals grind [dF,hL,aX]
  grind [aX]
 grind [aX]
theorem De (C:Ctx) (base:Nat) (s:St) (f:FuncId) (args:List AV) (types:List TypeId) (k:AV->St->Option β) (g:AV->St->Prop) (h: ∀a b,g a b=aK (k a b) Kf):eR co C base s f args types g=aK (eR (ag β) C base s f args types k) Kf:=by
 unfold eR
 split
 all_goals grind [aX,dF,mT]
theorem Df {β:Type} {Kf:β->Prop} (c:Bool) {x:Prop} {y:Option β} (b:x=aK y Kf) (e:False=aK (none:Option β) Kf):cond c x False=aK (cond c y none) Kf:=by
 grind
theorem Nu {β:Type} {Kf:β->Prop} (c:Bool) {x b:Prop} {y e:Option β} (f:x=aK y Kf) (g:b=aK e Kf):cond c x b=aK (cond c y e) Kf:=by
 grind
theorem Dg (k:AV) (hit:Go.Fn->Option β) (e:Option β) (g:Go.Fn->Prop) (m:Prop) (h: ∀f,g f=aK (hit f) Kf) (i:m=aK e Kf): ∀(b:List (Value×Go.Fn)),
  jm co k g m b=aK (jm (ag β) k hit e b) Kf
 |[]=>i
 |(c,f)::b=>by
  unfold jm
  split
  ·exact vT _ _ _ _ (Nu _ (h f) (Dg _ hit e g m h i b)) aX
  ·exact Nu _ (h f) (Dg _ hit e g m h i b)
  ·exact aX
theorem vU (C:Ctx) (base:Nat) (o:Oper) (s:St) (k:St->Option β) (g:St->Prop) (h: ∀a,g a=aK (k a) Kf):bb co C base o s g=aK (bb (ag β) C base o s k) Kf:=by
 unfold bb
 obtain⟨I,m,L,K,G,J⟩:=o
 cases m<;>simp only
 case move x=>grind [dG]
 case assign x=>
  grind [dG,hL,aX]
 case pick c x y=>
  refine dG _ _ _ (fun a=> ?_)
  split
  all_goals grind [dG,aX]
 case alloc e=>
  split
  all_goals grind [hL,aX]
 case box e x=>
  grind [dG,hL,aX]
 case build t r=>
  grind [dG,aX]
 case buildSlice t n r=>
  split
  ·split
   ·split
    all_goals grind [aX,hL]
   grind [aX]
  grind [aX]
 case makeSlice t l c=>
  grind [dF,hL,aX]
 case load t p=>grind [dG,ado]
 case store t p v=>grind [dG,adr]
 case nilCheck x=>
  grind [dG,aX]
 case binOp q t x y M=>grind [dG,adk]
 case unOp q t x=>grind [dG,adl]
 case convert st D x=>
  refine dG _ _ _ (fun a=> ?_)
  grind [aX]
 case lookup t x E ok=>
  refine dG _ _ _ (fun a=>dG _ _ _ (fun b=> ?_))
  grind [Dg,aX]
 case makeFunc fn first w=>
  grind [aX]
 case slice t x lo hi F=>
  grind [aX,adm]
 case fieldAddr t x f=>grind [dG,adp]
 case field t x f=>grind [dG,adq]
 case indexAddr t x i=>grind [dG,adn]
 case index t x i=>
  grind [dF,aX,dG]
 case extract x i=>
  grind [dG,aX]
 case call c=>
  obtain⟨j,z,A⟩:=c
  cases j<;>(try exact aX)
  case value f=>
   grind [dG,De,aX]
  case builtin b=>
   cases b<;>(try exact aX)
   case len=>
    simp only
    split
    all_goals grind [dG,aX]
   case append=>
    simp only
    split
    all_goals grind [dG,adt,aX]
   case copy=>
    simp only
    split
    all_goals grind [dG,ads,aX]
   all_goals grind [Max.max,dG,aX,Min.min]
 all_goals exact aX
end
theorem adu {C:Ctx} {base:Nat} {o:Oper} {s:St} {K:St->Prop} (h:bb co C base o s K):aK (bb (ag St) C base o s some) K:=by
 grind [vU,ij]
theorem adv {β:Type} {Kf:β->Prop} (C:Ctx) (base:Nat) (o:Oper) (s:St) (k:St->Option β) (g:St->Prop) (h: ∀a,g a=aK (k a) Kf):oL co C base o s g=aK (oL (ag β) C base o s k) Kf:=by
 have b:=vU C base o s k g h
 unfold oL
 cases C.deep with
 |false=>exact b
 |true=>
  simp only[au]
  obtain⟨m,f,w,r,j,q⟩:=o
  cases f<;>simp only
  case load t p=>
   grind [dF,aX]
  case store t p v=>
   split
   ·split
    ·unfold B8
     split
     ·split
      ·refine Df _ (dF _ _ _ (fun _=> ?_)) aX
       unfold lv
       grind [dF]
      ·exact aX
     ·exact aX
    ·exact b
   ·split
    ·unfold B9
     split
     ·split
      ·refine Df _ (dF _ _ _ (fun _=> ?_)) aX
       unfold lv
       grind [dF]
      ·exact aX
     ·exact aX
    ·exact b
   ·exact b
  case slice t x lo hi e=>
   cases e with
   |some z=>exact b
   |none=>
    simp only
    split
    ·split
     ·refine Df _ (Nt _ _ _ _ _ (fun _ _=> ?_)) aX
      unfold u6
      grind [dF,aX]
     ·exact b
    ·exact b
  case assign x=>
   grind [hL]
  case makeSlice t l c=>
   grind [dF,hL,aX]
  case buildSlice t n y=>
   split
   all_goals grind [hL,aX]
  case indexAddr t x i=>
   grind [dF,aX]
  case call c=>
   split
   ·grind
   ·split
    ·split
     ·unfold B7
      split
      ·grind [aX,dF]
      ·exact aX
     ·exact b
    ·exact b
   ·exact b
  all_goals exact b
theorem adw {β:Type} {Kf:β->Prop} (base:Nat) (o:Oper) (s:St) (q:vb) (k:St->Option β) (g:St->Prop) (h: ∀a,g a=aK (k a) Kf):vc co base o s g q=aK (vc (ag β) base o s k q) Kf:=by
 cases q with
 |val b a=>exact dF _ _ _ (fun _=>h _)
 |Cb u n=>exact dF _ _ _ (fun _=>hL _ _ _ _ _ (fun _=>h _))
 |arr u n=>exact hL s base (.seq u (replicate n u.zero)) _ _ (fun _=>h _)
theorem adx {β:Type} {Kf:β->Prop} (C:Ctx) (base:Nat) (o:Oper) (s:St) (k:St->Option β) (g:St->Prop) (h: ∀a,g a=aK (k a) Kf):oN co C base o s g=aK (oN (ag β) C base o s k) Kf:=by
 unfold oN
 split
 all_goals grind [De,aX,va,dF,adw,adv]
theorem Nv {β:Type} {Kf:β->Prop} (C:Ctx) (base:Nat) (o:Oper) (s:St) (k:St->Option β) (g:St->Prop) (h: ∀a,g a=aK (k a) Kf):fC co C base o s g=aK (fC (ag β) C base o s k) Kf:=by
 unfold fC
 cases jn C o s with
 |true=>grind [adx]
 |false=>
 simp only[aq]
 split
 ·split
  all_goals grind [Cf,De,aX]
 ·exact aX
theorem ady {C:Ctx} {base:Nat} {o:Oper} {s:St} {K:St->Prop} (h:fC co C base o s K):aK (fC (ag St) C base o s some) K:=by
 grind [Nv,ij]
theorem adz {β:Type} {Kf:β->Prop} (C:Ctx) (calm:List Nat) (i base:Nat) (o:Oper) (s:St) (k:St->Option β) (g:St->Prop) (h: ∀a,g a=aK (k a) Kf):ct co C calm i base o s g=aK (ct (ag β) C calm i base o s k) Kf:=by
 grind [ct,cq,Nv,vU,hL]
theorem adA {C:Ctx} {calm:List Nat} {i base:Nat} {o:Oper} {s:St} {K:St->Prop} (h:ct co C calm i base o s K):aK (ct (ag St) C calm i base o s some) K:=by
 grind [adz,ij]
theorem vV {l:List AV} {t:Nat} {x:AV} (h:l[t]? =some x):l.set t x=l:=by
 obtain⟨b,rfl⟩:=aO.1 h
 simp
theorem rj (C:Ctx) (ops:List Oper) (b:List hf) (B0:Nat) (K:St->Prop): ∀(r:List Oper) (i:Nat) (s:St),hH C ops b B0 i r s K->aK (ir C ops b B0 i r s) K
 |[],_,_,h=>show aK (some _) K from .mk h
 |o::r,i,v,h=>by
  have step: ∀s:St,fC co C (B0+i*width) o s (fun s'=>hH C ops b B0 (i+1) r s' K)->aK ((fC (ag St) C (B0+i*width) o s some).bind (ir C ops b B0 (i+1) r)) K:=fun s h=>by
   rw[oG]
   exact mU (fun s' h'=>rj C ops b B0 K r (i+1) s' h') (ady h)
  unfold hH at h
  unfold ir
  simp only at h⊢
  generalize dz C.k i b v=s at h⊢
  cases n:o.guard with
  |none=>
   simp_all
  |some q=>
   obtain⟨j,m⟩:=q
   simp only[n] at h⊢
   cases p:(ops[j]?).bind (·.dst) with
   |none=>simp_all
   |some t=>
    simp only[p] at h⊢
    split at h
    ·rename_i g f
     cases g with
     |true=>
      have e:({s with env:=s.env.set t (.aa .bool true)}:St)=s:=by rw[vV f]
      rw[e] at h
      cases m with
      |true=>simp_all
      |false=>simp only[au,aq] at h;rw[aG (by simp)];exact rj C ops b B0 K r (i+1) _ h
     |false=>
      have e:({s with env:=s.env.set t (.aa .bool false)}:St)=s:=by rw[vV f]
      rw[e] at h
      cases m with
      |true=>simp only[au,aq] at h;rw[aG (by simp)];exact rj C ops b B0 K r (i+1) _ h
      |false=>simp_all
    ·exact rj C ops b B0 K r (i+1) _ h
    ·cases h
end Go.Rv
namespace Go.Rv
theorem adB {C:Ctx} {base:Nat} {o:Oper} {s:St} {k:St->Option St} {r:St} (h:bb (ag St) C base o s k=some r): ∃e,bb (ag St) C base o s some=some e/\k e=some r:=by
 have b:aK (bb (ag St) C base o s k) (fun x=>x=r):=by rw[h];exact .mk rfl
 rw[<-vU C base o s k (fun a=>aK (k a) (fun x=>x=r)) (fun _=>rfl)] at b
 have f:=adu b
 grind [B3]
theorem pg (C:Ctx) (ops:List Oper) (calm:List Nat) (B0:Nat) (K:St->Prop): ∀(r:List Nat) (s:St),jp C ops calm B0 r s K->aK (ly C ops calm B0 r s) K
 |[],_,h=>show aK (some _) K from .mk h
 |i::r,s,h=>by
  unfold jp at h
  unfold ly
  rw[oG]
  unfold bQ
  cases p:ops[i]? with
  |none=>simp_all
  |some o=>
   simp only[p] at h⊢
   have step: ∀s:St,cond (bz C calm i o s) (ct co C calm i (cr calm B0 i o s) o s fun s'=>jp C ops calm B0 r s' K) False->
     aK (if bz C calm i o s=true then ct (ag St) C calm i (cr calm B0 i o s) o s some else none) (fun s'=>aK (ly C ops calm B0 r s') K):=fun s h=>by
    cases m:bz C calm i o s with
    |false=>simp_all
    |true=>
     rw[m] at h
     simp only[cU]
     exact mU (fun s' h'=>pg C ops calm B0 K r s' h') (adA h)
   cases n:o.guard with
   |none=>
    simp_all
   |some v=>
    obtain⟨j,f⟩:=v
    simp only[n] at h⊢
    cases q:(ops[j]?).bind (·.dst) with
    |none=>simp_all
    |some t=>
     simp only[q] at h⊢
     split at h
     ·rename_i g b
      cases g with
      |true=>
       have e:({s with env:=s.env.set t (.aa .bool true)}:St)=s:=by rw[vV b]
       rw[e] at h
       cases f with
       |true=>simp_all
       |false=>simp only[au,aq] at h;rw[aG (by simp)];exact .mk (pg C ops calm B0 K r _ h)
      |false=>
       have e:({s with env:=s.env.set t (.aa .bool false)}:St)=s:=by rw[vV b]
       rw[e] at h
       cases f with
       |true=>simp only[au,aq] at h;rw[aG (by simp)];exact .mk (pg C ops calm B0 K r _ h)
       |false=>simp_all
     ·first|exact pg C ops calm B0 K r _ h|exact .mk (pg C ops calm B0 K r _ h)
     ·cases h
section
variable {C : Ctx} {ops : Array Oper} {calm : List Nat} {B0 : Nat}
theorem gM {o:Oper} {d:Tmp} (h:d∉o.looksAt ops):Operand.tmp d∉o.op.operands.toList:=fun b=>h (by
 grind [looksAt])
theorem Nw {o:Oper} {d t:Tmp} {j:Nat} {w:Bool} (h:d∉o.looksAt ops) (b:o.guard=some (j,w)) (f:(ops.toList[j]?).bind (·.dst)=some t):d≠t:=fun e=>h (by
 grind [looksAt,Bind.bind,dst])
theorem Dh {o:Oper} {s:St} {d:Option Tmp} {a:AV} (b: ∀t,d=some t->Operand.tmp t∉o.op.operands.toList):dq C o (s.put d a)=dq C o s:=by
 have h: ∀x∈o.op.operands.toList,az (s.put d a) x=az s x:=fun x g=>hg (fun t f e=>b t f (e▸g))
 unfold dq
 split
 all_goals grind [az,St.put,operands,Call.operands,cO,iD,vS]
theorem Nx {o:Oper} {s:St} {d:Option Tmp} {a:AV} (h: ∀t,d=some t->Operand.tmp t∉o.op.operands.toList):eS C o (s.put d a)=eS C o s:=by
 obtain⟨w,j,A,z,v,y⟩:=o
 unfold eS
 cases j<;>try rfl
 rename_i c
 obtain⟨i,g,m⟩:=c
 cases i<;>try rfl
 rename_i f
 have q: ∀x∈Operand.tmp 0::[],True:=fun _ _=>trivial
 have n:az (s.put d a) f=az s f:=hg (fun t b e=>h t b (e▸by simp[operands,Call.operands]))
 have p:cO (s.put d a) g.toList=cO s g.toList:=iD (fun x r=>hg (fun t b e=>h t b (e▸by grind [operands,Call.operands])))
 simp_all [mW,vS,da]
theorem Di {o:Oper} {s:St} (h:dq C o s=[]):eS C o s=true:=by
 unfold eS
 unfold dq at h
 split
 ·rename_i c b
  rw[b] at h
  simp only at h
  split
  all_goals grind [mW]
 ·rfl
theorem Ny {o:Oper} {s:St} {d:Option Tmp} {a:AV} (b: ∀t,d=some t->Operand.tmp t∉o.op.operands.toList):iu o (s.put d a)=iu o s:=by
 have h: ∀x∈o.op.operands.toList,az (s.put d a) x=az s x:=fun x g=>hg (fun t f e=>b t f (e▸g))
 grind [iu,az,St.put,operands,Call.operands]
theorem Nz {o:Oper} {s t:St} (h: ∀x∈o.op.operands.toList,az t x=az s x):iv o t=iv o s:=by
 grind [iv,List.mem_cons_self,List.mem_cons_of_mem]
theorem NA {o:Oper} {s:St} {d:Option Tmp} {a:AV} (b: ∀t,d=some t->Operand.tmp t∉o.op.operands.toList):iv o (s.put d a)=iv o s:=
 Nz fun x g=>hg (fun t f e=>b t f (e▸g))
theorem adC {i:Nat} {o:Oper} {s:St} {d:Option Tmp} {a:AV}:cr calm B0 i o (s.put d a)=cr calm B0 i o s:=by
 unfold cr
 rw[da]
theorem Dj {j:Nat} {b:Oper} {s:St} (g:dQ b.op=true->calm.contains j=true) (f:bz C calm j b s=true):dQ b.op=true->iu b s=true:=fun e=>by
 grind [bz,Bool.not_true]
theorem adD {o:Oper} {s:St} {d:Option Tmp} {a:AV} (b: ∀t,d=some t->Operand.tmp t∉o.op.operands.toList):it C o (s.put d a)=it C o s:=by
 grind [it,Dh,da]
theorem NB {o:Oper} {s:St} {d:Option Tmp} {a:AV} (b: ∀t,d=some t->Operand.tmp t∉o.op.operands.toList):fk C calm o (s.put d a)=fk C calm o s:=by
 unfold fk
 split
 all_goals grind [hg,operands,adD]
theorem Dk {i:Nat} {o:Oper} {s t:St} (h: ∀x∈o.op.operands.toList,az t x=az s x):kg calm i o t=kg calm i o s:=by
 grind [kg,List.mem_cons_self,List.mem_cons_of_mem]
theorem rk {o:Oper} {s:St} (b: ∀t x v,o.op≠ .store t x v) (f: ∀c,o.op= .call c->ve c.callee=false) (e:dq C o s=[]):fk C calm o s=true:=by
 grind [fk,absurd,it,dy,reach]
theorem rl {i:Nat} {o:Oper} {s:St} (h:eE o.op=false):kg calm i o s=true:=by
 grind [kg]
def rm (calm:List Nat) (s t:St):Prop:= ∀g∈oO calm,∀r,s.heap[g]? =some (some r)->t.heap[g]? =some (some r)
theorem Dl {H:Heap} {base:Nat}: ∀{n:Nat},(∀j,j<n->H[base+j]? =some none)->lr H base n=true
 |0,_=>rfl
 |n+1,h=>by
  simp only[lr,aT]
  exact⟨by simp_all,Dl (fun j b=>h j (by omega))⟩
theorem NC {T:TT} {s t:St} (h:RowsIn s t) {io:Bool} {ty:TypeId} {x a:AV} (b:il s T io ty x=some a):il t T io ty x=some a:=by
 unfold il at*
 grind [RowsIn.row]
theorem ND {s t:St} (h:RowsIn s t): ∀(cs l:List AV),im s cs=some l->im t cs=some l
 |[],_,b=>b
 |x::r,l,b=>by
  simp only[im] at b⊢
  split at b
  ·rename_i a i f g
   have e:ln t x=some a:=by
    unfold ln at f⊢
    grind [NC]
   rw[e,ND h r i g]
   exact b
  ·cases b
theorem adE {T:TT} {s t:St} (h:RowsIn s t) {io:Bool} {ty:TypeId} {x a:AV} (b:jj s T io ty x=some a):jj t T io ty x=some a:=by
 unfold jj at b⊢
 grind [Option.map_eq_some_iff,ND,NC]
theorem NE {s t:St} (h:RowsIn s t): ∀(cs l:List AV),ip s cs=some l->ip t cs=some l
 |[],_,b=>b
 |x::r,l,b=>by
  simp only[ip] at b⊢
  split at b
  ·rename_i a i f g
   have e:lp t x=some a:=by
    unfold lp at f⊢
    grind [RowsIn.row]
   rw[e,NE h r i g]
   exact b
  ·cases b
theorem Dm {T:TT} {s t:St} (h:RowsIn s t) {io:Nat->Bool}: ∀(xs:List AV) (n:Nat) (f:List TypeId) (l:List AV),eD s T io n f xs=some l->eD t T io n f xs=some l
 |[],_,_,_,b=>by
  grind [eD]
 |x::r,n,[],_,b=>by simp[eD] at b
 |x::r,n,ty::f,l,b=>by
  simp only[eD] at b⊢
  split at b
  ·rename_i a m g j
   have e:cond (io (n+u5)) (lq t x) (jj t T (io n) ty x)=some a:=by
    cases i:io (n+u5) with
    |true=>
     rw[i] at g
     simp only[au] at g⊢
     unfold lq at g⊢
     grind [NE,RowsIn.row]
    |false=>grind [adE]
   rw[e,Dm h r (n+1) f m j]
   exact b
  ·cases b
theorem adF {o:Oper} (m:oP o.op=true) {base:Nat} {s p:St} (hid:dq C o s=[]) (h:bb (ag St) C base o s some=some p):
  ∃(a:AV) (e:Heap),e.length<=width/\(∀n,n<width->s.heap[base+n]? =some none)/\p=(⟨s.env,fh (fB [] base) 0 e s.heap⟩:St).put o.dst a/\
   ∀t:St,(∀x∈o.op.operands.toList,az t x=az s x)->RowsIn s t->(∀n,n<width->t.heap[base+n]? =some none)->
    dq C o t=[]/\bb (ag St) C base o t some=some ((⟨t.env,fh (fB [] base) 0 e t.heap⟩:St).put o.dst a):=by
 obtain⟨a0,G,a3,a2,Z,a1⟩:=o
 cases G<;>(try cases m)
 rename_i c
 obtain⟨q,r,I⟩:=c
 cases q<;>(try cases m)
 rename_i f
 simp only[bb] at h⊢
 obtain⟨J,O,h⟩:=aJ h
 split at h
 ·rename_i g first j
  split at h
  ·rename_i args K
   unfold eR at h
   split at h
   ·cases h
   ·rename_i avs z
    have U:cp avs=[]:=by
     grind [dq]
    have V: ∀t:St,reach t.heap (t.heap.length+1) 0 (dy [] (cp avs))=[]:=fun t=>by
     grind [dy,reach]
    simp only at h
    generalize Q:reach s.heap (s.heap.length+1) 0 (dy [] (cp avs))=ids at h
    have i:ids=[]:=by simp_all
    subst i
    split at h
    ·rename_i b
     simp only[aT] at b
     obtain⟨x,Y,h⟩:=cA h
     rw[mT] at h
     split at h
     ·rename_i L
      cases h
      have F:((C.en g (df (place []) avs) (bL s.heap [])).dec x).2.length<=width:=by
       simp_all
      refine⟨_,_,F,fun n D=>q5 b.2 D,rfl,fun t X E A=> ?_⟩
      have v:az t f=some (.fn g first j):=by
       grind [operands,Call.operands]
      have w:cO t r.toList=some args:=by
       grind [iD,operands,Call.operands]
      have y:=Dm E _ _ _ _ z
      refine⟨?_,?_⟩
      ·grind [dq]
      ·rw[v]
       simp only[lift,w]
       unfold eR
       rw[y]
       simp only
       generalize R:reach t.heap (t.heap.length+1) 0 (dy [] (cp avs))=ids
       have i:ids=[]:=by simp_all
       subst i
       have M:(mV []&&jk t.heap [] []&&(cp avs).all (fun g=>([]:List Nat).contains g)&&(gK (first++args++j) avs).all (fun h=> !([]:List Nat).contains h)&&lr t.heap base width)=true:=by
        rw[Dl A]
        simp only[aT]
        exact⟨⟨⟨⟨rfl,rfl⟩,b.1.1.2⟩,b.1.2⟩,trivial⟩
       grind [bL,ag,mT,Trans.trans]
     ·cases h
    ·cases h
  ·cases h
 ·cases h
theorem vW {x:Nat}: ∀{l acc:List Nat},x∈acc->x∈dy acc l
 |[],acc,h=>h
 |y::l,acc,h=>by
  unfold dy
  split
  ·exact vW h
  ·exact vW (Cx _ h)
theorem Dn {H:Heap} {x:Nat}: ∀{n i:Nat} {acc:List Nat},x∈acc->x∈reach H n i acc
 |0,i,acc,h=>h
 |n+1,i,acc,h=>by
  unfold reach
  split
  ·exact h
  ·split
   ·exact Dn (vW h)
   ·exact Dn h
theorem NF {H f:Heap} (R: ∀(h:Nat) (r:Row),H[h]? =some (some r)->f[h]? =some (some r)): ∀(n i:Nat) (acc:List Nat),(∀h∈reach H n i acc,∃r,H[h]? =some (some r))->reach f n i acc=reach H n i acc
 |0,i,acc,_=>rfl
 |n+1,i,acc,b=>by
  unfold reach at b⊢
  cases hi:acc[i]? with
  |none=>rfl
  |some g=>
   simp only[hi] at b⊢
   have j: ∃r,H[g]? =some (some r):=by
    refine b g ?_
    grind [List.mem_of_getElem?,Dn,vW]
   obtain⟨r,e⟩:=j
   simp only[e] at b
   simp only[e,R g r e]
   exact NF R n (i+1) _ b
theorem NG {H b:Heap} (R: ∀(h:Nat) (r:Row),H[h]? =some (some r)->b[h]? =some (some r)) {ids:List Nat}: ∀{l:List Nat},jk H ids l=true->jk b ids l=true
 |[],_=>rfl
 |h::l,e=>by
  simp only[jk,aT] at e⊢
  refine⟨?_,NG R e.2⟩
  grind
theorem adG {H b:Heap} (R: ∀(h:Nat) (r:Row),H[h]? =some (some r)->b[h]? =some (some r)) {ids:List Nat} (e: ∀g∈ids,∃r,H[g]? =some (some r)):bL b ids=bL H ids:=by
 grind [bL,List.map_congr_left]
theorem NH (f:Nat->Nat) {g:Nat}: ∀(b:Heap) (n:Nat) (H:Heap),(∃r,H[g]? =some (some r))-> ∃r,(fh f n b H)[g]? =some (some r)
 |[],n,H,h=>h
 |r::e,n,H,h=>by
  unfold fh
  refine NH f e (n+1) _ ?_
  grind
theorem NI {o:Oper} (w:oP o.op=true) {base:Nat} {s I:St} (b:eS C o s=true) (h:bb (ag St) C base o s some=some I):
  ∃(a:AV) (i:Heap) (ids:List Nat),it C o s=ids/\(∀g∈ids,∃r,s.heap[g]? =some (some r))/\i.length<=ids.length+width/\(∀n,n<width->s.heap[base+n]? =some none)/\I=(⟨s.env,fh (fB ids base) 0 i s.heap⟩:St).put o.dst a/\
   ∀t:St,(∀x∈o.op.operands.toList,az t x=az s x)->RowsIn s t->t.heap.length=s.heap.length->(∀n,n<width->t.heap[base+n]? =some none)->
    eS C o t=true/\it C o t=ids/\bb (ag St) C base o t some=some ((⟨t.env,fh (fB ids base) 0 i t.heap⟩:St).put o.dst a):=by
 obtain⟨D,a3,G,F,A,E⟩:=o
 cases a3<;>(try cases w)
 rename_i c
 obtain⟨J,j,q⟩:=c
 cases J<;>(try cases w)
 rename_i f
 simp only[bb] at h⊢
 obtain⟨a4,X,h⟩:=aJ h
 split at h
 ·rename_i g first p
  split at h
  ·rename_i args U
   simp only[eS,X,U] at b
   unfold eR at h
   unfold mW at b
   split at h
   ·cases h
   ·rename_i avs v
    rw[v] at b
    simp only at h b
    generalize Z:reach s.heap (s.heap.length+1) 0 (dy [] (cp avs))=ids at h b
    split at h
    ·rename_i m
     simp only[aT] at m
     obtain⟨x,a9,h⟩:=cA h
     rw[mT] at h
     split at h
     ·rename_i a5
      cases h
      have z: ∀g∈ids,∃r,s.heap[g]? =some (some r):=fun g a7=>by
       grind [lC]
      have a2:((C.en g (df (place ids) avs) (bL s.heap ids)).dec x).2.length<=ids.length+width:=by
       simp_all
      have V:it C ⟨D,.call ⟨.value f,j,q⟩,G,F,A,E⟩ s=ids:=by
       grind [it,dq]
      refine⟨_,_,ids,V,z,a2,fun n a1=>q5 m.2 a1,rfl,fun t a8 e a0 Y=> ?_⟩
      have K:az t f=some (.fn g first p):=by
       grind [operands,Call.operands]
      have L:cO t j.toList=some args:=by
       grind [iD,operands,Call.operands]
      have M:=Dm e _ _ _ _ v
      have O:reach t.heap (t.heap.length+1) 0 (dy [] (cp avs))=ids:=by
       rw[a0,<-Z]
       exact NF e _ _ _ (by simp_all)
      have Q:bL t.heap ids=bL s.heap ids:=adG e z
      have R:it C ⟨D,.call ⟨.value f,j,q⟩,G,F,A,E⟩ t=ids:=by
       grind [it,dq]
      refine⟨?_,R,?_⟩
      ·grind [eS,mW]
      ·rw[K]
       simp only[lift,L]
       unfold eR
       rw[M]
       simp only
       generalize y:reach t.heap (t.heap.length+1) 0 (dy [] (cp avs))=b0
       rw[O] at y
       subst y
       rw[Q]
       have a6:(mV ids&&jk t.heap ids ids&&(cp avs).all (fun g=>ids.contains g)&&(gK (first++args++p) avs).all (fun h=> !ids.contains h)&&lr t.heap base width)=true:=by
        rw[Dl Y,NG e m.1.1.1.2]
        simp_all
       grind [ag,mT,Trans.trans]
     ·cases h
    ·cases h
  ·cases h
 ·cases h
theorem adH {T:TT} {s:St} {t:TypeId} {p v:AV} {K:St->Option St} {b:St} (h:fi (ag St) T s t p v K=some b): ∃g r,g∈p.ids/\K (s.setRow g r)=some b:=by
 unfold fi at h
 split at h
 ·cases h
 ·split at h
  ·split at h
   ·split at h
    ·split at h
     ·grind [AV.ids]
     ·cases h
    ·split at h
     ·obtain⟨_,_,h⟩:=cA h
      grind [AV.ids]
     ·cases h
    ·cases h
   ·cases h
  ·split at h
   ·split at h
    ·split at h
     ·split at h
      ·split at h
       ·grind [AV.ids]
       ·cases h
      ·cases h
     ·split at h
      ·split at h
       ·obtain⟨_,_,h⟩:=cA h
        grind [AV.ids]
       ·cases h
      ·cases h
     ·cases h
    ·split at h
     ·split at h
      ·grind [AV.ids]
      ·cases h
     ·cases h
    ·cases h
   ·cases h
theorem NJ {o:Oper} {s t:St} (h: ∀x∈o.op.operands.toList,az t x=az s x):hI C o t=hI C o s:=by
 grind [hI,Array.ext',operands,az]
theorem adI {o:Oper} {s:St} (h:ep o.op=false):hI C o s=none:=by
 obtain⟨f,b,j,i,e,g⟩:=o
 cases b<;>first|rfl|cases h
theorem kw {β:Type} {i base:Nat} {o:Oper} {s:St} {k:St->Option β} (e:calm.contains (i+cq)=false) (b:ep o.op=false):ct (ag β) C calm i base o s k=bb (ag β) C base o s k:=by
 grind [ct,adI]
theorem rn {β:Type} {i base:Nat} {o:Oper} {s:St} {k:St->Option β} (b:calm.contains (i+cq)=false):
  ct (ag β) C calm i base o s k=match(cond C.deep (hI C o s) none) with
   |some g=>cP (ag β) s base (.box [.ab g]) fun s'=>k (s'.put o.dst (.ab base))
   |none=>bb (ag β) C base o s k:=by
 grind [ct]
theorem adJ {β:Type} {j base:Nat} {o:Oper} {s:St} {d:Option Tmp} {a:AV} (k:St->Option β) (g:calm.contains (j+cq)=false) (f:dQ o.op=true->iu o s=true) (b: ∀t,d=some t->Operand.tmp t∉o.op.operands.toList) (e: ∀t,d=some t->o.dst≠some t):
  ct (ag β) C calm j base o (s.put d a) k=ct (ag β) C calm j base o s (fun s'=>k (s'.put d a)):=by
 grind [rn,NJ,St.put,hg,hI,adi,lH,put_comm]
theorem adK {j base:Nat} {o:Oper} {s:St} {k:St->Option St} {r:St} (e:calm.contains (j+cq)=false) (h:ct (ag St) C calm j base o s k=some r): ∃b,ct (ag St) C calm j base o s some=some b/\k b=some r:=by
 grind [rn,hI,adB,dR,cP]
theorem adL {i j:Nat} {m f:Oper} {a:AV} {s p:St} (F:ops[j]? =some f) (r:m.apart ops f=true) (G:dQ f.op=true->calm.contains j=true) (J:calm.contains (j+cq)=false) (h:bQ C ops.toList calm B0 j (s.put m.dst a)=some p):
  ∃q,bQ C ops.toList calm B0 j s=some q/\p=q.put m.dst a:=by
 obtain⟨n,y,z⟩:=CX r
 have v:ops.toList[j]? =some f:=by grind
 have A:bz C calm j f (s.put m.dst a)=bz C calm j f s:=by
  unfold bz
  rw[Dh (fun t b=>gM (n t b)),Ny (fun t b=>gM (n t b)),NA (fun t b=>gM (n t b)),Nx (fun t b=>gM (n t b)),NB (fun t b=>gM (n t b)),Dk (s:=s) (t:=s.put m.dst a) (fun x w=>hg (fun t b e=>gM (n t b) (e▸w)))]
 have I: ∀{p},(if bz C calm j f (s.put m.dst a)=true then ct (ag St) C calm j (cr calm B0 j f (s.put m.dst a)) f (s.put m.dst a) some else none)=some p->
   ∃q,(if bz C calm j f s=true then ct (ag St) C calm j (cr calm B0 j f s) f s some else none)=some q/\p=q.put m.dst a:=fun {p} h=>by
  grind [adC,adJ,Dj,gM,adK]
 unfold bQ at h⊢
 simp only[v] at h⊢
 split at h
 ·simp_all
 ·rename_i g K E
  split at h
  ·cases h
  ·rename_i t b
   have D:(s.put m.dst a).env[t]? =s.env[t]? :=by
    cases hd:m.dst<;>grind [Nw,St.put,List.getElem?_set_ne]
   grind [put_comm]
theorem NK {j base:Nat} {o:Oper} {s b:St} (m:calm.contains (j+cq)=false) (n:dQ o.op=true->iu o s=true) (h:ct (ag St) C calm j base o s some=some b):
  ∃(v:AV) (H:Heap),b=(⟨s.env,H⟩:St).put o.dst v/\ ∀(calm:List Nat) (i:Nat),fj calm i o.op=true->bz C calm i o s=true->js s.heap H:=by
 rw[rn m] at h
 cases e:cond C.deep (hI C o s) none with
 |none=>
  grind [adj]
 |some g=>
  rw[e] at h
  obtain⟨f,h⟩:=dR h
  cases h
  exact⟨_,_,rfl,fun _ _ _ _=>ri f⟩
theorem adM {j base:Nat} {o:Oper} {s p:St} (n:calm.contains (j+cq)=false) (D:dQ o.op=true->calm.contains j=true) (m:bz C calm j o s=true) (h:ct (ag St) C calm j base o s some=some p):rm calm s p:=fun g R r E=>by
 obtain⟨v,H,rfl,A⟩:=NK n (Dj D m) h
 rw[da]
 cases i:fj calm j o.op with
 |true=>exact A calm j i m g r E
 |false=>
  have V:fk C calm o s=true:=by
   grind [bz]
  have F:eS C o s=true:=by
   grind [bz]
  have Y:oO calm≠ []:=fun e=>by simp_all
  have y:ep o.op=false:=by
   cases z:ep o.op with
   |false=>rfl
   |true=>
    unfold ep at z
    grind [fj]
  rw[kw n y] at h
  obtain⟨a4,I,a7,a6,a3,a5⟩:=o
  cases I<;>(try (simp[fj] at i;done))
  case store t x a9=>
   simp only[bb] at h
   obtain⟨a8,a0,h⟩:=aJ h
   obtain⟨v1,a1,h⟩:=aJ h
   grind [adH,St.setRow,Option.some.inj,da,fk,List.all_eq_true,oO,List.getElem?_set_ne]
  case call c=>
   have G:oP (.call c)=true:=by
    obtain⟨w,J,K⟩:=c
    cases w with
    |value f=>rfl
    |builtin b=>
     grind [fj,dQ,fk,ve]
    |_=>simp[fj] at i
   obtain⟨a,q,ids,M,U,a2,Q,O,_⟩:=NI G F h
   have L:H=fh (fB ids base) 0 q s.heap:=by
    grind [da]
   have Z:g∉ids:=fun X=>by
    grind [fk,List.all_eq_true,oO]
   grind [ni,List.getElem?_eq_some_iff,fB,List.mem_of_getElem?,List.getElem?_eq_none_iff]
theorem adN {j:Nat} {b:Oper} {s f:St} (D:ops[j]? =some b) (p:dQ b.op=true->calm.contains j=true) (w:calm.contains (j+cq)=false) (h:bQ C ops.toList calm B0 j s=some f):
  (∀t,b.dst≠some t->f.env[t]? =s.env[t]?)/\(fj calm j b.op=true->RowsIn s f)/\rm calm s f:=by
 have x:ops.toList[j]? =some b:=by grind
 have n: ∀(v:AV) (H:Heap) (t:Tmp),b.dst≠some t->((⟨s.env,H⟩:St).put b.dst v).env[t]? =s.env[t]? :=fun v H t i=>by
  cases hd:b.dst<;>grind [St.put,List.getElem?_set_ne]
 have q:(if bz C calm j b s=true then ct (ag St) C calm j (cr calm B0 j b s) b s some else none)=some f->
   (∀t,b.dst≠some t->f.env[t]? =s.env[t]?)/\(fj calm j b.op=true->RowsIn s f)/\rm calm s f:=fun h=>by
  split at h
  ·rename_i m
   have z:=adM w p m h
   obtain⟨v,H,rfl,A⟩:=NK w (Dj p m) h
   refine⟨fun t i=>n v H t i,fun y g r e=> ?_,z⟩
   rw[da]
   exact A calm j y m g r e
  ·cases h
 unfold bQ at h
 simp only[x] at h
 split at h
 ·exact q h
 ·split at h
  ·cases h
  ·split at h
   ·split at h
    ·exact q h
    ·cases h
     exact⟨fun t i=>n _ _ t i,fun _ g r e=>by rw[da];exact e,fun g _ r e=>by rw[da];exact e⟩
   ·cases h
    exact⟨fun t i=>n _ _ t i,fun _ g r e=>by rw[da];exact e,fun g _ r e=>by rw[da];exact e⟩
   ·cases h
theorem adO {o:Oper} {s b:St} (e:ep o.op=true) (h:bb (ag St) C s.heap.length o s some=some b):
  ∃a,b=s.put o.dst a/\ ∀t:St,(∀x∈o.op.operands.toList,az t x=az s x)->bb (ag St) C t.heap.length o t some=some (t.put o.dst a):=by
 obtain⟨v,g,z,y,r,w⟩:=o
 cases g<;>(try cases e)
 rename_i ty n A
 have f: ∀t:St,t.heap[t.heap.length]? =none:=fun t=>by simp
 simp only[bb,f] at h⊢
 split at h
 ·rename_i q l i j
  split at h
  ·rename_i u m
   split at h
   ·rename_i xs p
    split at h
    ·grind [gx,rh,operands]
    ·cases h
   ·cases h
  ·cases h
 ·cases h
def oneValue (calm:List Nat) (i:Nat) (o:Op):Bool:=eE o||(ep o&&calm.contains i)
theorem adP {i:Nat} {o:Oper} {s e:St} (n:calm.contains (i+cq)=false) (b:oneValue calm i o.op=true) (h:ct (ag St) C calm i (cr calm B0 i o s) o s some=some e):
  ∃a,e=s.put o.dst a/\ ∀t:St,(∀x∈o.op.operands.toList,az t x=az s x)->(is o.op=true\/iv o s=true\/vQ o s t)->ct (ag St) C calm i (cr calm B0 i o t) o t some=some (t.put o.dst a):=by
 simp only[oneValue,eA,aT] at b
 have v:eE o.op=true->ep o.op=false:=fun b=>by
  obtain⟨y,p,D,A,w,z⟩:=o
  cases p<;>first|rfl|cases b
 rcases b with b|⟨q,r⟩
 ·grind [kw,ac8]
 ·have f: ∀t:St,cr calm B0 i o t=t.heap.length:=fun t=>by
   grind [cr,ep,absurd]
  rw[f,rn n] at h
  cases j:cond C.deep (hI C o s) none with
  |some g=>
   rw[j] at h
   obtain⟨m,_⟩:=dR h
   simp at m
  |none=>
   grind [adO,rn,NJ]
theorem adQ {i:Nat} {f:Oper} {s y:St} (hi:ops[i]? =some f) (L:calm.contains (i+cq)=false) (j:oneValue calm i f.op=true) (h:bQ C ops.toList calm B0 i s=some y):
  ∃a,y=s.put f.dst a/\ ∀t:St,(∀x∈f.looksAt ops,t.env[x]? =s.env[x]?)->(is f.op=true\/calm.contains i=true\/(calm.contains (i+mZ)=true/\rm calm s t)\/RowsIn s t)->bQ C ops.toList calm B0 i t=some (t.put f.dst a):=by
 have I:ops.toList[i]? =some f:=by grind
 have Y:dQ f.op=false:=by
  simp only[oneValue,eA,aT] at j
  unfold dQ
  grind [eE,ep]
 have U: ∀t,dq C f t=[]:=fun t=>by
  grind [dq,oneValue,eE,ep]
 have a0: ∀t x v,f.op≠ .store t x v:=fun t x v e=>by
  grind [oneValue,eE,ep]
 have Z: ∀c,f.op= .call c->ve c.callee=false:=fun c e=>by
  simp only[oneValue,eA,aT] at j
  rw[e] at j
  obtain⟨D,O,Q⟩:=c
  cases D with
  |builtin b=>cases b<;>first|rfl|simp[eE,ep] at j
  |_=>rfl
 have A: ∀t,bz C calm i f t=((!calm.contains i||(!eE f.op||iv f t))&&kg calm i f t):=fun t=>by
  grind [bz,Di,rk]
 have z: ∀t:St,(∀x∈f.looksAt ops,t.env[x]? =s.env[x]?)-> ∀x∈f.op.operands.toList,az t x=az s x:=fun t p x M=>by
  cases x with
  |tmp u=>
   refine p u ?_
   grind [looksAt]
  |_=>rfl
 have V:(if bz C calm i f s=true then ct (ag St) C calm i (cr calm B0 i f s) f s some else none)=some y->
   ∃a,y=s.put f.dst a/\ ∀t:St,(∀x∈f.looksAt ops,t.env[x]? =s.env[x]?)->(is f.op=true\/calm.contains i=true\/(calm.contains (i+mZ)=true/\rm calm s t)\/RowsIn s t)->
    (if bz C calm i f t=true then ct (ag St) C calm i (cr calm B0 i f t) f t some else none)=some (t.put f.dst a):=fun h=>by
  split at h
  ·rename_i n
   obtain⟨a,E,F⟩:=adP L j h
   refine⟨a,E,fun t p m=> ?_⟩
   rw[A] at n
   have K:=Nz (z t p)
   rw[A,K,Dk (z t p),aB n]
   simp only[aT] at n
   obtain⟨n,w⟩:=n
   refine F t (z t p) ?_
   rcases m with m|m|⟨m,J⟩|m
   rotate_left 2
   ·unfold kg at w
    rw[m] at w
    cases q:eE f.op with
    |true=>
     rw[q] at w
     simp only[bo,km] at w
     refine .inr (.inr fun x M a R g X r G=>J g ?_ r G)
     grind
    |false=>
     simp only[oneValue,q,km,aT] at j
     unfold ep at j
     split at j
     ·rename_i e
      rw[e];exact .inl rfl
     ·cases j.1
   ·exact .inr (.inr (m.acZ f))
   ·exact .inl m
   ·rw[m] at n
    cases q:eE f.op with
    |true=>simp_all
    |false=>
     simp only[oneValue,q,km,aT] at j
     unfold ep at j
     split at j
     ·rename_i e
      rw[e];exact .inl rfl
     ·cases j.1
  ·cases h
 unfold bQ at h⊢
 simp only[I] at h⊢
 split at h
 all_goals grind [looksAt,Bind.bind,dst]
def nl (C:Ctx) (ops:Array Oper) (calm:List Nat) (B0:Nat) (s':St):Nat->Array Bool->St->Prop
 |0,b,s=>ready .any ops b=[]/\s=s'
 |n+1,b,s=>(ready .any ops b=[]->s=s')/\ ∀i∈ready .any ops b,∃e,bQ C ops.toList calm B0 i s=some e/\nl C ops calm B0 s' n (b.setIfInBounds i true) e
structure ro (ops:Array Oper) (calm:List Nat) (listed:Array Bool) (i:Nat) (oi:Oper) (l:List Nat):Prop where
 off: ∀b∈l,listed.getD b true=false
 wait: ∀b∈l,∃ob,ops[b]? =some ob/\ ∃e∈ob.after,binds .any e=true/\(e.on=i\/e.on∈l)
 free: ∀(j:Nat) (oj:Oper),ops[j]? =some oj->j≠i->listed.getD j true=false->j∉l->
  oi.apart ops oj=true/\(is oi.op=true\/calm.contains i=true\/calm.contains (i+mZ)=true\/fj calm j oj.op=true)/\(dQ oj.op=true->calm.contains j=true\/vf calm i oi=true)/\calm.contains (j+cq)=false
theorem adR {f:Array Bool} {i:Nat} {m:Oper} (h:Cg ops calm f i m=true):ro ops calm f i m (na ops f i):=by
 simp only[Cg,aT] at h
 obtain⟨g,p⟩:=h
 refine⟨fun b e=> ?_,fun b e=> ?_,fun j w q v t r=> ?_⟩
 ·have n:=bT.1 g b e
  simp_all
 ·have n:=bT.1 g b e
  grind [waits,Array.any_eq_true',id]
 grind
theorem adS {i j:Nat} {f m:Oper} (hi:ops[i]? =some f) (D:vf calm i f=true) (d5:calm.contains (i+cq)=false) (c9:ops[j]? =some m) (a0:f.apart ops m=true) (d4:calm.contains (j+cq)=false)
  (w:dQ m.op=true) {s V p:St} (h:bQ C ops.toList calm B0 i s=some V) (h':bQ C ops.toList calm B0 j V=some p):
  ∃n,bQ C ops.toList calm B0 j s=some n/\bQ C ops.toList calm B0 i n=some p:=by
 obtain⟨z,b2,b3⟩:=CX a0
 have c8:ops.toList[i]? =some f:=by grind
 have a3:ops.toList[j]? =some m:=by grind
 unfold vf at D
 split at D
 ·rename_i u a4
  simp only[aT,gv] at D
  obtain⟨⟨O,c3⟩,d1⟩:=D
  have O:f.guard=none:=by simpa using O
  have c1:ep f.op=false:=by rw[a4];rfl
  have a9:u∈f.looksAt ops:=by
   grind [looksAt,operands]
  have R:m.dst≠some u:=fun e=>b3 u e a9
  have d0: ∀t,bz C calm i f t=true:=fun t=>by
   grind [dq,bz,Di,rk,kg]
  have Q: ∀t:St,bQ C ops.toList calm B0 i t=(t.env[u]?).map (fun a=>t.put f.dst a):=fun t=>by
   grind [bQ,kw,bb,lift,az,ag]
  rw[Q] at h
  simp only[cv] at h
  obtain⟨a,Z,rfl⟩:=h
  simp only[Q]
  have a6: ∀(t:St) (d:Option Tmp) (b:AV),d≠some u->(t.put d b).env[u]? =t.env[u]? :=fun t d b hd=>by
   cases d<;>grind [St.put,List.getElem?_set_ne]
  have M:ep m.op=false:=by
   revert w
   cases m.op<;>intro w<;>first|rfl|cases w
  have c4: ∀{p:St},bb (ag St) C (B0+j*width) m (s.put f.dst a) some=some p-> ∃n,bb (ag St) C (B0+j*width) m s some=some n/\(n.env[u]?).map (fun a=>n.put f.dst a)=some p:=fun {p} h=>by
   have G: ∀x∈m.op.operands.toList,az (s.put f.dst a) x=az s x:=fun x A=>hg (fun t q e=>gM (z t q) (e▸A))
   obtain⟨E,b1,e0,d9,d7,d8⟩:=m
   simp only at w G R b2
   unfold bb at h⊢
   cases b1<;>(try cases w)
   rename_i c
   obtain⟨X,b6,b7⟩:=c
   cases X<;>(try cases w)
   rename_i b
   cases b<;>(try cases w)
   simp only at h⊢
   have fin: ∀{t:St} {v:AV} {p:St},t.env[u]? =some a->some ((t.put f.dst a).put E v)=some p-> ∃n,some (t.put E v)=some n/\(n.env[u]?).map (fun a=>n.put f.dst a)=some p:=fun {t v p} q e=>by
    grind [put_comm]
   have b9: ∀{g:Nat} {r:Row} {p:St},some ((((s.put f.dst a).aU g).setRow g r).put E (.ab g))=some p-> ∃n,some (((s.aU g).setRow g r).put E (.ab g))=some n/\(n.env[u]?).map (fun a=>n.put f.dst a)=some p:=fun {g r p} e=>by
    cases e
    refine⟨_,rfl,?_⟩
    rw[a6 _ E _ R]
    have Y:((s.aU g).setRow g r).env[u]? =some (aU g a):=by simp[St.setRow,St.aU,Z]
    rw[Y,bn]
    congr 1
    have b8:((s.put f.dst a).aU g).setRow g r=((s.aU g).setRow g r).put f.dst (aU g a):=by
     cases f.dst<;>grind [St.put,St.aU,St.setRow,List.map_set]
    grind [put_comm]
   split at h
   ·rename_i x y t t2 L a7
    try simp only[L,a7]
    split at h
    ·rename_i a8
     try rw[aB a8]
     obtain⟨e3,A,h⟩:=aJ h
     obtain⟨e4,U,h⟩:=aJ h
     rw[G x (by simp[operands,Call.operands,L])] at A
     rw[G y (by simp[operands,Call.operands,L])] at U
     rw[A,U]
     simp only[lift]
     unfold kd at h⊢
     split at h
     ·rename_i d6 a2
      try simp only[a2]
      split at h
      ·rename_i e1 a5
       try simp only[a5]
       split at h
       ·rename_i a1
        try rw[aB a1]
        rw[Dd] at h
        split at h
        ·rename_i ys b0
         try simp only[b0]
         split at h
         ·obtain⟨_,J,h⟩:=cA h
          rw[J]
          simp only[ag,ac]
          rw[lH] at h
          obtain⟨c6,h⟩:=dR h
          grind [cP,St.setRow]
         ·rename_i g
          rw[hK] at h
          split at h
          ·rename_i b4 xs K
           try simp only[K]
           split at h
           ·rename_i b5 F
            try simp only[F]
            split at h
            ·rename_i I
             try rw[aB I]
             obtain⟨_,J,h⟩:=cA h
             grind [ag]
            ·cases h
           ·cases h
          ·cases h
         ·rename_i g off len
          rw[hK] at h
          split at h
          ·rename_i b4 xs K
           try simp only[K]
           split at h
           ·rename_i b5 F
            try simp only[F]
            split at h
            ·rename_i I
             try rw[aB I]
             obtain⟨_,J,h⟩:=cA h
             grind [ag]
            ·cases h
           ·cases h
          ·cases h
         ·cases h
        ·cases h
       ·cases h
      ·cases h
     ·cases h
    ·cases h
   ·cases h
  have c2:bz C calm j m (s.put f.dst a)=bz C calm j m s:=by
   unfold bz
   rw[Dh (fun t q=>gM (z t q)),Ny (fun t q=>gM (z t q)),NA (fun t q=>gM (z t q)),Nx (fun t q=>gM (z t q)),NB (fun t q=>gM (z t q)),Dk (s:=s) (t:=s.put f.dst a) (fun x A=>hg (fun t q e=>gM (z t q) (e▸A)))]
  have c0: ∀t:St,cr calm B0 j m t=B0+j*width:=fun t=>by
   unfold cr
   split
   ·rename_i e;rw[e] at M;cases M
   ·rfl
  have d3: ∀{p},(if bz C calm j m (s.put f.dst a)=true then ct (ag St) C calm j (cr calm B0 j m (s.put f.dst a)) m (s.put f.dst a) some else none)=some p->
    ∃n,(if bz C calm j m s=true then ct (ag St) C calm j (cr calm B0 j m s) m s some else none)=some n/\(n.env[u]?).map (fun a=>n.put f.dst a)=some p:=fun {p} h=>by
   grind [kw]
  have d2: ∀{p:St},some ((s.put f.dst a).put m.dst (.aW []))=some p-> ∃n,some (s.put m.dst (.aW []))=some n/\(n.env[u]?).map (fun a=>n.put f.dst a)=some p:=fun {p} e=>by
   grind [put_comm]
  unfold bQ at h'⊢
  simp only[a3] at h'⊢
  split at h'
  ·simp_all
  ·rename_i g e2 c7
   split at h'
   ·cases h'
   ·rename_i t q
    have c5:(s.put f.dst a).env[t]? =s.env[t]? :=by
     cases hd:f.dst<;>grind [Nw,St.put,List.getElem?_set_ne]
    grind
 ·cases D
theorem adT {s':St} {i:Nat} {q:Oper} (hi:ops[i]? =some q) (M:calm.contains (i+cq)=false) (L:oneValue calm i q.op=true):
  ∀(f:Nat) (e:Array Bool) (s r:St) (l:List Nat),ro ops calm e i q l->i∈ready .any ops e->bQ C ops.toList calm B0 i s=some r->
   nl C ops calm B0 s' f (e.setIfInBounds i true) r->nl C ops calm B0 s' (f+1) e s:=by
 intro f
 induction f with
 |zero=>
  intro e s r l _ y z H
  refine⟨fun h=>(by simp_all),fun j n=> ?_⟩
  by_cases p:j=i
  ·simp_all
  ·have:=re n p
   rw[H.1] at this
   cases this
 |succ f a5=>
  intro e s r l m y z H
  refine⟨fun h=>(by simp_all),fun j n=> ?_⟩
  by_cases p:j=i
  ·simp_all
  ·obtain⟨Q,A,R⟩:=H.2 j (re n p)
   obtain⟨G,t,x,X⟩:=vJ.1 n
   have a0:e.getD i true=false:=(vJ.1 y).1
   have F:j∉l:=fun a3=>by
    grind [ro.wait,ro.off,Nat.lt_or_ge,Array.size,Array.getElem?_eq_none]
   obtain⟨D,Y,w,O⟩:=m.free j t x p G F
   obtain⟨g,v,U⟩: ∃g,bQ C ops.toList calm B0 j s=some g/\bQ C ops.toList calm B0 i g=some Q:=by
    by_cases a1:dQ t.op=true/\calm.contains j=false
    ·grind [adS]
    ·have w:dQ t.op=true->calm.contains j=true:=fun h=>by
      simp_all
     obtain⟨a,rfl,V⟩:=adQ hi M L z
     obtain⟨g,v,rfl⟩:=adL (i:=i) x D w O A
     grind [adN,Oper.apart_spec,id]
   refine⟨g,v,?_⟩
   have Z:ro ops calm (e.setIfInBounds j true) i q l:=by
    refine⟨fun b E=> ?_,m.wait,fun k ok I J a4 K=>m.free k ok I J ?_ K⟩
    ·rw[getD_set_ne true (show j≠b by grind)]
     exact m.off b E
    ·by_cases a2:j=k
     all_goals simp_all
   grind [ready_mono,Array.setIfInBounds_comm]
theorem adU {o:Op} (h:lx o=true):(∃e,o= .alloc e)\/ ∃t l c,o= .makeSlice t l c:=by
 cases o<;>first|exact .inl ⟨_,rfl⟩|exact .inr ⟨_,_,_,rfl⟩|cases h
theorem NL {o:Oper} (p:lx o.op=true) {base:Nat} {s j:St} (h:bb (ag St) C base o s some=some j):
  ∃(R:Row) (v:AV),s.heap[base]? =some none/\j=(s.setRow base R).put o.dst v/\
   ∀t:St,(∀x∈o.op.operands.toList,az t x=az s x)->t.heap[base]? =some none->bb (ag St) C base o t some=some ((t.setRow base R).put o.dst v):=by
 obtain⟨i,E,U,Q,M,O⟩:=o
 have G: ∀(v:AV) (t:St),t.heap[base]? =some none-> ∀r:Row,cP (ag St) t base r (fun s'=>some (s'.put i v))=some ((t.setRow base r).put i v):=fun v t z r=>by
  grind [cP]
 cases E<;>(try cases p)
 case alloc e=>
  simp only[bb] at h⊢
  split at h
  ·rename_i X L
   split at h
   ·rename_i n F w
    split at h
    ·rename_i D q
     split at h
     ·rename_i u A
      split at h
      ·rename_i g
       obtain⟨b,f⟩:=dR h
       grind
      ·cases h
     ·cases h
    ·cases h
   ·rename_i w
    split at h
    ·rename_i g
     obtain⟨b,f⟩:=dR h
     grind
    ·cases h
  ·cases h
 case makeSlice ty l c=>
  simp only[bb] at h⊢
  split at h
  ·rename_i D k1 n k2 m q J I
   split at h
   ·rename_i u A
    split at h
    ·rename_i g
     simp only[ag] at h
     cases y:mk n m with
     |none=>simp_all
     |some V=>
      rw[y] at h
      simp only[ac] at h
      obtain⟨b,f⟩:=dR h
      cases f
      refine⟨_,_,b,rfl,fun t K z=> ?_⟩
      simp_all [operands,aB,ag,ac]
    ·cases h
   ·cases h
  ·cases h
theorem adV {T:TT} {s:St} {ty:TypeId} {p v:AV} {d:Option Tmp} {q:St} (h:fi (ag St) T s ty p v (fun s'=>some (s'.put d .undef))=some q):
  ∃g r,(∃z,s.heap[g]? =some (some z))/\q=(s.setRow g r).put d .undef/\ ∀t:St,RowsIn s t->fi (ag St) T t ty p v (fun s'=>some (s'.put d .undef))=some ((t.setRow g r).put d .undef):=by
 unfold fi at h⊢
 split at h
 ·cases h
 ·split at h
  ·rename_i f
   split at h
   ·split at h
    ·rename_i b
     split at h
     ·rename_i i
      cases h
      refine⟨_,_,⟨_,bj b⟩,rfl,fun t e=> ?_⟩
      rw[aB f]
      simp only[e.row b]
      grind
     ·cases h
    ·rename_i b
     split at h
     ·rename_i i
      obtain⟨y,n,h⟩:=cA h
      cases h
      refine⟨_,_,⟨_,bj b⟩,rfl,fun t e=> ?_⟩
      rw[aB f]
      simp only[e.row b]
      grind [ag]
     ·cases h
    ·cases h
   ·cases h
  ·rename_i f
   split at h
   ·rename_i j
    split at h
    ·split at h
     ·rename_i b
      split at h
      ·rename_i x m
       split at h
       ·rename_i i
        cases h
        refine⟨_,_,⟨_,bj b⟩,rfl,fun t e=> ?_⟩
        rw[aG f,aB j]
        simp only[e.row b,m]
        grind
       ·cases h
      ·cases h
     ·rename_i b
      split at h
      ·rename_i u w
       split at h
       ·rename_i x m
        obtain⟨y,n,h⟩:=cA h
        cases h
        refine⟨_,_,⟨_,bj b⟩,rfl,fun t e=> ?_⟩
        rw[aG f,aB j]
        simp only[e.row b,w,m,ag,n,ac]
       ·cases h
      ·cases h
     ·cases h
    ·split at h
     ·rename_i b
      split at h
      ·rename_i i
       cases h
       refine⟨_,_,⟨_,bj b⟩,rfl,fun t e=> ?_⟩
       rw[aG f,aB j]
       simp only[e.row b]
       grind
      ·cases h
     ·cases h
    ·cases h
   ·cases h
theorem adW {i:Nat} {b:Oper} {s m:St} (hi:ops[i]? =some b) (J:calm.contains (i+cq)=false) (f:MH b.op=true) (A:b.guard=none) (h:bQ C ops.toList calm B0 i s=some m):
  ∃g r,(∃L,s.heap[g]? =some (some L))/\m=(s.setRow g r).put b.dst .undef/\ ∀t:St,(∀x∈b.op.operands.toList,az t x=az s x)->RowsIn s t->bQ C ops.toList calm B0 i t=some ((t.setRow g r).put b.dst .undef):=by
 have D:ops.toList[i]? =some b:=by grind
 obtain⟨ty,p,v,e⟩: ∃ty p v,b.op= .store ty p v:=by
  revert f
  cases b.op<;>intro f<;>first|exact⟨_,_,_,rfl⟩|cases f
 have y: ∀t,cr calm B0 i b t=B0+i*width:=fun t=>by simp[cr,e]
 have F: ∀t,bz C calm i b t=fk C calm b t:=fun t=>by
  grind [bz,rl,dq,dQ,eE,eS]
 have z:ep b.op=false:=by rw[e];rfl
 unfold bQ at h⊢
 simp only[D,A,y,F,kw J z] at h⊢
 split at h
 ·rename_i M
  have j: ∀t:St,bb (ag St) C (B0+i*width) b t some=lift (ag St) (az t p) fun p=>lift (ag St) (az t v) fun v=>fi (ag St) C.T t ty p v fun s'=>some (s'.put b.dst .undef):=fun t=>by
   obtain⟨V,Y,a0,Z,U,X⟩:=b
   simp only at e
   subst e
   rfl
  rw[j] at h
  obtain⟨K,O,h⟩:=aJ h
  obtain⟨v1,R,h⟩:=aJ h
  obtain⟨g,r,G,rfl,w⟩:=adV h
  refine⟨g,r,G,rfl,fun t Q I=> ?_⟩
  have n:az t p=some K:=by grind [operands]
  have q:az t v=some v1:=by grind [operands]
  have E:fk C calm b t=true:=by
   grind [fk,absurd]
  rw[aB E,j,n,q]
  exact w t I
 ·cases h
theorem Do (f:Nat->Nat) (b:Nat) (z:Option Row): ∀(e:Heap) (n:Nat) (H:Heap),(∀(j:Nat) r,e[j]? =some (some r)->f (n+j)≠b)->fh f n e (H.set b z)=(fh f n e H).set b z
 |[],_,_,_=>rfl
 |r::i,n,H,h=>by
  simp only[fh]
  have g:=fun H=>Do f b z i (n+1) H (fun j x p=>by
   have:=h (j+1) x (by grind)
   grind)
  cases r with
  |none=>exact g H
  |some x=>
   have m:f n≠b:=by
    have:=h 0 x rfl
    omega
   grind [List.set_comm]
theorem nm {j:Nat} {b:Oper} {s:St} (q:ops[j]? =some b) (n:calm.contains (j+cq)=false) (p:lx b.op=true) (i:b.guard=none):
  bQ C ops.toList calm B0 j s=bb (ag St) C (B0+j*width) b s some:=by
 have m:ops.toList[j]? =some b:=by grind
 rcases adU p with⟨e,f⟩|⟨t,l,c,f⟩
 ·have h:bz C calm j b s=true:=by
   grind [bz,rk,dq,rl,dQ,eE,eS]
  have g:cr calm B0 j b s=B0+j*width:=by simp[cr,f]
  unfold bQ
  simp only[m,i,h,g,cU]
  exact kw n (by rw[f];rfl)
 ·have h:bz C calm j b s=true:=by
   grind [bz,rk,dq,rl,dQ,eE,eS]
  have g:cr calm B0 j b s=B0+j*width:=by simp[cr,f]
  unfold bQ
  simp only[m,i,h,g,cU]
  exact kw n (by rw[f];rfl)
theorem adX {i:Nat} {b:Oper} {s p:St} (hi:ops[i]? =some b) (J:calm.contains (i+cq)=false) (g:oP b.op=true) (y:calm.contains i=true) (F:b.guard=none) (h:bQ C ops.toList calm B0 i s=some p):
  dq C b s=[]/\bb (ag St) C (B0+i*width) b s some=some p/\ ∀t:St,dq C b t=[]->bQ C ops.toList calm B0 i t=bb (ag St) C (B0+i*width) b t some:=by
 have G:ops.toList[i]? =some b:=by grind
 have j: ∃c,b.op= .call c/\ ∃f,c.callee= .value f:=by
  revert g
  cases b.op<;>intro g<;>(try cases g)
  rename_i c
  refine⟨c,rfl,?_⟩
  obtain⟨q,A,D⟩:=c
  cases q<;>(try cases g)
  simp_all
 obtain⟨c,j,f,z⟩:=j
 have w:dQ b.op=false:=by grind [dQ]
 have n:eE b.op=false:=by grind [eE]
 have E: ∀t,cr calm B0 i b t=B0+i*width:=fun t=>by simp[cr,j]
 have I: ∀t,bz C calm i b t=(dq C b t).isEmpty:=fun t=>by
  unfold bz
  rw[y,w,n,rl n]
  cases m:dq C b t with
  |nil=>rw[Di m,rk (fun t x v e=>by simp_all) (fun c e=>by rw[j] at e;cases e;rw[z];rfl) m];rfl
  |cons x r=>rfl
 grind [ep,bQ,kw]
theorem adY {i:Nat} {b:Oper} {s j:St} (hi:ops[i]? =some b) (y:calm.contains (i+cq)=false) (e:oP b.op=true) (r:calm.contains i=false) (w:b.guard=none) (h:bQ C ops.toList calm B0 i s=some j):
  eS C b s=true/\fk C calm b s=true/\bb (ag St) C (B0+i*width) b s some=some j/\ ∀t:St,eS C b t=true->fk C calm b t=true->bQ C ops.toList calm B0 i t=bb (ag St) C (B0+i*width) b t some:=by
 have x:ops.toList[i]? =some b:=by grind
 have g: ∃c,b.op= .call c/\ ∃f,c.callee= .value f:=by
  revert e
  cases b.op<;>intro e<;>(try cases e)
  rename_i c
  refine⟨c,rfl,?_⟩
  obtain⟨m,n,p⟩:=c
  cases m<;>(try cases e)
  simp_all
 obtain⟨c,g,f,v⟩:=g
 have q: ∀t,cr calm B0 i b t=B0+i*width:=fun t=>by simp[cr,g]
 grind [bz,eS,fk,rl,eE,ep,bQ,kw]
theorem rp {i j n:Nat} (e:i≠j) (b:n<width):B0+i*width+n≠B0+j*width:=by
 grind [width]
theorem adZ {i j:Nat} {h f:Oper} {s b0 b1:St} (I:calm.contains (i+cq)=false) (J:calm.contains (j+cq)=false) (hi:ops[i]? =some h) (E:ops[j]? =some f) (F:i≠j) (a7:vg calm i h.op=true) (A:h.guard=none)
  (q:lx f.op=true) (D:f.guard=none) (b4:h.apart ops f=true) (y:bQ C ops.toList calm B0 i s=some b0) (a5:bQ C ops.toList calm B0 j b0=some b1):
  ∃a9,bQ C ops.toList calm B0 j s=some a9/\bQ C ops.toList calm B0 i a9=some b1:=by
 obtain⟨e1,c6,e2⟩:=CX b4
 rw[nm E J q D] at a5
 obtain⟨R,K,d5,rfl,M⟩:=NL q a5
 have a8: ∀(u:St) (v:AV) (x:Operand),x∈f.op.operands.toList->az (u.put h.dst v) x=az u x:=fun u v x m=>by
  grind [hg,looksAt]
 have e0: ∀(u:St) (v:AV) (x:Operand),x∈h.op.operands.toList->az (u.put f.dst v) x=az u x:=fun u v x m=>by
  grind [hg,looksAt]
 have e5: ∀(u:St) (b:Nat) (r:Row) (x:Operand),az (u.setRow b r) x=az u x:=fun u b r x=>by cases x<;>rfl
 have d4: ∀t,f.dst=some t->h.dst≠some t:=fun t c8 b7=>c6 t b7 c8
 simp only[vg,eA] at a7
 rcases a7 with(V|w)|c7
 rotate_right
 ·obtain⟨g,r,⟨e6,e4⟩,rfl,G⟩:=adW hi I c7 A y
  have d7:g≠B0+j*width:=fun e=>by
   grind [da,St.setRow,List.getElem?_set_self,List.getElem?_eq_some_iff]
  have p:s.heap[B0+j*width]? =some none:=by
   grind [da,St.setRow,List.getElem?_set_ne]
  refine⟨_,(nm E J q D).trans (M s (fun x m=>by simp_all) p),?_⟩
  rw[G _ (fun x m=>by simp_all) (fun b2 d0 b9=>by
   rw[da]
   exact ri p b2 d0 b9)]
  grind [nk,put_comm,St.setRow,List.set_comm]
 ·rw[nm hi I V A] at y
  obtain⟨Q,e7,d6,rfl,b3⟩:=NL V y
  have d2:B0+i*width≠B0+j*width:=rp (n:=0) F (by unfold width;omega)
  have p:s.heap[B0+j*width]? =some none:=by
   grind [da,St.setRow,List.getElem?_set_ne]
  refine⟨_,(nm E J q D).trans (M s (fun x m=>by simp_all) p),?_⟩
  rw[nm hi I V A,b3 _ (fun x m=>by simp_all) (by
   grind [da,St.setRow,List.getElem?_set_ne])]
  grind [nk,put_comm,St.setRow,List.set_comm]
 ·cases a6:calm.contains i with
  |true=>
   obtain⟨hid,Y,G⟩:=adX hi I w a6 A y
   obtain⟨a,L,c9,b8,rfl,X⟩:=adF w hid Y
   have a1: ∀(k:Nat) r,L[k]? =some (some r)->fB [] (B0+i*width) (0+k)≠B0+j*width:=fun k r a0=>by
    have c2:=(aO.1 a0).1
    simp only[fB,List.getElem?_nil,jh,iz,CY]
    exact rp F (by omega)
   have p:s.heap[B0+j*width]? =some none:=by
    grind [da,ni]
   have a4:=M s (fun x m=>by rw[a8 _ _ x m];cases x<;>rfl) p
   refine⟨_,(nm E J q D).trans a4,?_⟩
   have Z: ∀x∈h.op.operands.toList,az ((s.setRow (B0+j*width) R).put f.dst K) x=az s x:=fun x m=>by
    simp_all
   have a3:RowsIn s ((s.setRow (B0+j*width) R).put f.dst K):=fun g r z=>by
    rw[da]
    exact ri p g r z
   obtain⟨O,U⟩:=X _ Z a3 (fun n a2=>by
    rw[da]
    simp only[St.setRow]
    rw[hA (fZ (rp F a2))]
    grind)
   rw[G _ O,U]
   rw[da,nk]
   simp only[St.setRow]
   rw[Do _ _ _ _ _ _ a1]
   congr 1
   cases b5:h.dst with
   |none=>cases f.dst<;>rfl
   |some d=>
    cases b6:f.dst<;>grind [St.put,List.set_comm]
  |false=>
   obtain⟨c5,c1,Y,G⟩:=adY hi I w a6 A y
   obtain⟨a,L,ids,d3,c0,c9,b8,rfl,X⟩:=NI w c5 Y
   have d8:B0+j*width∉ids:=fun c4=>by
    obtain⟨r,e3⟩:=NH (fB ids (B0+i*width)) L 0 s.heap (c0 _ c4)
    grind [da]
   have a1: ∀(k:Nat) r,L[k]? =some (some r)->fB ids (B0+i*width) (0+k)≠B0+j*width:=fun k r a0=>by
    have c2:=(aO.1 a0).1
    rw[iz]
    unfold fB
    cases z:ids[k]? with
    |some g=>grind
    |none=>
     have:=M0.1 z
     exact rp F (by omega)
   have p:s.heap[B0+j*width]? =some none:=by
    grind [da,ni]
   have a4:=M s (fun x m=>by rw[a8 _ _ x m];cases x<;>rfl) p
   refine⟨_,(nm E J q D).trans a4,?_⟩
   have Z: ∀x∈h.op.operands.toList,az ((s.setRow (B0+j*width) R).put f.dst K) x=az s x:=fun x m=>by
    simp_all
   have a3:RowsIn s ((s.setRow (B0+j*width) R).put f.dst K):=fun g r z=>by
    rw[da]
    exact ri p g r z
   obtain⟨O,d1,U⟩:=X _ Z a3 (by rw[da];simp[St.setRow]) (fun n a2=>by
    rw[da]
    simp only[St.setRow]
    rw[hA (fZ (rp F a2))]
    grind)
   have c3:fk C calm h ((s.setRow (B0+j*width) R).put f.dst K)=true:=by
    have d9: ∀t x v,h.op≠ .store t x v:=fun t x v e=>by rw[e] at w;cases w
    unfold fk at c1⊢
    split
    all_goals grind
   rw[G _ O c3,U]
   rw[da,nk]
   simp only[St.setRow]
   rw[Do _ _ _ _ _ _ a1]
   congr 1
   cases b5:h.dst with
   |none=>cases f.dst<;>rfl
   |some d=>
    cases b6:f.dst<;>grind [St.put,List.set_comm]
theorem ad0 {s':St} {i:Nat} {q:Oper} (hi:ops[i]? =some q) (V:calm.contains (i+cq)=false) (R:vg calm i q.op=true) (I:q.guard=none):
  ∀(n:Nat) (f:Array Bool) (s r:St) (l:List Nat),(∀b∈l,f.getD b true=false)->(∀b∈l,∃y,ops[b]? =some y/\ ∃e∈y.after,binds .any e=true/\(e.on=i\/e.on∈l))->
   (∀(j:Nat) (m:Oper),ops[j]? =some m->j≠i->f.getD j true=false->j∉l->q.apart ops m=true/\lx m.op=true/\m.guard=none/\calm.contains (j+cq)=false)->
   i∈ready .any ops f->bQ C ops.toList calm B0 i s=some r->
   nl C ops calm B0 s' n (f.setIfInBounds i true) r->nl C ops calm B0 s' (n+1) f s:=by
 intro n
 induction n with
 |zero=>
  intro f s r l _ _ _ t x H
  refine⟨fun h=>(by simp_all),fun j p=> ?_⟩
  by_cases g:j=i
  ·simp_all
  ·have:=re p g
   rw[H.1] at this
   cases this
 |succ n Y=>
  intro f s r l a5 U v t x H
  refine⟨fun h=>(by simp_all),fun j p=> ?_⟩
  by_cases g:j=i
  ·simp_all
  ·obtain⟨a7,A,Z⟩:=H.2 j (re p g)
   obtain⟨L,m,w,a0⟩:=vJ.1 p
   have a2:f.getD i true=false:=(vJ.1 t).1
   have K:j∉l:=fun a4=>by
    grind
   obtain⟨G,F,J,X⟩:=v j m w g L K
   obtain⟨z,D,E⟩:=adZ V X hi w (fZ g) R I F J G x A
   refine⟨z,D,?_⟩
   refine Y (f.setIfInBounds j true) z _ l (fun b a1=> ?_) U (fun k ok M O a6 Q=>v k ok M O ?_ Q) (re t (fZ g)) E ?_
   ·rw[getD_set_ne true (show j≠b by grind)]
    grind
   ·by_cases a3:j=k
    all_goals simp_all
   grind [Array.setIfInBounds_comm]
theorem ad1 {f:Array Bool} {i:Nat} {r:Oper} (h:Ch ops calm f i r=true):
  (∀b∈na ops f i,f.getD b true=false)/\(∀b∈na ops f i,∃q,ops[b]? =some q/\ ∃e∈q.after,binds .any e=true/\(e.on=i\/e.on∈na ops f i))/\
   (∀(j:Nat) (g:Oper),ops[j]? =some g->j≠i->f.getD j true=false->j∉na ops f i->r.apart ops g=true/\lx g.op=true/\g.guard=none/\calm.contains (j+cq)=false):=by
 simp only[Ch,aT] at h
 obtain⟨p,t⟩:=h
 refine⟨fun b m=> ?_,fun b m=> ?_,fun j g v z y x=> ?_⟩
 ·have n:=bT.1 p b m
  simp_all
 ·have n:=bT.1 p b m
  grind [waits,Array.any_eq_true',id]
 ·have w:j<ops.size:=(jg.1 v).1
  have n:=bT.1 t j (fm.2 w)
  simp_all
theorem NM {s':St}: ∀(order:List Nat) (e:Array Bool) (s:St),qR ops calm order e=true->ly C ops.toList calm B0 order s=some s'->nl C ops calm B0 s' order.length e s
 |[],e,s,f,h=>by
  simp only[ly,eB] at h
  simp only[qR,CE] at f
  exact⟨f,h⟩
 |i::r,e,s,f,h=>by
  simp only[ly] at h
  obtain⟨n,p,t⟩:=cA h
  simp only[qR,aT,eA,ce] at f
  obtain⟨⟨E,b⟩,v⟩:=f
  have H:=NM r _ n v t
  have q:i∈ready .any ops e:=by grind
  rcases b with(b|b)|b
  rotate_right
  ·cases g:ops[i]? with
   |none=>simp_all
   |some z=>
    rw[g] at b
    simp only[aT] at b
    have m:calm.contains (i+cq)=false:=by simp_all
    obtain⟨w,x,y⟩:=ad1 b.1.2
    exact ad0 g m b.1.1.1 (by simp_all) r.length e s n _ w x y q p H
  ·refine⟨fun A=>(by simp_all),fun j D=> ?_⟩
   simp_all
  ·cases g:ops[i]? with
   |none=>simp_all
   |some z=>
    rw[g] at b
    simp only[aT] at b
    have m:calm.contains (i+cq)=false:=by simp_all
    exact adT g m b.1.1 r.length e s n _ (adR b.1.2) q p H
end
section
variable {P : Program} {B : cl} {C : Ctx}
theorem NN {s:St} {a:Act} {w:World} {ops:Array Oper} {j:Nat} {t:Tmp} {g:Bool} (f:bd B s a w) (m:(ops.toList[j]?).bind (·.dst)=some t) (h:s.env[t]? =some (.aa .bool g)):yielded ops a.tmps j=some g:=by
 obtain⟨_,ι,b⟩:=f
 obtain⟨v,n,i⟩:=b.env t _ h
 have e:=oS i
 grind [Bind.bind,dst,yielded]
theorem vX {s:St} {a:Act} {w:World} (e:bd B s a w) (d:Option Tmp):bd B (s.put d (.aW [])) (a.put d undef) w:=by
 obtain⟨hd,ι,b⟩:=e
 exact⟨by cases d<;>exact hd,ι,b.put d (a:= .aW []) (v:=undef) ⟨[],rfl,rfl⟩ a.defers⟩
theorem NO {s:St} {a:Act} {w:World} {ops:Array Oper} {j:Nat} {t:Tmp} (f:bd B s a w) (h:(ops.toList[j]?).bind (·.dst)=some t) (g:s.env[t]? =some (.aW [])):yielded ops a.tmps j=none:=by
 obtain⟨_,ι,b⟩:=f
 obtain⟨v,i,vs,e,m⟩:=b.env t _ g
 grind [Bind.bind,dst,yielded]
theorem bd.drew {s:St} {a:Act} {w:World} (h:bd B s a w):bd B s a {w with drawn:=w.drawn+1}:=by
 obtain⟨hd,ι,b⟩:=h
 exact⟨hd,ι,b.drew _⟩
theorem ad2 (r:fH P C) (x:C.k=B.k) (y: ∀g,C.mv.contains g=true->B.mv g=true) {ops:Array Oper} {calm:List Nat} {B0 i:Nat} {s b:St} {a:Act} {w:World} (h:bQ C ops.toList calm B0 i s=some b) (f:bd B s a w) (Q:Exit->Act->World->Prop):
  wpOp P ops Q i (fun e w'=>bd B b e w') a w:=by
 unfold bQ at h
 cases n:ops[i]? with
 |none=>
  simp_all
 |some o=>
  have p:ops.toList[i]? =some o:=by grind
  simp only[p] at h
  unfold wpOp
  simp only[n]
  have step:(if bz C calm i o s=true then ct (ag St) C calm i (cr calm B0 i o s) o s some else none)=some b->o.wp P a w (fun e w'=>bd B b e w') Q:=fun h=>by
   grind [bz,acX,abQ]
  split at h
  ·grind [wanted,step]
  ·rename_i j A v
   split at h
   ·cases h
   ·rename_i t q
    split at h
    ·rename_i g m
     have z:=NN f q m
     grind [wanted,step,Bool.false_eq_true,vX]
    all_goals grind [NO,wanted,Bool.false_eq_true,vX]
theorem NP (m:fH P C) (p:C.k=B.k) (q: ∀g,C.mv.contains g=true->B.mv g=true) {ops:Array Oper} {calm:List Nat} {B0:Nat} {s':St} (Q:Exit->Act->World->Prop) (f: ∀a w,bd B s' a w->Q .normal a w):
  ∀(j:Nat) (e:Array Bool) (s:St) (a:Act) (w:World),nl C ops calm B0 s' j e s->bd B s a w->wpAny P .any ops Q j e a w
 |0,e,s,a,w,h,b=>⟨h.1,f a w (h.2▸b)⟩
 |n+1,e,s,a,w,h,b=>⟨fun t=>f a w (h.1 t▸b),fun i hi=>by
   obtain⟨z,v,x⟩:=h.2 i hi
   exact wpOp_mono (fun r w' y=>NP m p q Q f n _ z r w' x y) (ad2 m p q v b Q)⟩
theorem ad3 (e:fH P C) (j:C.k=B.k) (m: ∀g,C.mv.contains g=true->B.mv g=true) {ops:Array Oper} {calm order:List Nat} {B0:Nat} {s s':St} {a:Act} {w:World} (b:vh ops calm order=true)
  (h:ly C ops.toList calm B0 order s=some s') (i:bd B s a w) (Q:Exit->Act->World->Prop) (f: ∀a w,bd B s' a w->Q .normal a w):wpAny P .any ops Q ops.size (Array.replicate ops.size false) a w:=by
 simp only[vh,aT,ce] at b
 have H:=NM order _ s b.2 h
 grind [NP]
end
end Go.Rv
namespace Go.Rv
section
variable {P : Program} {B : cl} {C : Ctx}
theorem vY (m:fH P C) (f:C.k=B.k) (p: ∀g,C.mv.contains g=true->B.mv g=true) (ops:Array Oper) (b:List hf) (B0:Nat) (Q:Exit->Act->World->Prop) (s':St) (n: ∀a w,bd B s' a w->Q .normal a w):
  ∀(r:List Oper) (i:Nat) (s:St) (a:Act) (w:World),(∀j,r[j]? =ops[i+j]?)->ir C ops.toList b B0 i r s=some s'->bd B s a w->wpOps P ops Q (range' i r.length) a w
 |[],i,s,a,w,_,h,e=>by
  simp only[ir] at h;cases h
  exact n a w (f▸e.dz i b)
 |o::r,i,F,a,w,A,h,K=>by
  have L:ops[i]? =some o:=by simpa using(A 0).symm
  have x: ∀j,r[j]? =ops[i+1+j]? :=fun j=>by
   have:=A (j+1)
   grind
  simp only[ck,CZ]
  rw[wpOps_cons]
  unfold wpOp
  simp only[L]
  have step: ∀{s:St},bd B s a w->(fC (ag St) C (B0+i*width) o s some).bind (ir C ops.toList b B0 (i+1) r)=some s'->o.wp P a w (wpOps P ops Q (range' (i+1) r.length)) Q:=fun {s} e h=>by
   cases D:fC (ag St) C (B0+i*width) o s some with
   |none=>simp_all
   |some M=>
    rw[D] at h
    simp only[ac] at h
    exact Oper.wp_mono (fun I w' J=>vY m f p ops b B0 Q s' n r (i+1) M I w' x h J) (Nn m f p e D Q)
  unfold ir at h
  simp only at h
  have e:bd B (dz C.k i b F) a w:=f▸K.dz i b
  generalize dz C.k i b F=s at h e
  split at h
  ·grind [wanted,step]
  ·rename_i j G z
   split at h
   ·cases h
   ·rename_i t E
    split at h
    ·rename_i g q
     have y:=NN e E q
     simp only[wanted,z,y]
     split at h
     ·grind
     ·rename_i O
      have v:(some g==some G)=false:=by grind
      rw[v]
      simp only[rf,jc]
      exact vY m f p ops b B0 Q s' n r (i+1) _ _ w x h (vX e o.dst)
    ·rename_i q
     have y:=NO e E q
     simp only[wanted,z,y]
     have v:((none:Option Bool)==some G)=false:=by simp
     rw[v]
     simp only[rf,jc]
     exact vY m f p ops b B0 Q s' n r (i+1) _ _ w x h (vX e o.dst)
    ·cases h
theorem NQ (f:List Nat): ∀(l:List AV) (n i:Nat) (a:AV),(mask f n l)[i]? =some a-> ∃e,l[i]? =some e/\(a=e\/a= .undef)
 |[],_,_,_,h=>by simp[mask] at h
 |b::r,n,0,a,h=>by
  grind [mask,List.getElem?_cons_zero,Option.some.injEq]
 |b::r,n,i+1,a,h=>by
  simp only[mask,mP] at h
  simpa using NQ f r (n+1) i a h
theorem ad4: ∀{l:List AV} {i:Nat} {a:AV},l[i]? =some a-> ∀g,a.refs g=true->g∈cp l:=fun {l i a} h g b=>kl l g (nb h b)
theorem ad5 {s s':St} {a:Act} {w:World} (Q:List Nat) (a4:bd B s a w) (h:Ci B.k Q s=some s'):bd B s' a w:=by
 obtain⟨hd,ι,q⟩:=a4
 unfold Ci at h
 simp only at h
 split at h
 ·rename_i O
  generalize c1:reach s.heap (s.heap.length+1) 0 (dy (List.range B.k) (cp (mask Q 0 s.env)))=ids at h O
  simp only[aT,ce] at O
  obtain⟨⟨⟨c3,a6⟩,a5⟩,c2⟩:=O
  simp only[eB] at h
  subst h
  let n:ba:=⟨fun j=>match ids[j]? with|some g=>ι g|none=>none,fun j=>match ids[j]? with|some g=>ι.aw g|none=>fun _=>none⟩
  have J: ∀{j b:Nat},aP n (bL s.heap ids) j b-> ∃g,ids[j]? =some g/\aP ι s.heap g b:=fun {j b} o=>by
   cases o with
   |out r p G F e=>
    obtain⟨g,E,hi,f,_⟩:=lF G
    simp only[n,hi] at F
    exact⟨g,hi,.out E p f F e⟩
   |aw t xss m cs i p G K F e=>
    obtain⟨g,E,hi,f,M⟩:=lF G
    simp only[n,hi] at F
    obtain⟨L,rfl,_⟩:=Row.q4 M.symm
    exact⟨g,hi,.aw t xss m L i p f K F e⟩
  have a7: ∀g,g∈ids->ids[place ids g]? =some g:=fun g f=>MY f
  have b1: ∀(j:Nat) g,ids[j]? =some g->sumOf n (bL s.heap ids) j=sumOf ι s.heap g:=fun j g A=>by
   obtain⟨E,U,_⟩:=lC a6 (jf A)
   have:=vC A U
   grind [sumOf,Row.Cv,Row.Cw]
  have b0: ∀g,g∈ids->sumOf n (bL s.heap ids) (place ids g)=sumOf ι s.heap g:=fun g f=>b1 _ _ (a7 g f)
  have V: ∀b,aM w ι s.heap b->aM w n (bL s.heap ids) b:=fun b z=>by
   refine⟨z.1,fun j o=> ?_⟩
   obtain⟨g,_,R⟩:=J o
   exact z.2 g R
  have I: ∀b,dst B.D w ι s.heap b->dst B.D w n (bL s.heap ids) b:=fun b z=>⟨z.1,V b z.2⟩
  refine⟨hd,n,q.kept,⟨fun j r A=> ?_,fun c4 c5 b b5 b7=> ?_,fun j b o=> ?_,fun j u xss m cs A=> ?_⟩,fun b z=>V b (q.stay b z),fun g f=> ?_,fun i x K=> ?_,q.dN.mono (aS _) (fun b z _=>⟨I b z,rfl⟩)⟩
  ·obtain⟨g,E,hi,f,rfl⟩:=lF A
   have b4:n j=ι g:=by grind
   rw[b4]
   refine bG.bI (.inl I) (fun x K=> ?_) (q.am.rows g E f)
   grind [lC,List.mem_of_getElem?,Row.q3]
  ·obtain⟨a1,b9,b6⟩:=J b5
   obtain⟨a2,c0,b8⟩:=J b7
   have:=q.am.one a1 a2 b b6 b8
   grind [vv]
  ·obtain⟨g,hi,R⟩:=J o
   exact q.am.has g b R
  ·obtain⟨g,E,hi,f,M⟩:=lF A
   obtain⟨L,rfl,a8⟩:=Row.q4 M.symm
   have Z:n j=ι g:=by grind
   have a0:n.aw j=ι.aw g:=by grind
   rw[Z,a0]
   exact(cX.bI (.inl I) (q.am.nest g u xss m L f)).gL a8
  ·have A:ids[g]? =some g:=by
    have a3:(ids.take B.k)[g]? =some g:=by simp_all
    grind
   obtain⟨a3,E,U⟩:=q.io g f
   simp_all [id,Trans.trans,vC]
  ·obtain⟨Y,X,rfl⟩:=vu K
   obtain⟨y,b3,a9⟩:=NQ Q s.env 0 i Y X
   obtain⟨v,b2,G⟩:=q.env i y b3
   refine⟨v,b2,?_⟩
   rcases a9 with rfl|rfl
   ·exact ah.bI Y v (.inl I) (fun g f=>b0 g (by
     have:=bT.1 a5 g (ad4 X g f)
     simp_all)) G
   ·trivial
 ·cases h
theorem lI {k:Nat} {s:St} {a:Act} {w:World} {b:List Nat} {K:St->Prop} (f:k=B.k) (e:bd B s a w) (h:hJ k b s K): ∃s',K s'/\bd B s' a w:=by
 grind [hJ,ad5]
theorem bd.more {s:St} {a:Act} {w:World} (G:bd B s a w) (n:Nat):bd B {s with heap:=s.heap++replicate n none} a w:=by
 obtain⟨hd,ι,h⟩:=G
 have y: ∀(g:Nat) (r:Row),(s.heap++replicate n none)[g]? =some (some r)↔s.heap[g]? =some (some r):=fun g r=>by
  grind
 have I:sumOf ι (s.heap++replicate n none)=sumOf ι s.heap:=by
  grind [sumOf,replicate,List.getElem?_eq_some_iff,List.getElem?_append_left]
 have A: ∀{g b:Nat},aP ι (s.heap++replicate n none) g b↔aP ι s.heap g b:=fun {g b}=>by
  constructor
  ·intro o
   cases o with
   |out r p f q e=>exact .out r p ((y g r).1 f) q e
   |aw u xss m cs i p f hi q e=>exact .aw u xss m cs i p ((y g _).1 f) hi q e
  ·intro o
   cases o with
   |out r p f q e=>exact .out r p ((y g r).2 f) q e
   |aw u xss m cs i p f hi q e=>exact .aw u xss m cs i p ((y g _).2 f) hi q e
 have D: ∀b,aM w ι (s.heap++replicate n none) b↔aM w ι s.heap b:=fun b=>by
  constructor
  ·exact fun j=>⟨j.1,fun g o=>j.2 g (A.2 o)⟩
  ·exact fun j=>⟨j.1,fun g o=>j.2 g (A.1 o)⟩
 have t:Trans w ι s.heap w ι (s.heap++replicate n none) (fun _=>True):=⟨aS _,fun b j=>⟨(D b).2 j,rfl⟩,fun g _=>by rw[I]⟩
 refine⟨hd,ι,h.kept,⟨fun g r z=> ?_,fun E F b L M=>h.am.one E F b (A.1 L) (A.1 M),fun g b o=>h.am.has g b (A.1 o),fun g u xss m cs z=>t.nest (fun _ _ _ _=>rfl) (fun _ _ _ _ _ _=>rfl) (h.am.nest g u xss m cs ((y g _).1 z))⟩,fun b j=>(D b).2 (h.stay b j),fun g z=> ?_,fun i x K=> ?_,t.ki h.dN⟩
 ·exact t.row (fun _ _=>trivial) (fun _ _ _ _=>rfl) (h.am.rows g r ((y g r).1 z))
 ·obtain⟨O,r,f⟩:=h.io g z
  simp_all
 ·obtain⟨v,J,f⟩:=h.env i x K
  exact⟨v,J,t.av (fun _ _=>trivial) f⟩
def Ends (B:cl) (K:Exit->St->Prop) (e:Exit) (a:Act) (w:World):Prop:= ∃s',K e s'/\bd B s' a w
theorem NR {c:Code} {body:St->(Exit->St->Prop)->Prop} (g: ∀s K a w,body s K->bd B s a w->c.wp P (Ends B K) a w) {K:Exit->St->Prop}:
  ∀(n:Nat) (s:St) (a:Act) (w:World),vi body n s K->bd B s a w->Code.rounds P c (Ends B K) n a w
 |0,s,a,w,h,_=>h
 |n+1,s,a,w,h,j=>by
  rw[rounds_succ]
  refine wp_mono (g s _ a w h j) fun e i w' m=> ?_
  obtain⟨s',b,f⟩:=m
  cases e with
  |normal=>exact NR g n s' i w' b f
  |_=>exact⟨s',b,f⟩
theorem nn (z:fH P C) (f:C.k=B.k) (A: ∀g,C.mv.contains g=true->B.mv g=true) (L:Nat): ∀(c:Code) (an:bf) (s:St) (K:Exit->St->Prop) (a:Act) (w:World),bu C L c an s K->bd B s a w->c.wp P (Ends B K) a w
 | .skip,an,s,K,a,w,h,b=>by
  cases an with
  |leaf t=>
   unfold bu at h
   obtain⟨n,j,m⟩:=lI f b h
   exact wp_skip ⟨n,j,m⟩
  |kh q t=>
   unfold bu at h
   obtain⟨n,j,m⟩:=lI f (f▸b.dz 0 q) h
   exact wp_skip ⟨n,j,m⟩
  |_=>simp[bu] at h
 | .ret,an,s,K,a,w,h,b=>by
  cases an with
  |leaf t=>
   unfold bu at h
   obtain⟨n,j,m⟩:=lI f b h
   exact wp_ret ⟨n,j,m⟩
  |kh q t=>
   unfold bu at h
   obtain⟨n,j,m⟩:=lI f (f▸b.dz 0 q) h
   exact wp_ret ⟨n,j,m⟩
  |_=>simp[bu] at h
 | .exit id,an,s,K,a,w,h,b=>by
  cases an with
  |leaf t=>
   unfold bu at h
   obtain⟨n,j,m⟩:=lI f b h
   exact wp_exit ⟨n,j,m⟩
  |kh q t=>
   unfold bu at h
   obtain⟨n,j,m⟩:=lI f (f▸b.dz 0 q) h
   exact wp_exit ⟨n,j,m⟩
  |_=>simp[bu] at h
 | .region id ops d,an,s,K,a,w,h,b=>by
  have M: ∀(q:List hf) (t:List Nat),(hH C ops.toList q s.heap.length 0 ops.toList {s with heap:=s.heap++replicate (ops.size*width) none} fun s'=>hJ C.k t s' (K .normal))->
    (Code.region id ops false).wp P (Ends B K) a w:=fun q t h=>by
   have E:=rj C ops.toList _ _ _ _ _ _ h
   obtain⟨O,G,r⟩:=B3.1 E
   refine wp_region ?_
   have:=vY z f A ops q s.heap.length (Ends B K) O (fun D w' v=>by
    obtain⟨n,j,m⟩:=lI f v r
    exact⟨n,j,m⟩) ops.toList 0 _ a w (by simp) G (b.more _)
   grind [List.range_eq_range']
  cases d with
  |true=>
   cases an with
   |draw calm order q t=>
    unfold bu at h
    cases J:vh ops calm order with
    |false=>simp_all
    |true=>
     rw[J] at h
     have E:=pg C ops.toList calm _ _ _ _ h
     obtain⟨O,G,r⟩:=B3.1 E
     refine wp_region_any z.mixed (ad3 z f A J G (b.more _).drew (Ends B K) fun D w' v=> ?_)
     obtain⟨n,j,m⟩:=lI f (f▸v.dz 0 q) r
     exact⟨n,j,m⟩
   |_=>simp[bu] at h
  |false=>
   cases an with
   |leaf t=>
    unfold bu at h
    exact M [] t h
   |kh q t=>
    unfold bu at h
    exact M q t h
   |_=>simp[bu] at h
 | .seq x y,an,s,K,a,w,h,b=>by
  cases an with
  |seq p I=>
   unfold bu at h
   refine wp_seq (wp_mono (nn z f A L x p s _ a w h b) fun e D w' F=> ?_)
   obtain⟨s',r,v⟩:=F
   cases e with
   |normal=>exact nn z f A L y I s' K D w' r v
   |_=>exact⟨s',r,v⟩
  |_=>simp[bu] at h
 | .cond c x y,an,s,K,a,w,h,b=>by
  cases an with
  |cond p I=>
   unfold bu at h
   split at h
   ·rename_i g R
    have U:a.eval c= .bool g:=by
     obtain⟨_,ι,Q⟩:=b
     have e:=oS (bc Q R a.defers)
     exact e
    refine wp_cond U ?_
    cases g with
    |true=>exact nn z f A L x p s _ a w h b
    |false=>exact nn z f A L y I s _ a w h b
   ·cases h
  |_=>simp[bu] at h
 | .block id c,an,s,K,a,w,h,b=>by
  cases an with
  |block p=>
   unfold bu at h
   refine wp_block (wp_mono (nn z f A L c p s _ a w h b) fun e D w' F=> ?_)
   obtain⟨s',r,v⟩:=F
   cases e with
   |exit i=>
    simp only[Exit.inBlock]
    simp only[qS] at r
    split
    ·rename_i hi
     rw[aB hi] at r
     exact⟨s',r,v⟩
    ·rename_i hi
     rw[aG hi] at r
     exact⟨s',r,v⟩
   |_=>exact⟨s',r,v⟩
  |_=>simp[bu] at h
 | .loop c,an,s,K,a,w,h,b=>by
  cases an with
  |loop p=>
   unfold bu at h
   exact wp_loop_rounds L (NR (fun s K a w h b=>nn z f A L c p s K a w h b) L s a w h b)
  |_=>simp[bu] at h
 | .rangeFunc _ _ _ _,an,s,K,a,w,h,b=>by simp[bu] at h
 | .scope _,an,s,K,a,w,h,b=>by simp[bu] at h
 | .label _,an,s,K,a,w,h,b=>by simp[bu] at h
 | .goto _,an,s,K,a,w,h,b=>by simp[bu] at h
 | .refuse _,an,s,K,a,w,h,b=>by simp[bu] at h
end
end Go.Rv
namespace Go.Rv
def hM (T:TT) (s:St):List ResultVar->Option (List AV)
 |[]=>some []
 | .tmp t::r=>match s.env[t]?,hM T s r with
  |some a,some l=>some (a::l)
  |_,_=>none
 | .cell p t::r=>match s.env[p]?,hM T s r with
  |some a,some l=>match a with
   | .ptr h o=>match eQ (ag AV) T s t (.ptr h o) some with
    |some x=>some (x::l)
    |none=>none
   |_=>none
  |_,_=>none
def np (l:List AV):AV:=
 match l with
 |[x]=>x
 |l=> .aW l
def dh (T:TT) (b:List ResultVar) (r:AV) (H:Heap) (e:Exit) (s:St):Prop:=
 (match e with| .ret=>True| .normal=>True|_=>False)/\(∃l,hM T s b=some l/\np l=r)/\s.heap=H
section
variable {P : Program} {B : cl} {T : TT}
def ph (b:Array Value):ResultVar->Sem Value
 | .tmp t=>pure (b.getD t undef)
 | .cell a t=>do loadVar t (<-asAddr (b.getD a undef))
theorem NT (fn:Func) (b:Array Value):results fn b=(do let vs<-fn.results.mapM (ph b);pure (if h:vs.size=1 then vs[0] else .tuple vs)):=by
 unfold results
 congr 1
theorem Dp (n:bS P T) {s:St} {j:Array Value} {w:World} {ι:ba} (f:Inv B s j w ι): ∀(F:List ResultVar) (l:List AV),hM T s F=some l->
  ∃vs:List Value,(F.mapM (ph j)).run P w= .ok vs w/\aC w (dst B.D w ι s.heap) (sumOf ι s.heap) l vs
 |[],l,h=>by simp[hM] at h;subst h;exact⟨[],by simp,rfl⟩
 | .tmp t::r,l,h=>by
  simp only[hM] at h
  split at h
  ·rename_i a A q z
   simp only[eB] at h
   subst h
   obtain⟨vs,G,m⟩:=Dp n f r A z
   obtain⟨v,J,i⟩:=f.env t a q
   have e:j.getD t undef=v:=by simp_all
   refine⟨v::vs,?_,v,vs,rfl,i,m⟩
   simp_all [List.mapM_cons,ph,aE,mM,ei]
  ·cases h
 | .cell p t::r,l,h=>by
  simp only[hM] at h
  split at h
  ·rename_i a A q z
   split at h
   ·rename_i g o
    split at h
    ·rename_i x K
     simp only[eB] at h
     subst h
     obtain⟨vs,G,m⟩:=Dp n f r A z
     obtain⟨v,J,i⟩:=f.env p _ q
     have e:j.getD p undef=v:=by simp_all
     obtain⟨y,u,E,I,L⟩:=MM n f K i
     simp only[eB] at E
     subst E
     obtain⟨R,b,off,c,Q,O,rfl⟩:=i
     refine⟨u::vs,?_,u,vs,rfl,I,m⟩
     have M:(loadVar t ⟨b,off+o,none⟩).run P w= .ok u w:=by grind [Instr.loadAt,Instr.sureAddr,Sem.run_bind]
     simp_all [List.mapM_cons,ph,aE,mM,ei,asAddr]
    ·cases h
   ·cases h
  ·cases h
theorem ad6 (i:bS P T) {fn:Func} {s:St} {e:Array Value} {w:World} {ι:ba} (g:Inv B s e w ι) {l:List AV} (h:hM T s fn.results.toList=some l):
  ∃v,(results fn e).run P w= .ok v w/\ah w (dst B.D w ι s.heap) (sumOf ι s.heap) (np l) v:=by
 obtain⟨vs,f,b⟩:=Dp i g _ l h
 have q:=b.length
 have m:(fn.results.mapM (ph e)).run P w= .ok vs.toArray w:=by
  simp_all [No,Np,aE]
 refine⟨if h:vs.toArray.size=1 then vs.toArray[0] else .tuple vs.toArray,?_,?_⟩
 ·rw[NT,aE,m]
  simp
 ·unfold np
  split
  ·rename_i x
   obtain⟨v,t,rfl,n,p⟩:=b
   simp_all
  ·rename_i r
   have: ¬vs.toArray.size=1:=fun f=>by
    have j:l.length=1:=by simp_all
    match l,j with
    |[x],_=>grind
   rw[dif_neg this]
   exact⟨vs,rfl,b⟩
def start (n:Nat) (avs:List AV) (H:Heap):St:=⟨avs++replicate (n-avs.length) .undef,H⟩
theorem ad7 {C:Ctx} (q:fH P C) {f:FuncId} {fn:Func} {c:Code} (V:P.funcs[f]? =some fn) (z:fn.body=some c) {F:be} (L:Nat) (an:List AV->Heap->bf)
  (h: ∀avs H r j,(F avs H).run=some (r,j)->bu {C with k:=H.length,mv:=(F avs H).mv} L c (an avs H) (start fn.ntmps avs H) (dh C.T fn.results.toList r j)):Sound P f F:=by
 intro avs H r j O D w args ι Z Q X a1 G
 let B:cl:={w0:=w,S0:=aM w ι H,D:=D,mS:=sumOf ι H,k:=H.length,mv:=fun h=>(F avs H).mv.contains h,new:=Z}
 have a3:=G.length
 have R:Inv B (start fn.ntmps avs H) (args.toArray++Array.replicate (fn.ntmps-args.toArray.size) undef) w ι:=by
  refine⟨Kept.refl _ _,Q,fun b z=>z,fun g t=>⟨.inr rfl,a1 g t⟩,fun i a p=> ?_,X⟩
  simp only[start] at p
  by_cases hi:i<avs.length
  ·rw[mQ hi] at p
   obtain⟨v,K,y⟩:=G.get _ _ i a p
   exact⟨v,by grind,y⟩
  ·rw[lh (by omega)] at p
   rw[vA] at p
   split at p
   ·rename_i a4
    cases p
    refine⟨undef,?_,trivial⟩
    grind
   ·cases p
 refine calls_of_wp V z ?_
 have M:fH P {C with k:=H.length,mv:=(F avs H).mv}:=⟨q.types,q.en,q.call,q.mixed⟩
 refine wp_mono (nn (B:=B) M rfl (fun _ h=>h) L c _ _ _ _ w (h avs H r j O) ⟨rfl,ι,R⟩) fun e A w' a2=> ?_
 obtain⟨s',⟨U,⟨l,Y,J⟩,E⟩,hd,m,n⟩:=a2
 obtain⟨v,K,y⟩:=ad6 q.types n Y
 have a0: ∃v m,Ending.returned v= .returned v/\Kept (aM w ι H) w w'/\eO D w' m j/\(∀b,aM w ι H b->aM w' m j b)/\(∀h,h<H.length->((F avs H).mv.contains h=true\/sumOf m j h=sumOf ι H h)/\ ∃x,j[h]? =some (some x))/\ah w' (dst D w' m j) (sumOf m j) r v:=by
  subst E J
  exact⟨v,m,rfl,n.kept,n.am,n.stay,fun g t=>n.io g t,y⟩
 obtain⟨a6,a7,_,a5⟩:=a0
 have I:A.defers=[]/\ ∃v,(results fn A.tmps).run P w'= .ok v w'/\(∃u m,Ending.returned v= .returned u/\Kept (aM w ι H) w w'/\eO D w' m j/\(∀b,aM w ι H b->aM w' m j b)/\
   (∀h,h<H.length->((F avs H).mv.contains h=true\/sumOf m j h=sumOf ι H h)/\ ∃x,j[h]? =some (some x))/\ah w' (dst D w' m j) (sumOf m j) r u):=by
  subst E J
  exact⟨hd,v,K,v,m,rfl,n.kept,n.am,n.stay,fun g t=>n.io g t,y⟩
 cases e with
 |normal=>exact I
 |ret=>exact I
 |_=>exact U.elim
end
end Go.Rv
namespace Go.Rv
def bs:List (TypeId×TI)->TT
 |[],_=>none
 |p::r,t=>if beq p.1 t then some p.2 else bs r t
theorem NU {t:TypeId} {b:TI}: ∀{l:List (TypeId×TI)},bs l t=some b->(t,b)∈l
 |[],h=>by simp[bs] at h
 |p::r,h=>by
  simp only[bs] at h
  split at h
  ·grind [Nat.eq_of_beq_eq_true]
  ·exact bB _ (NU h)
theorem ad8 {P:Program} {l:List (TypeId×TI)} (h: ∀p∈l,ix P p.1 p.2):bS P (bs l):=fun t e b=>h (t,e) (NU b)
def cF:List (FuncId×be)->FuncId->be
 |[],_=>fun _ _=>ad.no
 |p::r,f=>if beq p.1 f then p.2 else cF r f
theorem NV {P:Program}: ∀{l:List (FuncId×be)},(∀p∈l,Sound P p.1 p.2)-> ∀f,Sound P f (cF l f)
 |[],_,f=>fun avs H r i h=>by simp[cF,ad.no,ad.run] at h
 |p::r,b,f=>by
  unfold cF
  split
  ·simp_all
  ·exact NV (fun g e=>b g (bB _ e)) f
theorem NW {P:Program}: ∀{l:List (FuncId×be)},(∀p∈l,kr P p.1)-> ∀f avs H,(cF l f avs H).o.isSome=true->kr P f
 |[],_,f,avs,H,h=>by simp[cF,ad.no] at h
 |p::b,g,f,avs,H,h=>by
  by_cases i:beq p.1 f=true
  ·simp_all
  ·have e:cF (p::b) f=cF b f:=by simp[cF,i]
   rw[e] at h
   exact NW (fun m j=>g m (bB _ j)) f avs H h
theorem ge {P:Program} {types:List (TypeId×TI)} {b:List (FuncId×be)} {io:FuncId->Nat->Bool} {k:Nat} {d:Bool} {m:List Nat} (h:bS P (bs types)) (e: ∀p∈b,Sound P p.1 p.2) (f: ∀p∈b,kr P p.1) (g:P.follows .mixedOrders=true):
  fH P ⟨bs types,cF b,io,k,d,m⟩:=⟨h,NV e,NW f,g⟩
theorem ad.NX {τ:Type} {o:Option τ} {enc:τ->AV×Heap} {mv:List Nat} {r:AV×Heap} (h:(ad.mk τ o enc mv none).run=some r): ∃t,o=some t/\enc t=r:=cv.1 h
def Code.fst:Code->Code
 | .seq a _=>a
 | .cond _ a _=>a
 | .block _ a=>a
 | .loop a=>a
 |c=>c
def Code.snd:Code->Code
 | .seq _ b=>b
 | .cond _ _ b=>b
 |c=>c
def bY (fn:Func):Code:=match fn.body with|some c=>c|none=> .skip
def bf.fst:bf->bf
 | .seq a _=>a
 | .cond a _=>a
 | .block a=>a
 | .loop a=>a
 |a=>a
def bf.snd:bf->bf
 | .seq _ b=>b
 | .cond _ b=>b
 |a=>a
def LL:Nat:=1152921504606846976
def RR:Nat:=100000
def NY:Option TypeInfo->TypeInfo
 |some i=>i
 |none=>default
def fieldsOf:Option TypeDesc->Array Field
 |some (.struct f)=>f
 |_=> #[]
def bU:Nat->Nat->List (Nat×AV)->List AV
 |0,_,_=> []
 |n+1,i,l=>(match l with
  |(j,a)::r=>if beq j i then a::bU n (i+1) r else .undef::bU n (i+1) l
  |[]=> .undef::bU n (i+1) [])
theorem ad9 {b:Type} (g:Bool) (x y:Option b) (K:b->Prop):aK (cond g x y) K=cond g (aK x K) (aK y K):=by grind
structure dr (C:Ctx) (L:Nat) (c:Code) (an:bf) (s:St) {τ:Type} (n:Option τ) (fin:τ->Exit×St):Prop where
 go: ∀K:Exit->St->Prop,aK n (fun x=>K (fin x).1 (fin x).2)->bu C L c an s K
structure bK (C:Ctx) (L:Nat) (c:Code) (an:bf) (s:St) (K:Exit->St->Prop):Prop where
 go:bu C L c an s K
theorem bK.of {C:Ctx} {L:Nat} {c:Code} {an:bf} {s:St} {K:Exit->St->Prop} {X:Prop} (e:X=bu C L c an s K) (h:X):bK C L c an s K:=⟨e▸h⟩
theorem dr.of {C:Ctx} {L:Nat} {c:Code} {an:bf} {s:St} {τ:Type} {n:Option τ} {fin:τ->Exit×St} (h: ∀K:Exit->St->Prop,aK n (fun x=>K (fin x).1 (fin x).2)->bK C L c an s K):dr C L c an s n fin:=
 ⟨fun K b=>(h K b).go⟩
theorem dr.cast {C:Ctx} {L:Nat} {c e:Code} {an b:bf} {s:St} {τ:Type} {n:Option τ} {fin:τ->Exit×St} (g:e=c) (f:b=an) (h:dr C L c an s n fin):dr C L e b s n fin:=by
 simp_all
theorem aea {C:Ctx} {L:Nat} {a b:Code} {x y:bf} {s:St} {τ f:Type} {n:Option τ} {st:τ->St} (g:dr C L a x s n (fun t=>(Exit.normal,st t))) {m:τ->Option f} {e:f->Exit×St}
  (i: ∀t,dr C L b y (st t) (m t) e):dr C L (.seq a b) (.seq x y) s (n.bind m) e:=by
 refine⟨fun K h=> ?_⟩
 rw[oG] at h
 exact g.go _ (mU (fun t j=>(i t).go K j) h)
theorem aeb (f g:St->Prop) (K:Exit->St->Prop):oQ f (oQ g K)=oQ f K:=by
 funext e s
 cases e<;>rfl
def Dq {b:Type} (fin:b->Exit×St):Prop:= ∀e,∀(f:St->Prop) (K:Exit->St->Prop),K (fin e).1 (fin e).2->oQ f K (fin e).1 (fin e).2
theorem aec {C:Ctx} {L:Nat} {a b:Code} {x y:bf} {s:St} {τ i p:Type} {n:Option (τ⊕i)} {st:τ->St} {g:i->Exit×St} (q:dr C L a x s n (Sum.elim (fun t=>(Exit.normal,st t)) g)) {m:τ->Option p} {f:p->Exit×St}
  (r: ∀t,dr C L b y (st t) (m t) f) (j:i->p) (z: ∀e,f (j e)=g e) (v:Dq g):dr C L (.seq a b) (.seq x y) s (n.bind (Sum.elim m (fun e=>some (j e)))) f:=by
 refine⟨fun K h=> ?_⟩
 rw[oG] at h
 refine q.go _ (mU (fun t w=> ?_) h)
 cases t with
 |inl t=>exact(r t).go K w
 |inr e=>
  refine v e _ K ?_
  grind [Eq.mp,ij]
theorem aed {C:Ctx} {L:Nat} {a:Code} {x:bf} {s:St} {τ e:Type} {n:Option τ} {fin:τ->Exit×St} (g:dr C L a x s n fin) (f:τ->e) {b:e->Exit×St} (i: ∀t,b (f t)=fin t):dr C L a x s (n.map f) b:=by
 refine⟨fun K h=> ?_⟩
 grind [B2,dr.go,mU]
theorem aee {C:Ctx} {L:Nat} {c:Operand} {a b:Code} {x y:bf} {s:St} {g:Bool} (i:az s c=some (.aa .bool g)) {τ:Type} {n m:Option τ} {fin:τ->Exit×St} (e:dr C L a x s n fin) (f:dr C L b y s m fin):
  dr C L (.cond c a b) (.cond x y) s (cond g n m) fin:=by
 refine⟨fun K h=> ?_⟩
 grind [bu,dr.go]
theorem aef {C:Ctx} {L:Nat} {id:Nat} {a:Code} {x:bf} {s:St} {τ e:Type} {n:Option τ} {fin:τ->Exit×St} (g:dr C L a x s n fin) (f:τ->e) {b:e->Exit×St}
  (i: ∀t (K:Exit->St->Prop),K (b (f t)).1 (b (f t)).2->qS id K (fin t).1 (fin t).2):dr C L (.block id a) (.block x) s (n.map f) b:=by
 refine⟨fun K h=> ?_⟩
 rw[B2] at h
 exact g.go _ (mU (fun t j=>i t K j) h)
def ai {σ b:Type} (body:σ->Option (σ⊕b)):Nat->σ->Option b
 |0,_=>none
 |n+1,s=>(body s).bind fun r=>match r with
  | .inl s'=>ai body n s'
  | .inr o=>some o
theorem aeg {C:Ctx} {L:Nat} {a:Code} {x:bf} {σ e:Type} {body:σ->Option (σ⊕e)} {mk:σ->St} {fin:e->Exit×St} (g:Dq fin)
  (f: ∀s,dr C L a x (mk s) (body s) (Sum.elim (fun s'=>(Exit.normal,mk s')) (fun o=>fin o))) (s:σ):dr C L (.loop a) (.loop x) (mk s) (ai body L s) fin:=by
 refine⟨fun K h=> ?_⟩
 unfold bu
 suffices H: ∀n s,aK (ai body n s) (fun x=>K (fin x).1 (fin x).2)->vi (fun s K=>bu C L a x s K) n (mk s) K from H L s h
 intro n
 induction n with
 |zero=>intro s h;exact(Eq.mp (ll _) h).elim
 |succ n i=>
  intro s h
  simp only[ai,oG] at h
  refine(f s).go _ (mU (fun r b=> ?_) h)
  cases r with
  |inl s'=>exact i s' b
  |inr o=>exact g o _ _ (Eq.mp (ij o (fun x=>K (fin x).1 (fin x).2)) b)
theorem bK.cast {C b:Ctx} {L:Nat} {c:Code} {an:bf} {s s':St} {K e:Exit->St->Prop} (f:b=C) (g:s'=s) (i:e=K) (h:bK C L c an s K):bK b L c an s' e:=by
 simp_all
def Dr:Exit->Bool
 | .normal=>true
 | .ret=>true
 |_=>false
theorem aeh {T:TT} {f:List ResultVar} {r:AV} {b:Heap} {e:Exit} {s:St} (l:List AV) (j:Dr e=true) (g:hM T s f=some l) (h:np l=r) (i:s.heap=b):dh T f r b e s:=by
 refine⟨?_,⟨l,g,h⟩,i⟩
 grind [absurd,Dr]
theorem rq {C:Ctx} {L:Nat} {c:Code} {an:bf} {s:St} {τ b:Type} {n:Option τ} {fin:τ->Exit×St} (h:dr C L c an s n fin) {o:Option b} {enc:b->AV×Heap} (f:τ->b) (i:o=n.map f) {T:TT} {g:List ResultVar}
  (q: ∀t,dh T g (enc (f t)).1 (enc (f t)).2 (fin t).1 (fin t).2) {r:AV} {e:Heap} {mv:List Nat} (j:(ad.mk b o enc mv none).run=some (r,e)):bK C L c an s (dh T g r e):=by
 obtain⟨u,m,p⟩:=ad.NX j
 subst i
 obtain⟨t,v,rfl⟩:=cv.1 m
 refine⟨h.go _ ?_⟩
 grind [ij]
theorem gf {C:Ctx} {L:Nat} {c:Code} {an:bf} {s:St} {τ:Type} {n:Option τ} {fin:τ->Exit×St} (h:dr C L c an s n fin) {o:Option τ} {enc:τ->AV×Heap} (f:o=n) {T:TT} {e:List ResultVar}
  (g: ∀t,dh T e (enc t).1 (enc t).2 (fin t).1 (fin t).2) {r:AV} {b:Heap} {mv:List Nat} (i:(ad.mk τ o enc mv none).run=some (r,b)):bK C L c an s (dh T e r b):=
 rq h id (by rw[f];simp) g i
theorem gg {P:Program} {C:Ctx} (e:fH P C) {f:FuncId} {fn:Func} {c:Code} (j:P.funcs[f]? =some fn) (i:fn.body=some c) {F:be} (L:Nat) (an:bf)
  (h: ∀avs H r b,(F avs H).run=some (r,b)->bK {C with k:=H.length,mv:=(F avs H).mv} L c an (start fn.ntmps avs H) (dh C.T fn.results.toList r b)):Sound P f F:=
 ad7 e j i L (fun _ _=>an) (fun avs H r b g=>(h avs H r b g).go)
def rr (xs:List Int) (i:Int) (vs:List Int):Option (List Int):=
 match vs with
 |[]=>none
 |v::r=>(inc i (List.length xs)).bind fun k=>(room (List.length xs+List.length (v::r))).bind fun _=>some (xs.take k++(v::r)++xs.drop k)
end Go.Rv
namespace Go.Rv
def kx (s t:ByteArray):Option Int:=match t.data.toList with|[c]=>some (Lib.indexByte s.data.toList c)|_=>none
def Ds (n:Int):Option ByteArray:=if 0<=n/\n<100 then some ⟨(Lib.decDigits n.toNat).toArray⟩ else none
def ed (s:ByteArray):Int×Bool:=
 match Lib.atoiAll s.data.toList with
 | .ok v=>(v,false)
 | .range=>(Lib.atoiSat s.data.toList,true)
 |_=>(0,true)
def rt (s:ByteArray):Option (Int×Bool):=if s.size<=281474976710656 then some (ed s) else none
def pi {b:Type} (xs:List b):Option (List b):=if xs.length<=1099511627776 then some xs else none
def NZ {b:Type} (f:b->Option ByteArray):List b->ByteArray->Option ByteArray
 |[],acc=>some acc
 |d::r,acc=>(f d).bind fun s=>if s=empty then some empty else if s.size+1<=1000000/\acc.size+(s.size+1)<=140737488355328 then NZ f r (acc++(s++ByteArray.mk #[10])) else none
def aps {b:Type} (f:b->Option ByteArray) (xs:List b):Option ByteArray:=if xs.length<=1099511627776 then NZ f xs empty else none
def pj (n:Int):Option ByteArray:=if-9223372036854775808<=n/\n<=9223372036854775807 then some ⟨(itoa n).toArray⟩ else none
def vZ (xs:List ByteArray) (sep:ByteArray):Option ByteArray:=
 if xs.length<=1000000/\(join (xs.map (·.data.toList)) sep.data.toList).length<=100000000 then some ⟨(join (xs.map (·.data.toList)) sep.data.toList).toArray⟩ else none
end Go.Rv
namespace Go.Rv
section
variable {P : Program}
def pk (P:Program) (Q:Exit->Act->World->Prop):List Oper->Act->World->Prop
 |[],a,w=>Q .normal a w
 |o::r,a,w=>o.guard=none/\o.wp P a w (fun b w'=>pk P Q r b w') Q
theorem N0 (ops:Array Oper) (Q:Exit->Act->World->Prop): ∀(r:List Oper) (i:Nat) (a:Act) (w:World),(∀j,r[j]? =ops[i+j]?)->pk P Q r a w->wpOps P ops Q (range' i r.length) a w
 |[],i,a,w,_,h=>h
 |o::r,i,a,w,b,h=>by
  have f:ops[i]? =some o:=by simpa using(b 0).symm
  have g: ∀j,r[j]? =ops[i+1+j]? :=fun j=>by
   have:=b (j+1)
   grind
  simp only[ck,CZ]
  rw[wpOps_cons]
  unfold wpOp
  simp only[f]
  simp only[wanted,h.1,cU]
  exact .inl (Oper.wp_mono (fun e w' h'=>N0 ops Q r (i+1) e w' g h') h.2)
theorem N1 {id:Nat} {ops:Array Oper} {Q:Exit->Act->World->Prop} {a:Act} {w:World} (h:pk P Q ops.toList a w):(Code.region id ops false).wp P Q a w:=by
 refine wp_region ?_
 have:=N0 ops Q ops.toList 0 a w (by simp) h
 grind [List.range_eq_range']
def v6:Value->Value->Bool
 | .int i n,.int j m=>i==j&&n !=m
 | .string x,.string y=> !(x==y)
 |_,_=>false
def Dt (k:Value) (l:List (Value×Go.Fn)):Bool:=l.all fun p=>v6 k p.1
def pm:TypeDesc->Value->Bool
 | .int _,.int _ _=>true
 | .string,.string _=>true
 |_,_=>false
def cV (w:World) (b:Array MapEntry) (c:Nat):World:={w with heap:=w.heap.push (.map b c)}
theorem aei {d:TypeDesc} {k c:Value} (hd:pm d k=true) (h:v6 k c=true):sameNow d k c=some false:=by
 cases k<;>first|(cases d<;>cases hd;done)|skip
 case int i n=>
  cases d<;>first|(cases hd;done)|skip
  cases c<;>first|(cases h;done)|skip
  grind [v6,sameNow]
 case string x=>
  cases d<;>first|(cases hd;done)|skip
  cases c<;>first|(cases h;done)|skip
  grind [v6,Bool.not_eq_true',sameNow]
theorem Du {d:TypeDesc} {k:Value} (hd:pm d k=true): ∀(h:List (Value×Go.Fn)) (b:List MapEntry) (i:Nat),Dt k h=true->b.map (fun e=>(e.key,e.val))=h.map (fun p=>(p.1,Value.func p.2 #[] #[]))->
  findNow d k b i=some none
 |[],b,i,_,g=>by
  have:b=[]:=by simpa using g
  subst this
  rfl
 |(c,f)::h,b,i,j,g=>by
  cases b with
  |nil=>simp at g
  |cons e b=>
   simp only[dM,lE,gI] at g
   obtain⟨⟨q,r⟩,m⟩:=g
   simp only[Dt,mO,aT] at j
   obtain⟨t,n⟩:=j
   have v:=Du hd h b (i+1) n m
   grind [findNow,aei]
theorem N2 {w:World} {mt kt et:TypeId} {d:TypeDesc} (n:P.underlying mt=some (.map kt et)) (g:P.underlying kt=some d) {k x:Value} (hd:pm d k=true) {b:Array MapEntry} {c:Nat}
  (i:findNow d k b.toList 0=some none):(mapUpdate mt (.map (some w.heap.size)) k x).run P (cV w b c)= .ok () (cV w (b.push ⟨k,x,c⟩) (c+1)):=by
 have f:(cV w b c).heap[w.heap.size]? =some (.map b c):=by
  show(w.heap.push (.map b c))[w.heap.size]? =_
  simp
 have m: ∀y,(w.heap.push (.map b c)).setIfInBounds w.heap.size y=w.heap.push y:=fun y=>by
  grind
 have j:(getObj w.heap.size).run P (cV w b c)= .ok (.map b c) (cV w b c):=by simp[getObj,Sem.run,f]
 have h: ∀e:Bool,(checkKey e 10000 kt k).run P (cV w b c)= .ok () (cV w b c):=fun e=>by
  unfold checkKey
  simp only[aE,bi g,ei]
  unfold pm at hd
  split at hd<;>first|rfl|cases hd
 simp_all [setObj,Array.push,cV,Sem.run,mapUpdate,aE,bi,Instr.findKey]
def v7 (mt:TypeId) (t:Tmp) (o:Oper):Option (Value×Go.Fn):=
 match o.op,o.dst,o.guard with
 | .insert b (.tmp e) (.const k) (.func f),none,none=>if b=mt/\e=t then some (k,.func f) else none
 |_,_,_=>none
theorem aej {mt:TypeId} {t:Tmp} {o:Oper} {p:Value×Go.Fn} (h:v7 mt t o=some p): ∃f,p.2= .func f/\o.op= .insert mt (.tmp t) (.const p.1) (.func f)/\o.dst=none/\o.guard=none:=by
 grind [v7]
def v8 (mt:TypeId) (t:Tmp) (o b:Oper):Option (Value×Go.Fn):=
 match o.op,o.dst,o.guard,b.op,b.dst,b.guard with
 | .makeFunc g x y,some t2,none,.insert e (.tmp f) (.const k) (.tmp h),none,none=>if e=mt/\f=t/\h=t2/\t2≠t/\x.toList=[]/\y.toList=[] then some (k,g) else none
 |_,_,_,_,_,_=>none
theorem aek {mt:TypeId} {t:Tmp} {o b:Oper} {p:Value×Go.Fn} (h:v8 mt t o b=some p):
  ∃t2,o.op= .makeFunc p.2 #[] #[]/\o.dst=some t2/\o.guard=none/\t2≠t/\b.op= .insert mt (.tmp t) (.const p.1) (.tmp t2)/\b.dst=none/\b.guard=none:=by
 unfold v8 at h
 split at h
 ·rename_i g x y t2 z A k D f i j m n q
  split at h
  ·rename_i e
   obtain⟨rfl,rfl,rfl,r,v,w⟩:=e
   cases h
   simp_all
  ·cases h
 ·cases h
def dH (mt:TypeId) (n:Nat) (t:Tmp):List Oper->List (Value×Go.Fn)×List Oper
 |[]=>([],[])
 |o::r=>match v7 mt t o with
  |some p=>((p::(dH mt n t r).1),(dH mt n t r).2)
  |none=>match r with
   |[]=>([],o::r)
   |e::b=>match v8 mt t o e,o.dst with
    |some p,some t2=>cond (blt t2 n) ((p::(dH mt n t b).1),(dH mt n t b).2) ([],o::r)
    |_,_=>([],o::r)
def ru:List (Value×Go.Fn)->List (Value×Go.Fn)->Bool
 |_,[]=>true
 |pre,p::r=>Dt p.1 pre&&ru (pre++ [p]) r
theorem Dv {Q:Exit->Act->World->Prop} {mt kt et:TypeId} {d:TypeDesc} (F:P.underlying mt=some (.map kt et)) (E:P.underlying kt=some d) {t:Tmp} {w:World} {n:Nat}:
  ∀(m:Nat) (l:List Oper) (j:List (Value×Go.Fn)) (g:Array MapEntry) (c:Nat) (a:Act),l.length<=m->a.tmps.size=n->a.tmps[t]? =some (.map (some w.heap.size))->g.toList.map (fun e=>(e.key,e.val))=j.map (fun p=>(p.1,Value.func p.2 #[] #[]))->
   ru j (dH mt n t l).1=true->(dH mt n t l).1.all (fun p=>pm d p.1)=true->
   (∀z A q,q.tmps.size=n->q.tmps[t]? =some (.map (some w.heap.size))->q.defers=a.defers->z.toList.map (fun e=>(e.key,e.val))=(j++(dH mt n t l).1).map (fun p=>(p.1,Value.func p.2 #[] #[]))->pk P Q (dH mt n t l).2 q (cV w z A))->
   pk P Q l a (cV w g c)
 |_,[],j,g,c,a,_,Z,L,D,_,_,v=>by
  grind [dH]
 |0,o::r,_,_,_,_,y,_,_,_,_,_,_=>by simp at y
 |m+1,o::r,j,g,c,a,y,Z,L,D,i,h,v=>by
  simp only[ck] at y
  have b0:a.eval (.tmp t)= .map (some w.heap.size):=by simp[eval,mL,L]
  cases hi:v7 mt t o with
  |some p=>
   have e:dH mt n t (o::r)=((p::(dH mt n t r).1),(dH mt n t r).2):=by grind [dH.eq_def]
   rw[e] at v i h
   obtain⟨f,b5,V,J,K⟩:=aej hi
   simp only[ru,aT,mO] at i h
   refine⟨K,?_⟩
   have a8:=N2 (P:=P) (w:=w) (c:=c) (x:= .func p.2 #[] #[]) F E h.1 (Du h.1 j g.toList 0 i.1 D)
   unfold wp
   have M:(execOp a.eval o).run P (cV w g c)= .ok .skip (cV w (g.push ⟨p.1,.func p.2 #[] #[],c⟩) (c+1)):=by
    simp_all [execOp,eval,aE]
   rw[M,CC,J]
   have O:a.put none undef=a:=rfl
   rw[O]
   refine Dv F E m r (j++ [p]) _ (c+1) a (by omega) Z L ?_ i.2 h.2 (fun z A q s' U I h'=>v z A q s' U I (by grind))
   simp[D]
  |none=>
   have skip (e:dH mt n t (o::r)=([],o::r)):pk P Q (o::r) a (cV w g c):=by
    simp_all
   match r,y,i,h,v,skip with
   |[],y,i,h,v,skip=>grind [dH.eq_def]
   |R::G,y,i,h,v,skip=>
    simp only[ck] at y
    cases a6:v8 mt t o R with
    |none=>grind [dH.eq_def]
    |some p=>
     obtain⟨t2,V,J,K,b4,a0,a1,a2⟩:=aek a6
     cases b3:blt t2 n with
     |false=>grind [dH.eq_def]
     |true=>
      have e:dH mt n t (o::R::G)=((p::(dH mt n t G).1),(dH mt n t G).2):=by grind [dH.eq_def]
      have a7:t2<a.tmps.size:=by simp_all
      rw[e] at v i h
      simp only[ru,aT,mO] at i h
      refine⟨K,?_⟩
      unfold wp
      have a5:(execOp a.eval o).run P (cV w g c)= .ok (.value (.func p.2 #[] #[])) (cV w g c):=by
       simp[execOp,V,Instr.makeFunc]
      rw[a5,pb,J]
      generalize X:a.put (some t2) (.func p.2 #[] #[])=b
      have a3:b.tmps.size=n:=by grind [Act.put]
      have Y:b.tmps[t]? =some (.map (some w.heap.size)):=by
       grind [Act.put]
      have a4:b.defers=a.defers:=by rw[<-X];rfl
      have a9:b.eval (.tmp t2)= .func p.2 #[] #[]:=by
       rw[<-X]
       simp[eval,Act.put,mL,a7]
      have b1:b.eval (.tmp t)= .map (some w.heap.size):=by simp[eval,mL,Y]
      refine⟨a2,?_⟩
      have a8:=N2 (P:=P) (w:=w) (c:=c) (x:= .func p.2 #[] #[]) F E h.1 (Du h.1 j g.toList 0 i.1 D)
      unfold wp
      have M:(execOp b.eval R).run P (cV w g c)= .ok .skip (cV w (g.push ⟨p.1,.func p.2 #[] #[],c⟩) (c+1)):=by
       simp only[execOp,a0]
       have b2:b.eval (.const p.1)=p.1:=rfl
       simp_all
      rw[M,CC,a1]
      have O:b.put none undef=b:=rfl
      rw[O]
      refine Dv F E m G (j++ [p]) _ (c+1) b (by omega) a3 Y ?_ i.2 h.2 (fun z A q s' U I h'=>v z A q s' U (I.trans a4) (by grind))
      simp[D]
def Dw (fn:Func):Option (TypeId×List (Value×Go.Fn)):=
 match fn.body,fn.results.toList with
 |some (.seq (.region _ a false) (.seq (.region _ b false) .ret)),[.tmp d]=>match a.toList,b.toList with
  |[f],g::h=>match f.op,f.dst,f.guard,g.op,g.dst,g.guard with
   | .assign (.const _),some j,none,.makeMap mt none,some t,none=>match(dH mt fn.ntmps t h).2 with
    |[mv,e]=>match mv.op,mv.dst,mv.guard,e.op,e.dst,e.guard with
     | .move (.tmp m),some t2,none,.assign (.tmp n),some i,none=>
      if m=t/\n=t2/\i=d/\j<fn.ntmps/\t<fn.ntmps/\t2<fn.ntmps/\d<fn.ntmps then some (mt,(dH mt fn.ntmps t h).1) else none
     |_,_,_,_,_,_=>none
    |_=>none
   |_,_,_,_,_,_=>none
  |_,_=>none
 |_,_=>none
def rv (b:List (Value×Go.Fn)):be:=fun avs H=>
 match avs,H with
 |[],[]=>⟨Unit,some (),fun _=>(.gw b,[]),[],none⟩
 |_,_=>ad.no
theorem ael {fn:Func} {mt:TypeId} {m:List (Value×Go.Fn)} (h:Dw fn=some (mt,m)):
  ∃(n p:Nat) (a b:Array Oper) (f g mv e:Oper) (i:List Oper) (q:Value) (j t t2 d:Tmp),fn.body=some (.seq (.region n a false) (.seq (.region p b false) .ret))/\fn.results.toList=[.tmp d]/\a.toList=[f]/\b.toList=g::i/\
   f.op= .assign (.const q)/\f.dst=some j/\f.guard=none/\g.op= .makeMap mt none/\g.dst=some t/\g.guard=none/\dH mt fn.ntmps t i=(m,[mv,e])/\mv.op= .move (.tmp t)/\mv.dst=some t2/\mv.guard=none/\
   e.op= .assign (.tmp t2)/\e.dst=some d/\e.guard=none/\t<fn.ntmps/\t2<fn.ntmps/\d<fn.ntmps:=by
 unfold Dw at h
 split at h
 ·rename_i n a p b d L O
  split at h
  ·rename_i f g i K M
   split at h
   ·rename_i q j R t D E F G I J
    split at h
    ·rename_i mv e Q
     split at h
     ·rename_i U t2 V r v w x y z A
      split at h
      all_goals grind
     ·cases h
    ·cases h
   ·cases h
  ·cases h
 ·cases h
theorem Dx {f:FuncId} {fn:Func} {mt kt et:TypeId} {d:TypeDesc} {q:List (Value×Go.Fn)} (b2:P.funcs[f]? =some fn) (h:Dw fn=some (mt,q)) (I:P.underlying mt=some (.map kt et)) (b3:P.underlying kt=some d)
  (d4:ru [] q=true) (d2:q.all (fun p=>pm d p.1)=true):Sound P f (rv q):=by
 obtain⟨e8,e9,a,b,U,c3,mv,Y,V,X,c9,t,t2,L,j,d7,a9,b0,a4,d0,a5,a6,a7,a8,c0,Z,M,a0,a1,a2,a3,c6,c7,c8⟩:=ael h
 intro avs H r c5 y D w args ι b6 d1 d5 d6 F
 unfold rv at y⊢
 split at y
 ·simp only[ad.run,ad.dec,bn,eB,gI] at y
  obtain⟨rfl,rfl⟩:=y
  have F:args=[]:=F
  subst F
  have A: ∀(ι:ba) (g b:Nat),¬aP ι [] g b:=fun ι g b o=>by
   grind [aP.row]
  refine calls_of_wp b2 j ?_
  have G: ∀{x:Act} {u:Tmp} {v:Value},u<x.tmps.size->(x.put (some u) v).tmps[u]? =some v/\(x.put (some u) v).tmps.size=x.tmps.size:=fun {x u v} I=>by
   simp[Act.put,I]
  have d3: ∀(x:Act) (u:Option Tmp) (v:Value),(x.put u v).defers=x.defers:=fun x u v=>by cases u<;>rfl
  have d9: ∀(x:Act) (u:Option Tmp) (v:Value),(x.put u v).tmps.size=x.tmps.size:=fun x u v=>by cases u<;>simp[Act.put]
  let c4:Exit->Act->World->Prop:=fun e x w'=>e= .ret/\x.defers=[]/\ ∃i c,w'=cV w i c/\x.tmps[L]? =some (.map (some w.heap.size))/\i.toList.map (fun e=>(e.key,e.val))=q.map (fun p=>(p.1,Value.func p.2 #[] #[]))
  refine wp_mono (Q:=c4) (wp_seq ?_) fun e x w' b9=> ?_
  ·refine N1 ?_
   rw[a9]
   refine⟨a5,?_⟩
   unfold wp
   have b1: ∀(x:Act) (w:World),(execOp x.eval U).run P w= .ok (.value X) w:=fun x w=>by
    simp[execOp,a4,eval]
   rw[b1,pb]
   show Code.wp P _ _ _ _
   refine wp_seq (N1 ?_)
   rw[b0]
   refine⟨a8,?_⟩
   unfold wp
   generalize e2:Act.put _ U.dst X=E
   have e3:E.defers=[]:=by grind
   have c1:E.tmps.size=fn.ntmps:=by grind
   have b4:(execOp E.eval c3).run P w= .ok (.value (.map (some w.heap.size))) (cV w #[] 0):=by
    simp[execOp,a6,Instr.makeMap,newObj,aE,Sem.run,cV]
   rw[b4,pb,a7]
   have O:=G (x:=E) (u:=t) (v:= .map (some w.heap.size)) (by simp_all)
   refine Dv I b3 V.length V [] #[] 0 _ (aS _) (O.2.trans c1) O.1 rfl (by simp_all) (by grind) fun i c J e5 e6 e4 z=> ?_
   rw[c0] at z⊢
   refine⟨a0,?_⟩
   unfold wp
   have b5:(execOp J.eval mv).run P (cV w i c)= .ok (.value (.map (some w.heap.size))) (cV w i c):=by
    simp_all [eval,mL,execOp]
   rw[b5,pb,M]
   refine⟨a3,?_⟩
   unfold wp
   have R:=G (x:=J) (u:=t2) (v:= .map (some w.heap.size)) (by simp_all)
   generalize e7:J.put (some t2) (.map (some w.heap.size))=K at R
   have has:(execOp K.eval Y).run P (cV w i c)= .ok (.value (.map (some w.heap.size))) (cV w i c):=by
    have:K.eval (.tmp t2)= .map (some w.heap.size):=by simp[eval,mL,R.1]
    simp[execOp,a1,this]
   rw[has,pb,a2]
   have c2:=G (x:=K) (u:=L) (v:= .map (some w.heap.size)) (by simp_all)
   refine wp_ret ⟨rfl,?_,i,c,rfl,c2.1,z⟩
   grind
  ·obtain⟨rfl,hd,i,c,rfl,e0,z⟩:=b9
   have b8: ∀b,b<w.heap.size->(cV w i c).heap[b]? =w.heap[b]? :=fun b j=>by
    show(w.heap.push _)[b]? =_
    grind
   have b7:(cV w i c).heap[w.heap.size]? =some (.map i c):=by
    show(w.heap.push (.map i c))[w.heap.size]? =_
    simp
   have d8:(cV w i c).heap.size=w.heap.size+1:=by
    show(w.heap.push (.map i c)).size=_
    simp
   refine⟨hd,.map (some w.heap.size),?_,?_⟩
   ·simp_all [ph,cV,No,Np,undef,mL,aE,NT]
   ·refine⟨_,ι,rfl,⟨rfl,rfl,rfl,by omega,fun b j=>b8 b j.1,fun x e1=> ?_⟩,⟨fun g r n=>by simp at n,fun Z M b o _=>absurd o (A _ _ _),fun g b o=>absurd o (A _ _ _),fun g t xss m cs n=>by simp at n⟩,fun b j=>⟨by have:=j.1;omega,fun g=>A _ _ _⟩,fun g n=>absurd n (by simp),?_⟩
    ·grind [frozen?]
    ·exact⟨w.heap.size,i,c,rfl,⟨b6 _ (aS _),by omega,fun g=>A _ _ _⟩,by omega,b7,z⟩
 grind [ad.no,ad.run]
def N3 (a:AV):AV:=cond a.cm .undef a
def pn:Row->Row
 | .box cs=> .box (cs.map N3)
 |r=>r
def hN (H:Heap):Heap:=H.map (Option.map pn)
def wa (q:AV×Heap):AV×Heap:=(q.1,hN q.2)
def rx (F:be):be:=fun avs H=>⟨(F avs H).τ,(F avs H).o,fun x=>wa ((F avs H).enc x),(F avs H).mv,(F avs H).alt.map fun p=>(p.1,fun x=>wa (p.2 x))⟩
def N4 (i g:Nat) (avs:List AV):Bool:=match avs[i]? with|some (.fn h _ _)=>beq h g|_=>false
def ry (i g:Nat) (F G:be):be:=fun avs H=>cond (N4 i g avs) (F avs H) (G avs H)
theorem Sound.pick {P:Program} {f:FuncId} {F b:be} (j:Sound P f F) (m:Sound P f b) (i g:Nat):Sound P f (ry i g F b):=by
 intro avs H
 cases h:N4 i g avs with
 |true=>
  have e:ry i g F b avs H=F avs H:=by simp[ry,h]
  rw[e]
  exact j avs H
 |false=>
  have e:ry i g F b avs H=b avs H:=by simp[ry,h]
  rw[e]
  exact m avs H
theorem aem (F:be) (avs:List AV) (H:Heap) (x:(F avs H).τ):(rx F avs H).dec x=wa ((F avs H).dec x):=by
 unfold rx ad.dec
 grind
theorem aen {F:be} {avs:List AV} {H:Heap} {r:AV} {b:Heap} (h:(rx F avs H).run=some (r,b)): ∃f,(F avs H).run=some (r,f)/\b=hN f:=by
 have g:(F avs H).o.map (fun x=>wa ((F avs H).dec x))=some (r,b):=by
  rw[<-h]
  unfold ad.run
  congr 1
  grind [aem]
 obtain⟨x,j,e⟩:=cv.1 g
 cases i:(F avs H).dec x with
 |mk m f=>
  rw[i] at e
  cases e
  grind [ad.run]
theorem wb {H:Heap} {h:Nat} {r:Row} (e:(hN H)[h]? =some (some r)): ∃b,H[h]? =some (some b)/\r=pn b:=by
 unfold hN at e
 rw[ek] at e
 cases f:H[h]? with
 |none=>simp_all
 |some x=>
  cases x<;>simp_all
theorem wc {H:Heap} {h:Nat} {r:Row} (e:H[h]? =some (some r)):(hN H)[h]? =some (some (pn r)):=by
 grind [hN]
theorem N5 {r:Row} {t:Ty} {xss:List (List t.den)} {m:Nat} {cs:List AV} (e:pn r= .nest t xss m cs):r= .nest t xss m cs:=by
 cases r<;>first|exact e|cases e
theorem wd (ι:ba) (H:Heap):sumOf ι (hN H)=sumOf ι H:=by
 funext h
 unfold sumOf
 cases b:H[h]? with
 |none=>grind [hN]
 |some x=>
  cases x with
  |none=>grind [hN]
  |some r=>
   rw[wc b]
   cases r<;>simp[pn,Row.cells,Row.len]
theorem we {ι:ba} {H:Heap} {h b:Nat}:aP ι (hN H) h b↔aP ι H h b:=by
 constructor
 ·intro o
  cases o with
  |out r p g f e=>
   obtain⟨n,j,_⟩:=wb g
   exact .out n p j f e
  |aw t xss m cs i p g hi f e=>
   obtain⟨n,j,q⟩:=wb g
   rw[N5 q.symm] at j
   exact .aw t xss m cs i p j hi f e
 ·intro o
  cases o with
  |out r p g f e=>exact .out _ p (wc g) f e
  |aw t xss m cs i p g hi f e=>exact .aw t xss m cs i p (wc g) hi f e
theorem N6 {w:World} {ι:ba} {H:Heap} {b:Nat}:aM w ι (hN H) b↔aM w ι H b:=by
 simp_all [aM,we]
theorem Dy (D:Nat->Prop) (w:World) (ι:ba) (H:Heap):dst D w ι (hN H)=dst D w ι H:=by
 grind [dst,N6]
theorem aeo {w:World} {S:Nat->Prop} {σ:Nat->Option Sum} {p:Option (Nat×Nat×Nat)} {r:Row} (h:bG w S σ p r):bG w S σ p (pn r):=by
 cases r with
 |seq t xs=>exact h
 |nest t xss m cs=>exact h
 |box cs=>
  obtain⟨b,o,c,n,e,q,x,y⟩:=h
  refine⟨b,o,c,n,e,q,x,fun j a f=> ?_⟩
  rw[ek] at f
  cases i:cs[j]? with
  |none=>simp_all
  |some g=>
   rw[i] at f
   cases f
   obtain⟨v,D,z,A⟩:=y j g i
   refine⟨v,D,z,?_⟩
   unfold N3
   cases g.cm with
   |true=>exact trivial
   |false=>exact A
theorem Sound.forget {f:FuncId} {F:be} (I:Sound P f F):Sound P f (rx F):=by
 intro avs H r a2 h D w args ι Q J M U K
 obtain⟨q,E,rfl⟩:=aen h
 refine(I avs H r q E D w args ι Q J M U K).mono fun e w' R=> ?_
 obtain⟨v,a1,rfl,O,j,V,X,a3⟩:=R
 refine⟨v,a1,rfl,O,⟨fun g x i=> ?_,fun z A b Z a0=>j.one z A b (we.1 Z) (we.1 a0),fun g b o=>j.has g b (we.1 o),fun g t xss m cs i=> ?_⟩,fun b L=>N6.2 (V b L),fun g i=> ?_,?_⟩
 ·obtain⟨p,n,rfl⟩:=wb i
  rw[Dy,wd]
  exact aeo (j.rows g p n)
 ·obtain⟨p,n,y⟩:=wb i
  rw[N5 y.symm] at n
  rw[Dy,wd]
  exact j.nest g t xss m cs n
 ·obtain⟨G,x,Y⟩:=X g i
  rw[wd]
  exact⟨G,_,wc Y⟩
 grind [Dy,wd]
end
end Go.Rv
universe u
namespace Go.Rv
abbrev dI (x:Int):AV:= .aa (.int .i64) x
abbrev dU (x:Int):AV:= .aa (.int .u8) x
abbrev dW (x:Int):AV:= .aa (.int .u64) x
abbrev dB (x:Bool):AV:= .aa .bool x
abbrev dS (x:ByteArray):AV:= .aa .str x
abbrev dL (x:List Int):AV:= .aa (.list (.int .i64)) x
abbrev dV (x:List Int):AV:= .aa (.list (.int .u8)) x
abbrev sI (x:List Int):Row:= .seq (.int .i64) x
abbrev sU (x:List Int):Row:= .seq (.int .u8) x
theorem aY {b:Type u} {p:b->Prop} {a:b} {l:List b} (h:p a) (t: ∀x∈l,p x): ∀x∈a::l,p x:=List.forall_mem_cons.2 ⟨h,t⟩
theorem cQ {b:Type u} {p:b->Prop}: ∀x∈([]:List b),p x:=fun x h=>by cases h
end Go.Rv
namespace Go.Rv
def lJ (N:Nat) (p:List (Nat×AV)×Heap):St:=⟨bU N 0 p.1,p.2⟩
theorem bm {g β:Type} {p:g⊕β->Prop} (e: ∀a,p (.inl a)) (f: ∀b,p (.inr b)): ∀t,p t
 | .inl a=>e a
 | .inr b=>f b
theorem ae:(∀{b β:Type} (o:Option b) (f:b->Option β) (K:β->Prop),aK (o.bind f) K=aK o (fun a=>aK (f a) K))/\(∀{b:Type} (g:Bool) (x y:Option b) (K:b->Prop),aK (cond g x y) K=cond g (aK x K) (aK y K))/\
  (∀{b β:Type} (o:Option b) (f:b->β) (K:β->Prop),aK (o.map f) K=aK o (fun a=>K (f a)))/\(∀{b:Type} (a:b) (K:b->Prop),aK (some a) K=K a)/\ ∀{b:Type} (K:b->Prop),aK none K=False:=⟨oG,ad9,B2,ij,ll⟩
inductive LO where
 |t (l:List hf)
 |k (l:List Nat)
 |p (l:List Nat)
 |d (calm order:List Nat)
def Dz (l:List Nat):Nat:=l.foldr (fun i m=>lor (Nat.shiftLeft 1 i) m) 0
def DA (m i:Nat):Nat:=Nat.sub m (land m (Nat.shiftLeft 1 i))
def wg (m:Nat):Nat->Nat->List Nat
 |0,_=> []
 |n+1,i=>cond (beq (land (Nat.shiftRight m i) 1) 1) (i::wg m n (i+1)) (wg m n (i+1))
def wh:List Operand->List Nat
 |[]=> []
 | .tmp t::r=>t::wh r
 |_::r=>wh r
def aep (ops:Array Oper) (j:Nat):List Nat:=match ops[j]? with|some o=>(match o.dst with|some d=> [d]|none=> [])|none=> []
def aeq (ops:Array Oper) (o:Oper) (m:Nat):Nat:=
 lor (Dz (wh o.op.operands.toList++(match o.guard with|some (j,_)=>aep ops j|none=> []))) (match o.dst with|some d=>DA m d|none=>m)
def wi:List ResultVar->List Nat
 |[]=> []
 | .tmp t::r=>t::wi r
 | .cell p _::r=>p::wi r
def DB:List (Nat×Nat)->Nat->Nat
 |[],_=>0
 |p::r,i=>cond (beq p.1 i) p.2 (DB r i)
def DC (f:Nat->Nat):Nat->Nat->Nat
 |0,m=>m
 |n+1,m=>cond (beq (lor m (f m)) m) m (DC f n (lor m (f m)))
def lK (R:Nat):Code->Nat->List (Nat×Nat)->Nat
 | .ret,_,_=>R
 | .exit i,_,e=>DB e i
 | .region _ ops _,m,_=>ops.toList.foldr (aeq ops) m
 | .seq a b,m,e=>lK R a (lK R b m e) e
 | .cond c a b,m,e=>lor (Dz (wh [c])) (lor (lK R a m e) (lK R b m e))
 | .block i c,m,e=>lK R c m ((i,m)::e)
 | .loop c,_,e=>DC (fun m=>lK R c m e) 20 0
 |_,m,_=>m
def wj:List (Nat×LO)->Nat->List hf
 |[],_=> []
 |(j,.t l)::r,i=>cond (beq i j) l (wj r i)
 |_::r,i=>wj r i
def wk:List (Nat×LO)->Nat->List Nat
 |[],_=> []
 |(j,.k l)::r,i=>cond (beq i j) l (wk r i)
 |_::r,i=>wk r i
def DD:List (Nat×LO)->Nat->List Nat->List Nat×List Nat
 |[],_,l=>([],l)
 |(j,.d x y)::r,i,l=>cond (beq i j) (x,y.casesOn l fun _ _=>y) (DD r i l)
 |_::r,i,l=>DD r i l
def DE (N:Nat) (b:List (Nat×LO)) (i m:Nat):bf:=
 let v:=wg ((wk b i).foldr (fun j m=>DA m j) m) N 0
 (wj b i).casesOn (.leaf v) fun x l=> .kh (x::l) v
def nq (N R:Nat) (f:List (Nat×LO)):Code->Nat->List (Nat×Nat)->Nat->bf×Nat
 | .ret,_,_,i=>(DE N f i R,i+1)
 | .exit j,_,e,i=>(DE N f i (DB e j),i+1)
 | .region _ ops true,m,_,i=>
  let v:=wg ((wk f i).foldr (fun j m=>DA m j) m) N 0
  let p:=DD f i (List.range ops.size)
  (.draw p.1 p.2 (wj f i) v,i+1)
 | .seq a b,m,e,i=>
  let y:=nq N R f b m e i
  let x:=nq N R f a (lK R b m e) e y.2
  (.seq x.1 y.1,x.2)
 | .cond _ a b,m,e,i=>
  let y:=nq N R f b m e i
  let x:=nq N R f a m e y.2
  (.cond x.1 y.1,x.2)
 | .block j c,m,e,i=>
  let x:=nq N R f c m ((j,m)::e) i
  (.block x.1,x.2)
 | .loop c,_,e,i=>
  let x:=nq N R f c (DC (fun m=>lK R c m e) 20 0) e i
  (.loop x.1,x.2)
 |_,m,_,i=>(DE N f i m,i+1)
def N7:List (Nat×LO)->List Nat
 |[]=> []
 |(_,.p l)::_=>l
 |_::r=>N7 r
def fK (b:List (Nat×LO)) (fn:Func):bf:=
 let R:=Dz (wi fn.results.toList++N7 b)
 (nq fn.ntmps R b (bY fn) R [] 0).1
structure Lk (k:Bool) (N:Nat) (C:Ctx) (c:Code) (an:bf) (s:St) {τ:Type} (n:Option τ) (fin:τ->Exit×St):Prop where
 go:k=true->dr C LL c an s n fin
def rz:Code->bf->Bool
 | .seq _ _,.seq _ _=>true
 |_,_=>false
def N8:Code->bf->Bool
 | .cond _ _ _,.cond _ _=>true
 |_,_=>false
def N9:Code->bf->Bool
 | .block _ _,.block _=>true
 |_,_=>false
def Oa:Code->bf->Bool
 | .loop _,.loop _=>true
 |_,_=>false
theorem wl: ∀{c:Code} {an:bf},rz c an=true->c= .seq (Code.fst c) (Code.snd c)/\an= .seq an.fst an.snd
 | .seq _ _,.seq _ _,_=>⟨rfl,rfl⟩
def Ob:Code->Operand
 | .cond o _ _=>o
 |_=> .tmp 0
theorem aer: ∀{c:Code} {an:bf},N8 c an=true->c= .cond (Ob c) (Code.fst c) (Code.snd c)/\an= .cond an.fst an.snd
 | .cond _ _ _,.cond _ _,_=>⟨rfl,rfl⟩
def wm:Code->Nat
 | .block i _=>i
 |_=>0
theorem aes: ∀{c:Code} {an:bf},N9 c an=true->c= .block (wm c) (Code.fst c)/\an= .block an.fst
 | .block _ _,.block _,_=>⟨rfl,rfl⟩
theorem aet: ∀{c:Code} {an:bf},Oa c an=true->c= .loop (Code.fst c)/\an= .loop an.fst
 | .loop _,.loop _,_=>⟨rfl,rfl⟩
def wn:Exit->Bool
 | .normal=>true
 |_=>false
theorem Oc {i:Type} {fin:i->Exit×St} (h: ∀e,wn (fin e).1=false):Dq fin:=fun e f K g=>by
 have b:=h e
 cases c:(fin e).1 with
 |normal=>rw[c] at b;cases b
 |_=>rw[c] at g;exact g
section
variable {N : Nat} {C : Ctx} {c : Code} {an : bf} {s : St} {k k1 k2 : Bool}
theorem Lk.ch {τ:Type} {n:Option τ} {fin:τ->Exit×St} (h: ∀K:Exit->St->Prop,aK n (fun x=>K (fin x).1 (fin x).2)=bu C LL c an s K):Lk true N C c an s n fin:=⟨fun _=>⟨fun K b=>(h K).mp b⟩⟩
theorem Lk.seq {τ e:Type} {n:Option τ} {m:τ->Option e} {fin:e->Exit×St} (st:τ->List (Nat×AV)×Heap) (f:Lk k1 N C (Code.fst c) an.fst s n (fun t=>(Exit.normal,lJ N (st t))))
  (g: ∀t,Lk k2 N C (Code.snd c) an.snd (lJ N (st t)) (m t) fin):Lk (rz c an&&(k1&&k2)) N C c an s (n.bind m) fin:=by
 refine⟨fun b=> ?_⟩
 simp only[aT] at b
 obtain⟨i,h⟩:=wl b.1
 rw[i,h]
 exact aea (f.go b.2.1) (fun t=>(g t).go b.2.2)
theorem Lk.aN {τ g f:Type} {n:Option (τ⊕g)} {m:τ->Option f} {j:g->f} {fin:f->Exit×St} (q: ∀e,wn (fin (j e)).1=false) (st:τ->List (Nat×AV)×Heap)
  (h:Lk k1 N C (Code.fst c) an.fst s n (Sum.elim (fun t=>(Exit.normal,lJ N (st t))) (fun e=>fin (j e))))
  (i: ∀t,Lk k2 N C (Code.snd c) an.snd (lJ N (st t)) (m t) fin):Lk (rz c an&&(k1&&k2)) N C c an s (n.bind (Sum.elim m (fun e=>some (j e)))) fin:=by
 refine⟨fun b=> ?_⟩
 simp only[aT] at b
 obtain⟨r,p⟩:=wl b.1
 rw[r,p]
 exact aec (h.go b.2.1) (fun t=>(i t).go b.2.2) j (fun _=>rfl) (Oc q)
theorem Lk.map {τ b:Type} {n:Option τ} {f:τ->b} {fin:b->Exit×St} (h:Lk k N C c an s n (fun t=>fin (f t))):Lk k N C c an s (n.map f) fin:=⟨fun e=>aed (h.go e) f (fun _=>rfl)⟩
theorem Lk.cond {g:Bool} {τ:Type} {n m:Option τ} {fin:τ->Exit×St} (j:az s (Ob c)=some (.aa .bool g)) (e:Lk k1 N C (Code.fst c) an.fst s n fin) (f:Lk k2 N C (Code.snd c) an.snd s m fin):Lk (N8 c an&&(k1&&k2)) N C c an s (_root_.cond g n m) fin:=by
 refine⟨fun b=> ?_⟩
 simp only[aT] at b
 obtain⟨i,h⟩:=aer b.1
 rw[i,h]
 exact aee j (e.go b.2.1) (f.go b.2.2)
def DF (id:Nat):Bool->Exit×St->Exit×St
 |true,p=>(.exit id,p.2)
 |false,p=>p
def Od (id:Nat):Bool->Exit->Bool
 |true,e=>wn e
 |false,.exit i=> !(beq i id)
 |false,_=>true
theorem Lk.block {τ p:Type} {n:Option τ} {f:τ->p} {fin:p->Exit×St} (g:τ->Bool) (v: ∀t,Od (wm c) (g t) (fin (f t)).1=true)
  (h:Lk k N C (Code.fst c) an.fst s n (fun t=>DF (wm c) (g t) (fin (f t)))):Lk (N9 c an&&k) N C c an s (n.map f) fin:=by
 refine⟨fun b=> ?_⟩
 simp only[aT] at b
 obtain⟨r,q⟩:=aes b.1
 rw[r,q]
 refine aef (h.go b.2) f (fun t K b=> ?_)
 have j:=v t
 cases m:g t with
 |true=>
  rw[m] at j
  simp only[DF,qS,cU]
  cases e:(fin (f t)).1 with
  |normal=>rw[e] at b;exact b
  |_=>rw[e] at j;cases j
 |false=>
  rw[m] at j
  simp only[DF]
  cases e:(fin (f t)).1 with
  |exit i=>
   rw[e] at b j
   have ne: ¬i=wm c:=fun z=>by
    subst z
    simp[Od] at j
   simp only[qS,aG ne]
   exact b
  |_=>rw[e] at b;exact b
theorem Lk.loop {σ f:Type} {body:σ->Option (σ⊕f)} {i:σ} {fin:f->Exit×St} (h: ∀e,wn (fin e).1=false) (mk:σ->List (Nat×AV)×Heap) (n:s=lJ N (mk i))
  (j: ∀t,Lk k N C (Code.fst c) an.fst (lJ N (mk t)) (body t) (Sum.elim (fun t=>(Exit.normal,lJ N (mk t))) fin)):Lk (Oa c an&&k) N C c an s (ai body LL i) fin:=by
 refine⟨fun b=> ?_⟩
 simp only[aT] at b
 obtain⟨m,g⟩:=aet b.1
 rw[m,g,n]
 exact aeg (Oc h) (fun t=>(j t).go b.2) i
def lL:Nat->Code->Code×Code
 |0,c=>(Code.fst c,Code.snd c)
 |k+1,c=>(.seq (Code.fst c) (lL k (Code.snd c)).1,(lL k (Code.snd c)).2)
def lM:Nat->bf->bf×bf
 |0,c=>(c.fst,c.snd)
 |k+1,c=>(.seq c.fst (lM k c.snd).1,(lM k c.snd).2)
def wo:Nat->Code->bf->Bool
 |0,c,an=>rz c an
 |k+1,c,an=>rz c an&&wo k (Code.snd c) an.snd
theorem Oe {C:Ctx} {L:Nat}: ∀(k:Nat) (c:Code) (an:bf),wo k c an=true-> ∀(s:St) (K:Exit->St->Prop),bu C L c an s K=bu C L (.seq (lL k c).1 (lL k c).2) (.seq (lM k an).1 (lM k an).2) s K
 |0,c,an,h,s,K=>by
  obtain⟨e,b⟩:=wl h
  show bu C L c an s K=bu C L (.seq (Code.fst c) (Code.snd c)) (.seq an.fst an.snd) s K
  rw[<-e,<-b]
 |k+1,c,an,h,s,K=>by
  simp only[wo,aT] at h
  obtain⟨e,b⟩:=wl h.1
  have f:=Oe (C:=C) (L:=L) k (Code.snd c) an.snd h.2
  rw[e,b]
  show bu C L (.seq (Code.fst c) (Code.snd c)) (.seq an.fst an.snd) s K=bu C L (.seq (.seq (Code.fst c) (lL k (Code.snd c)).1) (lL k (Code.snd c)).2) (.seq (.seq an.fst (lM k an.snd).1) (lM k an.snd).2) s K
  simp only[bu,aeb]
  congr 1
  congr 1
  funext s'
  rw[f s' K]
  simp only[bu]
theorem Lk.group (j:Nat) {τ:Type} {n:Option τ} {fin:τ->Exit×St} (h:Lk k N C (.seq (lL j c).1 (lL j c).2) (.seq (lM j an).1 (lM j an).2) s n fin):Lk (wo j c an&&k) N C c an s n fin:=
 ⟨fun b=>by
  simp only[aT] at b
  exact⟨fun K e=>by rw[Oe j c an b.1];exact(h.go b.2).go K e⟩⟩
theorem es {T:TT} {f:List ResultVar} {r:AV} {b:Heap} {e:Exit} {s:St} (h:(Dr e,(hM T s f).map np,s.heap)=(true,some r,b)):dh T f r b e s:=by
 simp only[gI,cv] at h
 obtain⟨g,⟨l,i,j⟩,m⟩:=h
 exact aeh l g i j m
theorem aeu {r:AV×Heap} (h:ad.no.run=some r) {p:Prop}:p:=by simp[ad.no,ad.run] at h
structure af (P:Program) where
 f:FuncId
 F:be
 s:Sound P f F
 c:kr P f
def af.forget {P:Program} (e:af P):af P:=⟨e.f,rx e.F,Sound.forget e.s,e.c⟩
def rA {P:Program} (l:List (af P)):List (FuncId×be):=l.map fun e=>(e.f,e.F)
structure rB (P:Program) where
 t:List (TypeId×TI)
 ok:bS P (bs t)
 io:FuncId->Nat->Bool
 m:P.follows .mixedOrders=true
structure Fit {P:Program} (S:rB P) (l:List (af P)) (fn:Func) (d:Bool) (an:bf) (avs:List AV) (H:Heap) (a:ad):Prop where
 go: ∀r H',a.run=some (r,H')->fn.body.isSome=true/\bK ⟨bs S.t,cF (rA l),S.io,H.length,d,a.mv⟩ LL (bY fn) an (start fn.ntmps avs H) (dh (bs S.t) fn.results.toList r H')
theorem aev {fn:Func} (h:fn.body.isSome=true):fn.body=some (bY fn):=by
 unfold bY
 cases e:fn.body with
 |none=>rw[e] at h;cases h
 |some c=>rfl
section
variable {P : Program} {S : rB P} {l : List (af P)} {fn : Func} {d : Bool} {avs : List AV} {H : Heap} {τ : Type} {o : Option τ} {enc : τ -> AV × Heap} {mv : List Nat}
theorem aew {f:FuncId} (j:P.funcs[f]? =some fn) {F:be} (i: ∀avs H,Fit S l fn d an avs H (F avs H)):Sound P f F:=fun avs H r b h=>
 gg (C:=⟨bs S.t,cF (rA l),S.io,0,d,[]⟩) (ge S.ok (fun p g=>by obtain⟨e,_,rfl⟩:=iC.1 g;exact e.s) (fun p g=>by obtain⟨e,_,rfl⟩:=iC.1 g;exact e.c) S.m) j
  (aev ((i avs H).go r b h).1) LL an (fun avs H r b h=>((i avs H).go r b h).2) avs H r b h
structure Of (S:rB P) (l:List (af P)) (fn:Func) (d:Bool) (an:bf) (avs:List AV) (H:Heap) where
 a:ad
 h:Fit S l fn d an avs H a
def aj:Of S l fn d an avs H:=⟨ad.no,⟨fun _ _ h=>aeu h⟩⟩
def ak (S:rB P) {f:FuncId} (g:P.funcs[f]? =some fn) (e:kr P f) (l:List (af P)) (d:Bool) (i:List (Nat×LO)) (b: ∀avs H,Of S l fn d (fK i fn) avs H):af P:=
 ⟨f,fun avs H=>(b avs H).a,aew g fun avs H=>(b avs H).h,e⟩
def ad.a {τ:Type} (o:Option τ) (enc:τ->AV×Heap):ad:=⟨τ,o,enc,[],none⟩
def Og:List ResultVar->AV->List (Nat×AV)
 |[.tmp t],a=> [(t,a)]
 |rs,.aW l=>(wi rs).zip l
 |_,_=> []
def wq (fn:Func) (b:τ->List (Nat×AV)) (enc:τ->AV×Heap) (t:τ):Exit×St:=(.ret,lJ fn.ntmps (b t,(enc t).2))
theorem eu (g:τ->List (Nat×AV)) (e:(fun t=>(fn.body.isSome,k,(hM (bs S.t) (wq fn g enc t).2 fn.results.toList).map np))=fun t=>(true,true,some (enc t).1))
  (h:Lk k fn.ntmps ⟨bs S.t,cF (rA l),S.io,H.length,d,mv⟩ (bY fn) an (start fn.ntmps avs H) o (wq fn g enc)):Fit S l fn d an avs H ⟨τ,o,enc,mv,none⟩:=by
 refine⟨fun r i f=> ?_⟩
 obtain⟨t,m,j⟩:=ad.NX f
 have b:=congrFun e t
 simp only[gI] at b
 exact⟨b.1,gf (h.go b.2.1) rfl (fun t=>es (by
  have:=congrFun e t
  simp only[gI] at this
  rw[this.2.2]
  rfl)) f⟩
theorem ao (b:(fun t=>(fn.body.isSome,k,(hM (bs S.t) (wq fn (fun t=>Og fn.results.toList (enc t).1) enc t).2 fn.results.toList).map np))=fun t=>(true,true,some (enc t).1))
  (h:Lk k fn.ntmps ⟨bs S.t,cF (rA l),S.io,H.length,d,mv⟩ (bY fn) an (start fn.ntmps avs H) o (wq fn (fun t=>Og fn.results.toList (enc t).1) enc)):Fit S l fn d an avs H ⟨τ,o,enc,mv,none⟩:=eu _ b h
theorem DG {a:ad} (e:fn.body.isSome=true) (h: ∀r b,a.run=some (r,b)->bK ⟨bs S.t,cF (rA l),S.io,H.length,d,a.mv⟩ LL (bY fn) an (start fn.ntmps avs H) (dh (bs S.t) fn.results.toList r b)):Fit S l fn d an avs H a:=⟨fun r b f=>⟨e,h r b f⟩⟩
end
end
def DH (P:Program) (t:TypeId):TK->TK
 | .lk l=>match P.underlying t with
  |some (.pointer _)=>cond (l.all fun p=>qU P t p.1 p.2) (.lk l) .hD
  |_=> .hD
 |_=>match P.underlying t with
  |some (.int k)=> .int k
  |some .string=> .str
  |some (.slice e)=> .slice e
  |some (.array n e)=> .arr n e
  |some (.struct f)=> .eC (f.toList.map fun x=>(x.offset,x.type))
  |some .bool=> .bool
  |some (.interface _)=> .hD
  |some (.map k e)=> .map k e
  |some _=> .scalar
  |none=> .lk []
theorem aex {P:Program} {t:TypeId}: ∀{k:TK},DH P t k=k->kindOk P t k:=by
 intro k h
 cases k<;>unfold DH at h<;>(dsimp only at h;split at h)<;>simp_all [kindOk]
 ·rename_i l _ _ _;cases c:l.all fun p=>qU P t p.1 p.2<;>simp_all
 all_goals split<;>simp_all
theorem aey {P:Program} {l:List (TypeId×TI)} (h:(l.map fun p=>(DH P p.1 p.2.kind,(P.info? p.1).map (fun i=>(i.size,i.bytes,i.zero.map fun z=>z.cells.toList)),!p.2.eq||Ck P p.1))=l.map fun p=>(p.2.kind,some (p.2.size,p.2.bytes,some p.2.zero),true)):bS P (bs l):=ad8 fun p t=>by
 have b:=List.map_inj_left.1 h p t
 simp only[gI,cv] at b
 obtain⟨f,⟨i,g,j,m,z,n,q⟩,r⟩:=b
 exact⟨⟨i,g,j,m,z,n,q⟩,aex f,fun e=>by simpa[e] using r⟩
end Go.Rv
namespace Go.Rv
open Go.RowKit
def wr:ba:=⟨fun _=>none,fun _ _=>none⟩
theorem aez {w w':World} (h:Kept (aM w wr []) w w'):Below w.heap.size w w':=
 ⟨h.os,h.tape,h.output,h.size,fun i hi=>h.block i ⟨hi,fun h' o=>by grind [aP.row]⟩⟩
end Go.Rv
namespace Go.Rv
open Go.RowKit Go.ChangeShapes Go.WideShapes
section
variable {H : Type} {enc : TypeId × Value -> H} {P : Program} {W : World}
abbrev S0 (W:World):Nat->Prop:=dst (fun _=>True) W wr []
theorem rC {b:Nat} (h:b<W.heap.size):S0 W b:=⟨trivial,h,fun h' o=>by grind [aP.row]⟩
theorem nr {a:Addr} {v:Value} (h:W.cell? a=some v):a.block<W.heap.size:=by
 grind [cell?,Array.getElem?_eq_some_iff]
theorem aeA {t e:TypeId} {k:IntKind} {r:Reach} {p:Nat} {v:Value} {d:DataW H} {K:List MemPlace} (h:P.underlying t=some (.slice e)) (A:P.underlying e=some (.int k)) (y:P.cellsOf e=1)
  (G:okWide P W r p t v) (hd:Trod enc P W 0 (fun _=>true) true t v d K):
  ∃xs:List Int,(∀n∈xs,(Lit.int k n).wf=true)/\xs.length<=maxLen/\ ∀σ,ah W (S0 W) σ (.aa (.list (.int k)) xs) v:=by
 obtain⟨O,D⟩:=hd
 obtain⟨L,len,cap,rfl⟩:=okWide_slice h G
 rcases open_ints h A y D with⟨f,m⟩|⟨a,Y,M,zs,f,_,U,V,J,m,z,I⟩
 ·simp[Value.cells] at f
  obtain⟨rfl,rfl,rfl⟩:=f
  exact⟨[],by simp,by simp,fun σ=>⟨none,0,rfl,by simp,.inl rfl⟩⟩
 ·simp[Value.cells] at f
  obtain⟨rfl,rfl,rfl⟩:=f
  simp only[cU] at J
  refine⟨zs.take len,fun n F=>I n (vK F),by simp;omega,fun σ=> ?_⟩
  have E:(zs.take len).length=len:=by simp;omega
  refine⟨some a,cap,by rw[E],by omega,?_⟩
  by_cases q:zs.take len=[]
  ·exact .inl q
  ·right
   have X:0<len:=by
    grind
   have g:=z 0 (by omega)
   obtain⟨b,o,ar⟩:=a
   have w:ar=none:=by
    cases ar<;>grind [cell?,Addr.add]
   subst w
   refine⟨b,o,rfl,rC (nr g),nr g,fun i x m=> ?_⟩
   have Q:i<len:=by grind
   refine⟨[.int k x],rfl,fun j u R=> ?_⟩
   grind [List.getElem?_eq_some_iff,getD,addr_add,Ty.cells]
def ns (P:Program):Ty->TypeId⊕(List Field×Nat)->Prop
 | .int k,.inl t=>P.underlying t=some (.int k)
 | .bool,.inl t=>P.underlying t=some .bool
 | .str,.inl t=>P.underlying t=some .string
 | .list u,.inl t=> ∃e,P.underlying t=some (.slice e)/\P.cellsOf e=u.cells/\0<u.cells/\ns P u (.inl e)
 | .unit,.inr (g,_)=>g=[]
 | .pair a b,.inr (g,o)=> ∃f r,g=f::r/\f.offset=o/\P.cellsOf f.type=a.cells/\ns P a (.inl f.type)/\ns P b (.inr (r,o+a.cells))
 | .pair a b,.inl t=> ∃g f r,P.underlying t=some (.struct g)/\P.cellsOf t=a.cells+b.cells/\g.toList=f::r/\f.offset=0/\P.cellsOf f.type=a.cells/\ns P a (.inl f.type)/\ns P b (.inr (r,a.cells))
 |_,_=>False
abbrev rD (P:Program) (u:Ty) (t:TypeId):Prop:=ns P u (.inl t)
def Fits:(u:Ty)->u.den->Prop
 | .int k,n=>(Lit.int k n).wf=true
 | .str,s=>s.size<=maxLen
 | .list u,xs=>xs.length<=maxLen/\ ∀x∈xs,Fits u x
 | .pair a b,x=>Fits a x.1/\Fits b x.2
 |_,_=>True
theorem Oh {b:Type} {p:Nat->b->Prop}: ∀(n:Nat),(∀i,i<n-> ∃x,p i x)-> ∃xs:List b,xs.length=n/\ ∀i x,xs[i]? =some x->p i x
 |0,_=>⟨[],rfl,fun i x h=>by simp at h⟩
 |n+1,h=>by
  obtain⟨xs,e,f⟩:=Oh n (fun i hi=>h i (by omega))
  obtain⟨y,g⟩:=h n (by omega)
  refine⟨xs++ [y],by simp[e],fun i x hi=> ?_⟩
  grind
theorem aeB {E:Nat->Bool} {u:Ty} (L: ∀{t:TypeId} {f:Nat} {cs:List Value} {x:DataW H×List MemPlace},rD P u t->trod enc P W 0 E true f t cs=some x-> ∃d:u.den,ay W (S0 W) u d cs/\Fits u d)
  {t:TypeId} {f:Nat} {cs:List Value} {x:DataW H×List MemPlace} (m:rD P (.list u) t) (h:trod enc P W 0 E true f t cs=some x): ∃d:(Ty.list u).den,ay W (S0 W) (.list u) d cs/\Fits (.list u) d:=by
 obtain⟨e,m,Q,M,Z⟩:=m
 rcases DataW.trod_slice m h with⟨rfl,_⟩|⟨a,len,cap,elems,a0,n,_,rfl,_,O,V,Y,X,R,_⟩
 ·exact⟨[],⟨none,0,rfl,aS _,.inl rfl⟩,by simp[Fits]⟩
 ·have F: ∀i,i<len-> ∃d:u.den,∃c,W.cells? 0 (a.add (i*P.cellsOf e)) (P.cellsOf e)=some c/\ay W (S0 W) u d c/\Fits u d:=fun i hi=>by
   grind [List.getElem?_eq_getElem,Option.bind_eq_some_iff]
  obtain⟨xs,K,A⟩:=Oh len F
  refine⟨xs,⟨some a,cap,by rw[K],by omega,?_⟩,by omega,fun y D=> ?_⟩
  ·by_cases z:xs=[]
   ·exact .inl z
   ·right
    have J:0<xs.length:=List.length_pos_iff.2 z
    obtain⟨c,g,p,_⟩:=A 0 xs[0] (by simp[J])
    obtain⟨_,I,w⟩:=World.cells?_some g
    have r:=w 0 (by omega)
    rw[bh (show 0<c.length by omega)] at r
    obtain⟨b,o,ar⟩:=a
    have G:ar=none:=by
     cases ar<;>grind [cell?,Addr.add]
    subst G
    have q:b<W.heap.size:=by simpa[addr_add] using nr r
    refine⟨b,o,rfl,rC q,q,fun i y D=> ?_⟩
    obtain⟨c,g,p,_⟩:=A i y D
    obtain⟨_,I,w⟩:=World.cells?_some g
    refine⟨c,p,fun j v U=> ?_⟩
    grind [List.getElem?_eq_some_iff,addr_add]
  grind [List.getElem?_of_mem]
mutual
theorem rE {M:Nat->Bool}: ∀(u:Ty) {t:TypeId} {j:Nat} {cs:List Value} {x:DataW H×List MemPlace},rD P u t->trod enc P W 0 M true j t cs=some x-> ∃d:u.den,ay W (S0 W) u d cs/\Fits u d
 | .int k,t,j,cs,x,e,h=>by
  obtain⟨n,rfl,_,p⟩:=DataW.trod_int e h
  exact⟨n,rfl,p⟩
 | .bool,t,j,cs,x,e,h=>by
  obtain⟨b,rfl,_⟩:=DataW.trod_bool e h
  exact⟨b,rfl,trivial⟩
 | .str,t,j,cs,x,e,h=>by
  obtain⟨s,rfl,_,p⟩:=DataW.trod_string e h
  exact⟨s,rfl,p⟩
 | .unit,_,_,_,_,e,_=>e.elim
 | .val,_,_,_,_,e,_=>e.elim
 | .err,_,_,_,_,e,_=>e.elim
 | .list u,t,j,cs,x,e,h=>aeB (fun e h=>rE u e h) e h
 | .pair a b,t,j,cs,x,e,h=>by
  obtain⟨O,f,r,e,Q,m,G,K,I,J⟩:=e
  obtain⟨xs,n,_,_,R,w,v⟩:=DataW.trod_struct e h
  have q:=v 0 f (by rw[<-vL,m];rfl)
  rw[bh (by rw[w,<-vM,m];simp),G,fl,K] at q
  obtain⟨A,y,E⟩:=rE a I q
  obtain⟨D,z,F⟩:=Oi b (n:=n) (xs:=xs) (cs:=cs) (k:=1) J (by rw[w,<-vM,m];simp;omega) (by omega) (fun i g L=>by
   have:=v (1+i) g (by rw[<-vL,m,Nat.add_comm];simpa using L)
   exact this)
  refine⟨(A,D),⟨_,_,?_,y,z⟩,E,F⟩
  rw[show(cs.drop a.cells).take b.cells=cs.drop a.cells from vN (by rw[oz];omega),u1]
theorem Oi {I:Nat->Bool}: ∀(u:Ty) {e:List Field} {o n k:Nat} {cs:List Value} {xs:List (DataW H×List MemPlace)},ns P u (.inr (e,o))->xs.length=k+e.length->o+u.cells<=cs.length->
  (∀(i:Nat) (g:Field),e[i]? =some g->trod enc P W 0 I true n g.type ((cs.drop g.offset).take (P.cellsOf g.type))=xs[k+i]?)-> ∃d:u.den,ay W (S0 W) u d ((cs.drop o).take u.cells)/\Fits u d
 | .unit,e,o,n,k,cs,xs,h,_,_,_=>⟨(),by simp[ay,Ty.cells],trivial⟩
 | .int _,_,_,_,_,_,_,h,_,_,_=>h.elim
 | .bool,_,_,_,_,_,_,h,_,_,_=>h.elim
 | .str,_,_,_,_,_,_,h,_,_,_=>h.elim
 | .val,_,_,_,_,_,_,h,_,_,_=>h.elim
 | .err,_,_,_,_,_,_,h,_,_,_=>h.elim
 | .list _,_,_,_,_,_,_,h,_,_,_=>h.elim
 | .pair a b,e,o,n,k,cs,xs,h,q,m,p=>by
  obtain⟨f,r,rfl,A,F,D,E⟩:=h
  have j:=p 0 f rfl
  have m:o+(a.cells+b.cells)<=cs.length:=m
  rw[bh (by rw[q];simp),A,F] at j
  obtain⟨w,t,y⟩:=rE a D j
  obtain⟨x,v,z⟩:=Oi b (n:=n) (xs:=xs) (cs:=cs) (k:=k+1) E (by rw[q];simp;omega) (by omega) (fun i g G=>by
   have:=p (i+1) g (by simpa using G)
   rw[this]
   congr 1
   omega)
  refine⟨(w,x),⟨_,_,?_,t,v⟩,y,z⟩
  show(cs.drop o).take (a.cells+b.cells)=_
  rw[List.take_add,List.drop_drop]
end
theorem apt {u:Ty} {t e:TypeId} {r:Reach} {b:Nat} {v:Value} {d:DataW H} {n:List MemPlace} (i:P.underlying t=some (.slice e)) (j:rD P (.list u) t)
  (m:okWide P W r b t v) (hd:Trod enc P W 0 (fun _=>true) true t v d n): ∃xs:List u.den,Fits (.list u) xs/\ ∀σ,ah W (S0 W) σ (.aa (.list u) xs) v:=by
 obtain⟨q,h⟩:=hd
 obtain⟨p,len,cap,rfl⟩:=okWide_slice i m
 obtain⟨xs,f,g⟩:=rE (.list u) j h
 exact⟨xs,g,fun σ=>f⟩
theorem apu {a b:Ty} {t:TypeId} {f:Array Field} {r:Reach} {e:Nat} {v:Value} {d:DataW H} {p:List MemPlace} (j:P.underlying t=some (.struct f)) (m:rD P (.pair a b) t)
  (n:okWide P W r e t v) (hd:Trod enc P W 0 (fun _=>true) true t v d p): ∃x:(Ty.pair a b).den,Fits (.pair a b) x/\ ∀σ,ah W (S0 W) σ (.agg (leaves (.pair a b) x)) v:=by
 obtain⟨q,i⟩:=hd
 obtain⟨cs,rfl,_⟩:=okWide_struct j n
 obtain⟨x,g,h⟩:=rE (.pair a b) m i
 exact⟨x,h,fun σ=>⟨cs.toList,by simp,oU _ _ _ g⟩⟩
theorem apv {t:TypeId} {r:Reach} {e:Nat} {v:Value} {d:DataW H} {b:List MemPlace} (f:P.underlying t=some .string)
  (g:okWide P W r e t v) (hd:Trod enc P W 0 (fun _=>true) true t v d b): ∃s:ByteArray,v= .string s/\d= .lit (.string s.data.toList)/\b=[]/\s.size<=maxLen:=by
 obtain⟨s,rfl⟩:=okWide_string f g
 obtain⟨h,i⟩:=hd
 grind [DataW.trod_string,Value.cells,Prod.mk.injEq]
theorem stays {t:TypeId} (j:laidOutB P=true) (q:P.readableRec t=true) (r:t<P.types.size) {f:World} {sp':Nat->Bool} {v:Value} {d:DataW H} {e:List MemPlace}
  (h:Trod enc P W 0 (fun _=>true) true t v d e) (m: ∀p∈e,p.block<W.heap.size) (i: ∀b,b<W.heap.size->f.heap[b]? =W.heap[b]?) (w: ∀p∈e,sp' p.block=true):
  Trod enc P f 0 sp' true t v d e:=by
 refine WideElems.Trod_stays j q r h (fun p n=> ?_) w
 have g:=i p.block (m p n)
 cases p with
 |cell b off=>
  have x:f.heap[b]? =W.heap[b]? :=g
  grind [World.sameAt,cell?]
 |map b=>exact g
theorem aeC {f:FuncId} {F:be} (n:Sound P f F) {avs:List AV} (j:(F avs []).run=some (.aa .bool true,[])) {args:List Value} (w:hb W (S0 W))
  (p:aC W (S0 W) (sumOf wr []) avs args):Calls P f args.toArray W fun e w'=>e= .returned (.bool true)/\Below W.heap.size W w'/\ ∀b,b<W.heap.size->w'.heap[b]? =W.heap[b]? :=by
 have h:=n avs [] _ _ j (fun _=>True) W args wr (fun _ _=>trivial) ⟨fun h r g=>by simp at g,fun h h' b o=>by grind [aP.row],fun h b o=>by simp_all,fun h t xss m cs g=>by simp at g⟩ w (fun h x=>by simp at x) p
 refine h.mono fun e w' ⟨v,z,y,i,_,_,_,g⟩=>⟨?_,aez i,fun b q=>i.block b ⟨q,fun h' o=>by grind [aP.row]⟩⟩
 grind [bool,ah,ay]
theorem aeD {i:World} {f:Func} {s:ChangeSpec} {apart E F D:Bool} {args:Array Value} {v:Value} {m n:List (DataW H)} {e pa pv:List MemPlace}
  (q:DataW.Whole enc P f.params.toList s.vars apart W args.toList m n e)
  (y: ∀(b:Nat) (h:Nat->Bool) (hd:Bool),TrodAll enc P i b h hd f.resultTypes.toList (v.resultList f.resultTypes.size) (s.fn H (m++n)).results [])
  (w: ∀h:Nat->Bool,(∀p∈e,h p.block=true)->TrodAll enc P i 0 h true f.params.toList args.toList (s.fn H (m++n)).args pa)
  (z: ∀h:Nat->Bool,(∀p∈e,h p.block=true)->TrodVars enc P i h s.vars (s.fn H (m++n)).vars pv)
  (L:e=pa++pv) (x:Below W.heap.size W i)
  (G: ∀(j:Nat) (t:TypeId) (r:Value),f.resultTypes[j]? =some t->(v.resultList f.resultTypes.size)[j]? =some r->okWide P i .any 0 t r):
  s.post enc P f apart E F D W args v i:=by
 have lt:=q.lt
 have A: ∀p∈e,(fun b=>decide (b<W.heap.size)) p.block=true:=fun p g=>by simp_all
 refine⟨m,n,e,[],pa,pv,q,y _ _ _,w _ A,z _ A,World.keptBut_mono (fun p g=>⟨g,?_⟩) (x.frame (· ∈e)),fun _=> ?_⟩
 ·simp_all
 ·obtain⟨_,_,_,_,_,I,K⟩:=q
  refine⟨G,_,_,([]++pa)++pv,⟨[]++pa,pv,trodAll_append (w _ (fun _ _=>rfl)) (y _ _ _),z _ (fun _ _=>rfl),rfl,fun b off g=> ?_,fun J=> ?_⟩,fun p g _=> ?_⟩
  ·have g:MemPlace.cell b off∈e:=by simp_all
   rw[x.frozen (lt _ g)]
   exact I b off g
  all_goals simp_all
theorem aeE {n:String} {b:List (DataW H)} {f:List MemPlace} (h:TrodVars enc P W (fun _=>true) [n] b f): ∃g,b=[g]:=by
 cases b with
 |nil=>exact h.elim
 |cons g r=>
  obtain⟨_,_,_,_,_,_,_,_,_,_,e,_⟩:=h
  cases r with
  |nil=>simp_all
  |cons _ _=>exact e.elim
theorem aeF {n:String} {g:Nat} {t:TypeId} (w:P.globalNamed n=some g) (y:(P.globals[g]?).map (·.type)=some t) (I:laidOutB P=true) (K:P.readableRec t=true) (L:t<P.types.size) {j:World} (G: ∀b,b<W.heap.size->j.heap[b]? =W.heap[b]?)
  {d:DataW H} {e:List MemPlace} (h:TrodVars enc P W (fun _=>true) [n] [d] e) (J: ∀p∈e,p.block<W.heap.size) {i:Nat->Bool} (M: ∀p∈e,i p.block=true):TrodVars enc P j i [n] [d] e:=by
 obtain⟨O,U,cs,z,p,r,m,q,Q,D,F,rfl⟩:=h
 rw[w] at m
 cases m
 rw[y] at q
 cases q
 have R:g<W.heap.size:=by
  grind [var?,Nat.lt_or_ge,Array.getElem?_eq_none]
 obtain⟨A,E⟩:=stays I K L (v:= .agg cs) (sp':=i) ⟨z,D⟩ (fun x f=>J x (by simp[f])) G (fun x f=>M x (by simp[f]))
 exact⟨g,t,cs,A,p,r,w,y,by grind [var?],E,F,rfl⟩
theorem apw (h: ∀g,jW g=none) (S:Nat->Prop):hb W S:=fun g t xs e=>by simp_all
end
end Go.Rv
namespace Go.Rv
theorem DI {P:Program} {W:World} {name:String} {g n:Nat} {cs:Array Value} (f:P.globalNamed name=some g) (h:W.var? P name=some cs) (i:cs.size=n):qJ W g n:=by
 unfold var? at h
 rw[f,ac] at h
 split at h
 ·rename_i c e j b
  cases h
  exact⟨_,_,_,b,i⟩
 ·cases h
theorem DJ {P:Program} {W:World} {name:String} {k:IntKind} {zs:List Int} {g:Nat} (h:TabIs P W name k zs) (b:P.globalNamed name=some g) (m:0<zs.length):ii W (S0 W) g 0 (.int k) zs/\qJ W g (zs.length*Ty.cells (.int k)):=by
 have e:=h.cell b 0 m
 refine⟨⟨rC (nr e),nr e,fun i x q=> ?_⟩,DI b h (by simp[Ty.cells])⟩
 have n:i<zs.length:=(aO.1 q).1
 refine⟨[.int k x],rfl,fun j u f=> ?_⟩
 have p:j=0:=by grind
 subst p
 simp at f
 subst f
 have r:=h.cell b i n
 grind [getD,Ty.cells]
theorem aeG {H:Type} {enc:TypeId×Value->H} {P:Program} {w:World} {base:Nat} {G:Nat->Bool} {D:Bool} {f:Nat} {t e:TypeId} {n:Nat} {cs:List Value} {zs:List ByteArray} {p:List MemPlace}
  (F:P.underlying t=some (.array n e)) (A:P.underlying e=some .string) (x:P.cellsOf e=1) (y:P.cellsOf t=n)
  (h:trod enc P w base G D f t cs=some (.agg (zs.map fun z=> .lit (.string z.data.toList)),p)):cs=zs.map Value.string:=by
 cases f with
 |zero=>simp[trod] at h
 |succ f=>
  simp only[trod,F,x,y,Nat.mul_one] at h
  split at h
  ·rename_i K
   obtain⟨xs,j,L⟩:=cv.1 h
   have m:xs.map (·.1)=zs.map fun z=>(lit (.string z.data.toList):DataW H):=by
    simp_all
   have M:xs.length=n:=by simpa using Lib.mapM_length j
   have Q:zs.length=n:=by
    have:=aR List.length m
    grind
   apply hB
   intro i
   by_cases hi:i<n
   ·obtain⟨b,r,E⟩:=Lib.mapM_at j i i (by simp[hi])
    obtain⟨s,v,rfl,_⟩:=DataW.trod_string A E
    have J:cs[i]? =some (.string s):=by
     have:=aR (·[0]?) v
     grind
    have g:(xs.map (·.1))[i]? =some (lit (.string s.data.toList):DataW H):=by simp[r]
    rw[m] at g
    simp only[ek,cv,DataW.lit.injEq,Lit.string.injEq] at g
    obtain⟨q,O,I⟩:=g
    have:q=s:=by
     rcases q with⟨⟨R⟩⟩
     simp_all
    simp_all
   simp_all
  ·cases h
theorem aeH {P:Program} {W:World} {name:String} {zs:List ByteArray} {G:List (String×DataW Unit)} {g:Nat} {t e:TypeId} {n:Nat}
  (b:P.globalNamed name=some g) (F:(P.globals[g]?).map (·.type)=some t) (D:P.underlying t=some (.array n e)) (y:P.underlying e=some .string) (q:P.cellsOf e=1) (w:P.cellsOf t=n)
  (h:laidMet P ((name,.agg (zs.map fun z=> .lit (.string z.data.toList)))::G) W) (K:0<zs.length):ii W (S0 W) g 0 .str zs/\qJ W g (zs.length*Ty.cells .str):=by
 obtain⟨O,⟨J,R,cs,I,p,Q,A,E,m,hd,_,_⟩,_⟩:=h
 obtain rfl:=ga (b.symm.trans A)
 obtain rfl:=ga (F.symm.trans E)
 have r:=aeG D y q w hd
 have cell: ∀i,W.cell? ⟨g,i,none⟩=(zs[i]?).map Value.string:=fun i=>by
  rw[World.var?_cell b m i,<-vL,r,ek]
 have f:g<W.heap.size:=nr (a:=⟨g,0,none⟩) (v:= .string zs[0]) (by simp_all)
 refine⟨⟨rC f,f,fun i x M=>⟨[.string x],rfl,fun j u L=> ?_⟩⟩,DI b m (by grind [Array.length_toList,Ty.cells])⟩
 grind [List.getElem?_eq_some_iff,Ty.cells]
theorem Oj {P:Program} {W:World} {name E:String} {y:DataW Unit} {F:List (String×DataW Unit)} {g:Nat} {r:TypeId} {ms:Array (String×TypeId)}
  (b:P.globalNamed name=some g) (D:(P.globals[g]?).map (·.type)=some r) (hi:P.underlying r=some (.interface ms))
  (h:laidMet P ((name,.iface E y)::F) W):ii W (S0 W) g 0 .err [true]/\qJ W g ([true].length*Ty.cells .err):=by
 obtain⟨J,⟨G,L,cs,e,p,K,z,A,n,hd,_,_⟩,_⟩:=h
 obtain rfl:=ga (b.symm.trans z)
 obtain rfl:=ga (D.symm.trans A)
 obtain⟨u,v,f⟩: ∃u v,cs.toList=[.iface u v]:=by
  cases e with
  |zero=>simp[trod] at hd
  |succ e=>
   unfold trod at hd
   grind
 have t:W.cell? ⟨g,0,none⟩=some (.iface u v):=by
  rw[World.var?_cell b n 0,<-vL,f]
  rfl
 have m:g<W.heap.size:=nr t
 refine⟨⟨rC m,m,fun i x q=>⟨[.iface u v],?_,fun j w I=> ?_⟩⟩,DI b n (by rw[<-vM,f];rfl)⟩
 ·cases i with
  |zero=>cases q;exact⟨_,rfl,_,_,rfl⟩
  |succ i=>simp at q
 grind
end Go.Rv
namespace Go.Rv
open Go.Proofs Go.Shelf
theorem aeI {xs:List Int} {i:Int} {vs L:List Int} (h:rr xs i vs=some L): ∃k:Nat,i=(k:Int)/\k<=xs.length/\0<vs.length/\xs.length+vs.length<=1099511627776/\L=xs.take k++vs++xs.drop k:=by
 unfold rr at h
 split at h
 ·cases h
 ·rename_i v r
  unfold Go.Rv.inc at h
  split at h
  ·rename_i hi
   simp only[ac] at h
   obtain⟨b,h⟩:=q2 h
   unfold room at b
   split at b
   ·rename_i e
    cases h
    exact⟨i.toNat,by omega,by omega,by simp,e,rfl⟩
   ·cases b
  ·cases h
def DK:be:=fun avs H=>
 match avs,H with
 |[.ab 0,.aa (.int .i64) i,.ab 1],[some (.seq (.int .i64) xs),some (.seq (.int .i64) vs)]=>⟨List Int,rr xs i vs,fun ys=>(.ab 0,[some (.seq (.int .i64) ys),some (.seq (.int .i64) vs)]),[0],none⟩
 |_,_=>ad.no
def bZ (xs:List Int):List Value:=xs.map fun x=> .int .i64 x
theorem Ok {xs:List Int} {j:Nat} {v:Value} (h:(bZ xs)[j]? =some v): ∃x,xs[j]? =some x/\v= .int .i64 x:=by
 unfold bZ at h
 rw[ek] at h
 cases b:xs[j]? with
 |none=>rw[b] at h;cases h
 |some x=>rw[b] at h;cases h;exact⟨x,rfl,rfl⟩
theorem nt {xs:List Int}: ∀v∈bZ xs,v.oneCell'=true:=fun v b=>by
 obtain⟨x,_,rfl⟩:=iC.mp b
 rfl
theorem po {b:Nat} {e:TypeId}: ∀(vs:List Value) (o:Nat) (w:World) (f:Array Value),w.heap[b]? =some (.cells f e (0,0))->
  ∃g,w.setCells b o vs=w.setRow b g/\g.size=f.size/\ ∀m,m<f.size->g[m]? =if o<=m/\m<o+vs.length then vs[m-o]? else f[m]?
 |[],o,w,f,h=>by
  have x:=(jg.1 h).1
  have j:=(jg.1 h).2
  refine⟨f,?_,rfl,fun m n=>by rw[aG (by simp only[jh];omega)]⟩
  show w=w.setRow b f
  have p:(w.setRow b f).heap=w.heap:=by
   unfold World.setRow
   apply rg
   ·simp
   ·intro i q t
    rw[ku]
    split
    ·rename_i hi
     subst hi
     rw[j]
    ·rfl
  cases w
  simp only[World.setRow] at p⊢
  rw[p]
 |v::r,o,w,f,h=>by
  have x:=(jg.1 h).1
  have j:=(jg.1 h).2
  have z:(w.setCell ⟨b,o,none⟩ v).heap[b]? =some (.cells (f.setIfInBounds o v) e (0,0)):=by
   simp only[World.setCell]
   rw[C0 (by simpa using x),ku,aB rfl,j]
   simp
  obtain⟨g,q,t,y⟩:=po r (o+1) (w.setCell ⟨b,o,none⟩ v) _ z
  refine⟨g,?_,by rw[t];simp,fun m n=> ?_⟩
  ·rw[World.setCells,q]
   unfold World.setRow World.setCell
   congr 1
   apply rg
   ·simp
   ·intro i D E
    rw[ku,ku,ku]
    by_cases hi:b=i
    ·subst hi
     simp[j]
    ·simp[hi]
  ·rw[y m (by simpa using n)]
   by_cases hi:o+1<=m/\m<o+1+r.length
   ·rw[aB hi,aB (by simp;omega),show m-o=(m-(o+1))+1 by omega,mP]
   ·rw[aG hi]
    by_cases A:m=o
    ·subst A
     rw[aB (by simp),C1]
     simp[n]
    ·rw[aG (by simp;omega),Array.getElem?_setIfInBounds_ne (by omega)]
theorem nu {w:World} {S:Nat->Prop} {xs:List Int} {e:Array Value} {o:Nat}:gZ w S (.int .i64) xs e o↔ ∀(i:Nat) (x:Int),xs[i]? =some x->e[o+i]? =some (.int .i64 x):=by
 constructor
 ·intro h i x b
  obtain⟨cs,hd,g⟩:=h i x b
  have hd:cs=[.int .i64 x]:=hd
  subst hd
  have:=g 0 _ rfl
  simpa[Ty.cells] using this
 ·intro h i x b
  refine⟨[.int .i64 x],rfl,fun j v f=> ?_⟩
  cases j with
  |zero=>
   cases f
   have:=h i x b
   simpa[Ty.cells] using this
  |succ j=>simp at f
theorem DL (xs vs:List Int) (k:Nat) (g:k<=xs.length) (j:Nat):(xs.take k++vs++xs.drop k)[j]? =if j<k then xs[j]? else if j<k+vs.length then vs[j-k]? else xs[j-vs.length]? :=by
 have f:(xs.take k).length=k:=by simp;omega
 by_cases b:j<k
 ·rw[aB b,pf,mQ (by omega),qG,aB b]
 ·rw[aG b]
  by_cases e:j<k+vs.length
  ·rw[aB e,mQ (by simp;omega),lh (by omega),f]
  ·rw[aG e,lh (by simp;omega),mN]
   congr 1
   simp
   omega
theorem Ol {w:World} {b:Nat} {f:Array Value} {e:TypeId} (h:w.heap[b]? =some (.cells f e (0,0))):w.shape? b=some (e,f.size):=by simp[World.shape?,h]
theorem ws {w:World} {b:Nat} {f:Array Value} {e:TypeId} (h:w.heap[b]? =some (.cells f e (0,0))) (k:Nat):w.frozen? ⟨b,k,none⟩=false:=by simp[frozen?,h]
theorem cell_of {w:World} {b:Nat} {f:Array Value} {e:TypeId} (h:w.heap[b]? =some (.cells f e (0,0))) (k:Nat):w.cell? ⟨b,k,none⟩=f[k]? :=by simp[cell?,h]
theorem setRow_setRow (w:World) (b:Nat) (c d:Array Value):(w.setRow b c).setRow b d=w.setRow b d:=by
 unfold World.setRow
 congr 1
 apply rg
 ·simp
 ·intro i f e
  rw[ku,ku,ku]
  split
  ·cases w.heap[i]'(by simpa using e)<;>rfl
  ·rfl
theorem Om (w:World) (t:TypeId) (c d:Array Value):(w.alloc (.cells c t)).setRow w.heap.size d=w.alloc (.cells d t):=by
 unfold World.setRow World.alloc
 congr 1
 apply rg
 ·simp
 ·intro i e b
  rw[ku]
  by_cases hi:w.heap.size=i
  ·subst hi
   simp
  ·rw[aG hi]
   have:i<w.heap.size:=by simp at b;omega
   simp[Array.getElem_push,this]
section
variable {P : Program}
theorem aeJ {ρ:Ren} (L:Lays2.n21 P ρ):Sound P (ρ.f 21) DK:=by
 intro avs H r h5 b4 D w args ι g1 c3 f9 g3 f3
 unfold DK at b4⊢
 split at b4
 ·rename_i i xs vs
  simp only[ad.run,ad.dec,cv] at b4
  obtain⟨y,f2,q⟩:=b4
  cases q
  obtain⟨k,rfl,c5,a3,h8,a9⟩:=aeI f2
  let H:Heap:=[some (.seq (.int .i64) xs),some (.seq (.int .i64) vs)]
  obtain⟨d6,i1,rfl,g5,v1,i2,rfl,d3,v2,h2,rfl,g6,b0⟩:=f3
  have b0:h2=[]:=b0
  subst b0
  have d3:[v1]=[.int .i64 (k:Int)]:=d3
  cases d3
  let B:cl:={w0:=w,S0:=aM w ι H,D:=D,mS:=sumOf ι H,k:=2,mv:=fun h=>beq h 0,new:=g1}
  have e5:Inv B ⟨[],H⟩ #[] w ι:=⟨Kept.refl _ _,c3,fun b f4=>f4,fun g f8=>⟨.inr rfl,g3 g (by simpa using f8)⟩,fun i a b6=>by simp at b6,f9⟩
  have c2:H[0]? =some (some (.seq (.int .i64) xs)):=rfl
  have c9:H[1]? =some (some (.seq (.int .i64) vs)):=rfl
  have b1:=c3.rows 0 _ c2
  have c6:=c3.rows 1 _ c9
  obtain⟨d5,d2,d4⟩:=g6
  have d2:=dD (s:=⟨[],H⟩) c9 d2
  subst d2
  obtain⟨i3,d1,V⟩:=g5
  have d1:=dD (s:=⟨[],H⟩) c2 d1
  subst d1
  have done: ∀(e:Ending) (w1 w':World) (c7:Value) (p:Option (Nat×Nat×Nat)),(w1=w\/w1=w.drew)->e= .returned c7->vq w1 (dst D w1 ι H) (.int .i64) y [] (ι 0) c7 w' p->
    (∃v F,e= .returned v/\Kept (aM w ι H) w w'/\eO D w' F [some (.seq (.int .i64) y),some (.seq (.int .i64) vs)]/\(∀b,aM w ι H b->aM w' F [some (.seq (.int .i64) y),some (.seq (.int .i64) vs)] b)/\
   (∀h,h<H.length->(([0]:List Nat).contains h=true\/sumOf F [some (.seq (.int .i64) y),some (.seq (.int .i64) vs)] h=sumOf ι H h)/\ ∃x,([some (.seq (.int .i64) y),some (.seq (.int .i64) vs)]:Heap)[h]? =some (some x))/\
   ah w' (dst D w' F [some (.seq (.int .i64) y),some (.seq (.int .i64) vs)]) (sumOf F [some (.seq (.int .i64) y),some (.seq (.int .i64) vs)]) (.ab 0) v):=by
   intro e w1 w' c7 p g9 q f7
   have f1:Inv B ⟨[],H⟩ #[] w1 ι:=by
    rcases g9 with rfl|rfl
    ·exact e5
    ·exact e5.drew (w.drawn+1)
   obtain⟨F,b3,e4⟩:=vt f1 (g:=0) c2 (.inr rfl) (fun b o c a4=>⟨o,c,a4⟩) (fun b o c a4=>by
    rw[a4] at b1
    obtain⟨e0,e,Z,a8,e2,d0,e3⟩:=b1
    exact d0) f7
   rw[gd] at b3 e4
   refine⟨c7,F,q,b3.kept,b3.am,b3.stay,fun h g0=> ?_,e4⟩
   have:=b3.io h g0
   refine⟨this.1.imp (fun b8=>by
    have:h=0:=q6 b8
    subst this
    rfl) id,this.2⟩
  obtain⟨z,E,A,b2,c8,g2,c4,i0,h9,h6,g4,g7⟩: ∃z E A b2 c8,ι 1=some (z,E,A)/\w.heap[z]? =some (.cells b2 c8 (0,0))/\b2.size=E+A/\vs.length<=A/\A<=maxLen/\(∀(i:Nat) (x:Int),vs[i]? =some x->b2[E+i]? =some (.int .i64 x))/\v2= .slice (some ⟨z,E,none⟩) vs.length A:=by
   cases a4:ι 1 with
   |none=>
    rw[a4] at c6
    have:vs=[]:=c6
    rw[this] at a3
    simp at a3
   |some b8=>
    obtain⟨z,E,A⟩:=b8
    rw[a4] at c6
    obtain⟨e0,e,Z,a8,e2,d0,e3⟩:=c6
    refine⟨z,E,A,e0,e,rfl,Z,by simpa[Ty.cells] using a8,e2,d0,nu.mp e3,?_⟩
    unfold br at d4
    simp only[a4] at d4
    obtain⟨h7,rfl|⟨f5,a,rfl⟩⟩:=d4
    ·simp[Row.len]
    ·simp only[Row.len] at*
     omega
  subst g7
  have c0: ∀j v,(bZ vs)[j]? =some v->w.cell? ⟨z,E+j,none⟩=some v:=fun j v U=>by
   obtain⟨x,m,rfl⟩:=Ok U
   rw[cell_of c4]
   exact g4 j x m
  have K:(bZ vs).length=vs.length:=by simp[bZ]
  have X:(bZ xs).length=xs.length:=by simp[bZ]
  have G:y.length=xs.length+vs.length:=by
   rw[a9]
   simp
   omega
  have d8: ∀n,(zeroCells (Value.int .i64 0).cells n).size=n:=fun n=>by simp[zeroCells,Value.cells]
  have e1: ∀a,xs=[]->d6= .slice a 0 0->Calls P (ρ.f 21) #[d6,.int .i64 (k:Int),.slice (some ⟨z,E,none⟩) vs.length A] w (fun e w'=> ∃v F,e= .returned v/\Kept (aM w ι H) w w'/\eO D w' F [some (.seq (.int .i64) y),some (.seq (.int .i64) vs)]/\(∀b,aM w ι H b->aM w' F [some (.seq (.int .i64) y),some (.seq (.int .i64) vs)] b)/\
   (∀h,h<H.length->(([0]:List Nat).contains h=true\/sumOf F [some (.seq (.int .i64) y),some (.seq (.int .i64) vs)] h=sumOf ι H h)/\ ∃x,([some (.seq (.int .i64) y),some (.seq (.int .i64) vs)]:Heap)[h]? =some (some x))/\
   ah w' (dst D w' F [some (.seq (.int .i64) y),some (.seq (.int .i64) vs)]) (sumOf F [some (.seq (.int .i64) y),some (.seq (.int .i64) vs)]) (.ab 0) v):=by
   intro a m U
   subst m U
   have h0:k=0:=by simpa using c5
   subst h0
   refine(Any2.slices_Insert_int_end_grow L a 0 0 z E vs.length A [] (bZ vs) w a3 (aS _) (by omega) (by omega) rfl K (fun _=>rfl) (fun a h j v U=>by simp at U) c0 nt).mono fun e w' Q=> ?_
   obtain⟨q,rfl⟩:=Q
   have b5:=oB w (0+vs.length) 0 (ρ.t 3)
   have a0:=oC w (0+vs.length) 0 (ρ.t 3) (by simp only[maxLen];omega)
   generalize grownCap w (0+vs.length) 0 (ρ.t 3)=M at q b5 a0⊢
   have G:y.length=vs.length:=by rw[G];simp
   refine done e w _ _ _ (.inl rfl) q (.inr (.inr ⟨M,_,_,rfl,rfl,?_,?_,a0,?_,?_⟩))
   ·simp[G]
   ·simp[G];omega
   ·simp only[oD,d8,qI,hC,K,Ty.cells]
    omega
   ·rw[gd]
    refine nu.mpr fun j x m=> ?_
    have J:=(aO.1 m).1
    rw[a9] at m
    simp only[List.take_nil,List.drop_nil,hC,gd] at m
    rw[iz,vO (by simp[K];have:=(aO.1 m).1;omega)]
    simp[bZ,m]
  show Calls P (ρ.f 21) #[d6,.int .i64 (k:Int),.slice (some ⟨z,E,none⟩) vs.length A] w _
  cases a5:ι 0 with
  |none=>
   rw[a5] at b1
   have m:xs=[]:=b1
   unfold br at V
   simp only[a5] at V
   obtain⟨_,_,a,b6⟩:=V
   exact e1 a m b6
  |some b8=>
   obtain⟨b,o,c⟩:=b8
   rw[a5] at b1
   obtain⟨a1,c1,O,e7,e6,f6,b7⟩:=b1
   have b7:=nu.mp b7
   have e7:a1.size=o+c:=by simpa[Ty.cells] using e7
   unfold br at V
   simp only[a5] at V
   obtain⟨_,V|⟨f5,a,b6⟩⟩:=V
   ·simp only[Row.len,Nat.zero_mul,gY,CY] at V
    subst V
    have g8:z≠b:=c3.sep 1 0 _ _ _ _ c9 c2 g2 a5 (by omega)
    have d9:c<=9223372036854775807:=by unfold maxLen at f6;omega
    have d7: ∀j v,(bZ xs)[j]? =some v->w.cell? ⟨b,o+j,none⟩=some v:=fun j v U=>by
     obtain⟨x,m,rfl⟩:=Ok U
     rw[cell_of O]
     exact b7 j x m
    have e9: ∀j,j<c->(w.cell? ⟨b,o+j,none⟩).isSome=true:=fun j J=>by
     rw[cell_of O,C0 (by omega)]
     rfl
    by_cases b0:xs.length+vs.length<=c
    ·by_cases a2:k<xs.length
     ·refine(Any2.slices_Insert_int_shift L b o xs.length c k z E vs.length A (bZ xs) (bZ vs) w a2 a3 b0 d9 g8 X K d7 (fun j J=>e9 j (by omega)) (fun j J=>ws O _) c0 nt nt c8 c1 b2.size a1.size (Ol c4) (Ol O) (by omega) (ws c4 _) (ws c4 _)).mono fun e w' Q=> ?_
      obtain⟨q,rfl⟩:=Q
      obtain⟨I,Z,d5,a6⟩:=po ((bZ xs).drop k) (o+(k+vs.length)) w.drew a1 O
      obtain⟨a7,a8,h3,t2⟩:=po (bZ vs) (o+k) (w.drew.setRow b I) I (je w.drew b a1 _ c1 _ O)
      refine done e w.drew _ _ (some (b,o,c)) (.inr rfl) q (.inr (.inl ⟨b,o,c,a1,c1,a7,a5,rfl,O,?_,?_,?_,?_,?_⟩))
      ·rw[Z,a8,setRow_setRow]
      ·simp[G]
      ·simp[G];omega
      ·simp[Ty.cells];omega
      ·rw[gd]
       refine nu.mpr fun j x m=> ?_
       have J:=(aO.1 m).1
       rw[a9,DL xs vs k c5] at m
       rw[t2 (o+j) (by omega),K]
       by_cases Y:j<k
       ·rw[aB Y] at m
        rw[aG (by omega),a6 (o+j) (by omega),aG (by omega)]
        exact b7 j x m
       ·rw[aG Y] at m
        by_cases b9:j<k+vs.length
        ·rw[aB b9] at m
         rw[aB (by omega),show o+j-(o+k)=j-k by omega]
         simp[bZ,m]
        ·rw[aG b9] at m
         rw[aG (by omega),a6 (o+j) (by omega),aB (by simp[X];omega),mN,show k+(o+j-(o+(k+vs.length)))=j-vs.length by omega]
         simp[bZ,m]
     ·have a2:k=xs.length:=by omega
      subst a2
      refine(Any2.slices_Insert_int_end_room L b o xs.length c z E vs.length A (bZ vs) w a3 b0 d9 K (fun j J=>by rw[lg];exact e9 _ (by omega)) (fun j J=>ws O _) c0 nt).mono fun e w' Q=> ?_
      obtain⟨q,rfl⟩:=Q
      obtain⟨I,Z,d5,a6⟩:=po (bZ vs) (o+xs.length) w a1 O
      refine done e w _ _ (some (b,o,c)) (.inl rfl) q (.inr (.inl ⟨b,o,c,a1,c1,I,a5,rfl,O,Z,?_,?_,?_,?_⟩))
      ·simp[G]
      ·simp[G];omega
      ·simp[Ty.cells];omega
      ·rw[gd]
       refine nu.mpr fun j x m=> ?_
       have J:=(aO.1 m).1
       rw[a9,DL xs vs _ c5] at m
       rw[a6 (o+j) (by omega),K]
       by_cases Y:j<xs.length
       ·rw[aB Y] at m
        rw[aG (by omega)]
        exact b7 j x m
       ·rw[aG Y,aB (by omega)] at m
        rw[aB (by omega),show o+j-(o+xs.length)=j-xs.length by omega]
        simp[bZ,m]
    ·by_cases a2:k<xs.length
     ·refine(Any2.slices_Insert_int_grow L b o xs.length c k z E vs.length A (bZ xs) (bZ vs) w a2 a3 e6 (by omega) (by omega) X K d7 c0 nt nt).mono fun e w' Q=> ?_
      obtain⟨q,rfl⟩:=Q
      have b5:=oB w (xs.length+vs.length) c (ρ.t 3)
      have a0:=oC w (xs.length+vs.length) c (ρ.t 3) (by simp only[maxLen];omega)
      generalize grownCap w (xs.length+vs.length) c (ρ.t 3)=M at q b5 a0⊢
      have h4:(((bZ xs).take k).toArray++zeroCells (Value.int .i64 0).cells (xs.length+vs.length-k)++zeroCells (Value.int .i64 0).cells (M-(xs.length+vs.length))).size=M:=by
       simp only[oD,d8,qI,mR,X]
       omega
      have f0: ∀j,j<k->(((bZ xs).take k).toArray++zeroCells (Value.int .i64 0).cells (xs.length+vs.length-k)++zeroCells (Value.int .i64 0).cells (M-(xs.length+vs.length)))[j]? =(bZ xs)[j]? :=fun j J=>by
       rw[Array.append_assoc,vO (by simp[X];omega)]
       simp[qG,J]
      generalize ((bZ xs).take k).toArray++zeroCells (Value.int .i64 0).cells (xs.length+vs.length-k)++zeroCells (Value.int .i64 0).cells (M-(xs.length+vs.length))=R at h4 f0⊢
      have e8:(w.alloc (.cells R (ρ.t 3))).drew.heap[w.heap.size]? =some (.cells R (ρ.t 3) (0,0)):=qH w _
      obtain⟨I,Z,d5,a6⟩:=po (bZ vs) k (w.alloc (.cells R (ρ.t 3))).drew R e8
      have h1:=je (w.alloc (.cells R (ρ.t 3))).drew w.heap.size R I (ρ.t 3) (0,0) e8
      obtain⟨a7,a8,h3,t2⟩:=po ((bZ xs).drop k) (k+vs.length) ((w.alloc (.cells R (ρ.t 3))).drew.setRow w.heap.size I).drew I h1
      refine done e w.drew _ _ (some (w.heap.size,0,M)) (.inr rfl) q (.inr (.inr ⟨M,a7,ρ.t 3,rfl,?_,?_,?_,a0,?_,?_⟩))
      ·rw[Z,a8]
       show((w.drew.drew.alloc (.cells R (ρ.t 3))).setRow w.drew.drew.heap.size I).setRow w.heap.size a7=_
       exact(aR (fun x=>World.setRow x w.heap.size a7) (Om w.drew.drew (ρ.t 3) R I)).trans (Om w.drew.drew (ρ.t 3) I a7)
      ·simp[G]
      ·simp[G];omega
      ·simp[Ty.cells];omega
      ·rw[gd]
       refine nu.mpr fun j x m=> ?_
       have J:=(aO.1 m).1
       rw[a9,DL xs vs k c5] at m
       rw[iz,t2 j (by omega)]
       by_cases Y:j<k
       ·rw[aB Y] at m
        rw[aG (by omega),a6 j (by omega),aG (by omega),f0 j Y]
        simp[bZ,m]
       ·rw[aG Y] at m
        by_cases b9:j<k+vs.length
        ·rw[aB b9] at m
         rw[aG (by omega),a6 j (by omega),aB (by omega)]
         simp[bZ,m]
        ·rw[aG b9] at m
         rw[aB (by simp[X];omega),mN,show k+(j-(k+vs.length))=j-vs.length by omega]
         simp[bZ,m]
     ·have a2:k=xs.length:=by omega
      subst a2
      refine(Any2.slices_Insert_int_end_grow L (some ⟨b,o,none⟩) xs.length c z E vs.length A (bZ xs) (bZ vs) w a3 e6 (by omega) (by omega) X K (fun h=>by cases h) (fun a h j v U=>by
       cases h
       rw[addr_add]
       exact d7 j v U) c0 nt).mono fun e w' Q=> ?_
      obtain⟨q,rfl⟩:=Q
      have b5:=oB w (xs.length+vs.length) c (ρ.t 3)
      have a0:=oC w (xs.length+vs.length) c (ρ.t 3) (by simp only[maxLen];omega)
      generalize grownCap w (xs.length+vs.length) c (ρ.t 3)=M at q b5 a0⊢
      refine done e w _ _ _ (.inl rfl) q (.inr (.inr ⟨M,_,_,rfl,rfl,?_,?_,a0,?_,?_⟩))
      ·simp[G]
      ·simp[G];omega
      ·simp only[oD,d8,qI,C2,X,K,Ty.cells]
       omega
      ·rw[gd]
       refine nu.mpr fun j x m=> ?_
       have J:=(aO.1 m).1
       rw[a9,lD,List.drop_length,gd] at m
       rw[iz,vO (by simp[X,K];omega),List.getElem?_toArray,show bZ xs++bZ vs=bZ (xs++vs) by simp[bZ]]
       simp only[bZ,ek,m,bn]
   ·have m:xs=[]:=li (by omega)
    exact e1 a m b6
 ·simp[ad.no,ad.run] at b4
end
end Go.Rv
namespace Go.Rv
open Go.Proofs Go.Shelf Go.RowKit
theorem Kept.below {w w':World} {S:Nat->Prop} (e: ∀b,S b->b<w.heap.size) (h:Below w.heap.size w w'):Kept S w w':=
 ⟨h.os,h.tape,h.output,h.size,fun b g=>h.block b (e b g),fun a f=>h.frozen f⟩
theorem wt {P:Program} {f:FuncId} {args:List Value} {w:World} {D:Nat->Prop} {ι:ba} {Q:Value->Prop} {r:AV} {mv:List Nat}
  (p:Calls P f args.toArray w fun e w'=> ∃v,e= .returned v/\Q v/\Below w.heap.size w w')
  (g: ∀v w',Q v->ah w' (dst D w' ι []) (sumOf ι []) r v):
  Calls P f args.toArray w (fun e w'=> ∃v i,e= .returned v/\Kept (aM w ι []) w w'/\eO D w' i []/\(∀b,aM w ι [] b->aM w' i [] b)/\
   (∀h,h<([]:Heap).length->(mv.contains h=true\/sumOf i [] h=sumOf ι [] h)/\ ∃x,([]:Heap)[h]? =some (some x))/\ah w' (dst D w' i []) (sumOf i []) r v):=by
 refine p.mono fun e w' ⟨v,q,z,j⟩=>⟨v,ι,q,Kept.below (fun b j=>j.1) j,⟨fun h r g=>by simp at g,fun h h' b o=>by obtain⟨r,g⟩:=o.row;simp at g,fun h b o=>by obtain⟨r,g⟩:=o.row;simp at g,fun h t xss m cs g=>by simp at g⟩,fun b n=>⟨gH n.1 j.size,n.2⟩,fun h y=>by simp at y,g v w' z⟩
section
variable {P : Program}
def DM:be:=fun avs H=>
 match avs,H with
 |[.aa .str s,.aa .str t],[]=>⟨Int,kx s t,fun n=>(.aa (.int .i64) n,[]),[],none⟩
 |_,_=>ad.no
theorem aeK {ρ:Ren} (L:Lays.n219 P ρ):Sound P (ρ.f 219) DM:=by
 intro avs H r E b D w args ι I F G J q
 unfold DM at b⊢
 split at b
 ·rename_i s t
  simp only[ad.run,ad.dec,cv] at b
  obtain⟨n,g,h⟩:=b
  cases h
  obtain⟨A,K,rfl,j,v1,z,rfl,m,i⟩:=q
  have i:z=[]:=i
  subst i
  have j:[A]=[.string s]:=j
  have m:[v1]=[.string t]:=m
  cases j
  cases m
  unfold kx at g
  split at g
  ·rename_i c p
   cases g
   have x:t=⟨#[c]⟩:=by
    rcases t with⟨⟨l⟩⟩
    simp only at p
    rw[p]
   subst x
   refine wt (Q:=fun v=>v= .int .i64 (Lib.indexByte s.data.toList c)) ((Any.stringslite_Index_one L s c w).mono fun e w' ⟨h,y⟩=>⟨_,h,rfl,by rw[y];exact Below.refl _ _⟩) ?_
   rintro v w' rfl
   rfl
  ·cases g
 ·simp[ad.no,ad.run] at b
def DN:be:=fun avs H=>
 match avs,H with
 |[.aa .str s],[]=>⟨Int×Bool,rt s,fun y=>(.aW [.aa (.int .i64) y.1,.aa .err y.2],[]),[],none⟩
 |_,_=>ad.no
theorem On {w:World} {S:Nat->Prop} (h:hb w S) {g:Nat} (f:jW g=some ⟨.err,[true]⟩): ∃b,w.cell? ⟨g,0,none⟩=some b/\(b= .nilIface\/ ∃m j,b= .iface m j):=by
 obtain⟨⟨_,_,h⟩,_⟩:=h g .err [true] f
 obtain⟨c,⟨v,rfl,t,p,i⟩,e⟩:=h 0 true rfl
 exact⟨v,by simpa using e 0 v rfl,.inr ⟨t,p,i⟩⟩
theorem aeL {ρ:Ren} (L:LaysC.n172 P ρ) (K:jW (ρ.g 15)=some ⟨.err,[true]⟩) (M:jW (ρ.g 16)=some ⟨.err,[true]⟩):Sound P (ρ.f 172) DN:=by
 intro avs H r Y h D w args ι a0 Z q a1 O
 unfold DN at h⊢
 split at h
 ·rename_i s
  simp only[ad.run,ad.dec,cv] at h
  obtain⟨y,i,b⟩:=h
  cases b
  obtain⟨X,V,rfl,p,n⟩:=O
  have n:V=[]:=n
  subst n
  have p:[X]=[.string s]:=p
  cases p
  unfold rt at i
  split at i
  ·rename_i z
   cases i
   obtain⟨I,A,F⟩:=On q K
   obtain⟨J,E,G⟩:=On q M
   refine wt (Q:=fun v=> ∃x,v= .tuple #[.int .i64 (ed s).1,x]/\oF (ed s).2 x) ?_ ?_
   ·unfold ed
    cases j:Lib.atoiAll s.data.toList with
    |ok v=>
     refine(Any.strconv_Atoi_ok L s (by omega) v j w).mono fun e w' ⟨b,R⟩=>⟨_,b,⟨_,rfl,rfl⟩,?_⟩
     rcases R with rfl|⟨t,rfl⟩
     ·exact Below.refl _ _
     ·exact Lib.bytesWorld_below _ _ _
    |range=>exact(Any.strconv_Atoi_range L s z j J w E G).mono fun e w' ⟨N,b,_,_,m⟩=>⟨_,b,⟨_,rfl,_,_,rfl⟩,m⟩
    |_=>exact(Any.strconv_Atoi_syntax L s z j I w A F).mono fun e w' ⟨N,b,_,_,m⟩=>⟨_,b,⟨_,rfl,_,_,rfl⟩,m⟩
   ·rintro v w' ⟨x,rfl,U⟩
    exact⟨[_,x],rfl,_,_,rfl,rfl,x,[],rfl,⟨x,rfl,U⟩,rfl⟩
  ·cases i
 ·simp[ad.no,ad.run] at h
end
end Go.Rv
namespace Go.Rv
open Go.Proofs Go.Shelf Go.RowKit
section
variable {P : Program}
def DO:be:=fun avs H=>
 match avs,H with
 |[.aa (.int .i64) n],[]=>⟨ByteArray,pj n,fun s=>(.aa .str s,[]),[],none⟩
 |_,_=>ad.no
theorem aeM {w:World} {S:Nat->Prop} (h:hb w S) {g:Nat} {name:String} {k:IntKind} {zs:List Int} (n:jW g=some ⟨.int k,zs⟩) (p:P.globalNamed name=some g):TabIs P w name k zs:=by
 obtain⟨⟨_,_,r⟩,cs,e,t,b,q⟩:=h g (.int k) zs n
 unfold TabIs var?
 rw[p,ac,b]
 simp only
 congr 1
 refine rg (by simpa[Ty.cells] using q) fun i f j=> ?_
 have hi:i<zs.length:=by simpa using j
 obtain⟨c,hd,m⟩:=r i zs[i] (bh hi)
 have hd:c=[.int k zs[i]]:=hd
 subst hd
 have:=m 0 _ rfl
 simp only[cell?,iz,Ty.cells,Nat.mul_one,gY,b] at this
 rw[C0 f] at this
 simpa using this
theorem aeN {ρ:Ren} (L:LaysM.n171 P ρ) (x:jW (ρ.g 17)=some ⟨.int .u64,Lib.pow10Tab⟩) (z:P.globalNamed "internal/strconv.uint64pow10" =some (ρ.g 17)):Sound P (ρ.f 171) DO:=by
 intro avs H r I b D w args ι K J y M t
 unfold DO at b⊢
 split at b
 ·rename_i n
  simp only[ad.run,ad.dec,cv] at b
  obtain⟨s,h,i⟩:=b
  cases i
  obtain⟨G,F,rfl,m,j⟩:=t
  have j:F=[]:=j
  subst j
  have m:[G]=[.int .i64 n]:=m
  cases m
  unfold pj at h
  split at h
  ·rename_i p
   cases h
   refine wt (Q:=fun v=>v= .string ⟨(itoa n).toArray⟩) ((Any.strconv_Itoa L n p.1 p.2 w (aeM y x z)).mono fun e w' ⟨i,k,os,E⟩=>⟨_,i,rfl,?_⟩) ?_
   ·subst E
    refine⟨rfl,rfl,rfl,?_,fun q A=> ?_⟩
    ·show w.heap.size<=(w.heap++os).size
     simp
    ·show(w.heap++os)[q]? =w.heap[q]?
     rw[vO A]
   ·rintro v w' rfl
    rfl
  ·cases h
 ·simp[ad.no,ad.run] at b
def DP:be:=fun avs H=>
 match avs,H with
 |[.aa (.list .str) xs,.aa .str sep],[]=>⟨ByteArray,vZ xs sep,fun s=>(.aa .str s,[]),[],none⟩
 |_,_=>ad.no
theorem aeO {ρ:Ren} (L:Lays.n156 P ρ) (X:Builder.Extra P ρ):Sound P (ρ.f 156) DP:=by
 intro avs H r O g D w args ι Y R V Z A
 unfold DP at g⊢
 split at g
 ·rename_i xs sep
  simp only[ad.run,ad.dec,cv] at g
  obtain⟨s,m,i⟩:=g
  cases i
  obtain⟨a1,a0,rfl,J,v1,M,rfl,p,n⟩:=A
  have n:M=[]:=n
  subst n
  have p:[v1]=[.string sep]:=p
  cases p
  obtain⟨a,cap,y,G,K⟩:=J
  cases y
  unfold vZ at m
  split at m
  ·rename_i U
   cases m
   refine wt (Q:=fun v=>v= .string ⟨(join (xs.map (·.data.toList)) sep.data.toList).toArray⟩) ?_ ?_
   ·by_cases t:xs=[]
    ·subst t
     exact(Any.strings_Join_none L X a cap sep w).mono fun e w' ⟨i,q⟩=>⟨_,i,rfl,by rw[q];exact Below.refl _ _⟩
    ·rcases K with h|⟨b,o,rfl,_,E,z⟩
     ·exact absurd h t
     ·refine(Any.strings_Join L X b o cap xs sep w (fun j x I=> ?_) E (by omega) G (by omega)).mono fun e w' ⟨i,q⟩=>⟨_,i,rfl,q⟩
      obtain⟨c,hd,F⟩:=z j x I
      have hd:c=[.string x]:=hd
      subst hd
      simpa[Ty.cells] using F 0 _ rfl
   ·rintro v w' rfl
    rfl
  ·cases m
 ·simp[ad.no,ad.run] at g
end
end Go.Rv
namespace Go.Rv
open Go.Proofs Go.Shelf Go.RowKit Go.Lib
def wu:be:=fun avs H=>
 match avs,H with
 |[.aa (.list u) xs],[]=>cond (beq u.cells 1) ⟨List u.den,pi xs,fun ys=>(.ab 0,[some (.seq u ys)]),[],none⟩ ad.no
 |_,_=>ad.no
section
variable {P : Program} {ρ : Ren}
set_option maxHeartbeats 2000000 in
set_option maxRecDepth 100000 in
theorem aeP (L:SlLaysE0.n41 P ρ) (b:TypeInfo) (z:Value) (bytes:Nat) (hi:P.info? (ρ.t 23)=some b) (D:b.zero=some z) (E:b.size=1) (F:b.bytes=bytes) (G:z.cells.size=1)
  (V: ∀w,(Go.sizeOf (ρ.t 23)).run P w= .ok 1 w) (a:Addr) (c:Nat) (w:World):
  Calls P (ρ.f 41) #[.slice (some a) 0 c] w fun e w'=> ∃g,e= .returned g/\w'.ownsRow w.heap.size (ρ.t 23) 1 g 0 []/\g≠ .slice none 0 0/\Below w.heap.size w w':=by
 have mixed:=L.mixed;have M:=L.t4;have J:=L.a4;have X:=L.z4;have R:=L.v4;have m:=L.t22;have I:=L.a22;have U:=L.z22;have Q:=L.v22
 have K: ∀(w:World) (a:Option Addr) (n c i h:Nat),(binOp .eql (ρ.t 22) (.slice a n c) (.slice none i h)).run P w= .ok (.bool a.isNone) w:=fun w a n c i h=>Lib.run_eql_slice_nil w _ _ a n c i h L.t22
 have O: ∀w,Sem.run P (underlying (ρ.t 22)) w= .ok (TypeDesc.slice (ρ.t 23)) w:=bi m
 obtain⟨_,_,p⟩:=L.f41
 go_enter p,SlBodyN.n41_ntmps ρ
 go_wp2_with (at_builtin;refine wpList_append_own _ rfl _ _ (ρ.t 22) rfl w.heap.size (ρ.t 23) b z 1 bytes m hi D E F G (by decide) _ _ _ rfl (World.ownsRow_made w #[] 0 (aS _) (vP _) (by simp)) a 0 c [] rfl (by simp) (by intro j u r;simp at r) (by intro u A;cases A) (by unfold maxLen;omega) (by omega) (by simp) ?_)
 intro g w1 y q x
 go_wp2
 go_ret
 refine⟨g,rfl,by simpa using y,?_,?_⟩
 ·exact x
 ·exact((Below.refl _ w).alloc (aS _) _).grown q (by simp) (by intro k v;simp[Value.ownBlock] at v;omega)
theorem aC.Oo {w:World} {S:Nat->Prop} {σ:Nat->Option Sum} {u:Ty} {xs:List u.den} {vs:List Value} (h:aC w S σ (xs.map (AV.aa u)) vs) {i:Nat} {x:u.den} (f:xs[i]? =some x): ∃v,vs[i]? =some v/\ay w S u x [v]:=by
 obtain⟨v,b,e⟩:=aC.get _ _ i (.aa u x) h (by rw[ek,f];rfl)
 exact⟨v,b,e⟩
theorem DQ {f:FuncId} {args:List Value} {w:World} {D:Nat->Prop} {ι:ba} (a3: ∀b,w.heap.size<=b->D b) {u:Ty} (Q:u.cells=1) {xs:List u.den} {e:TypeId} {vs:List Value}
  (a7:aC w (dst D w ι []) (sumOf ι []) (xs.map (AV.aa u)) vs)
  (X:Calls P f args.toArray w fun L w'=> ∃v,L= .returned v/\w'.ownsRow w.heap.size e 1 v xs.length vs/\Below w.heap.size w w') {mv:List Nat}:
  Calls P f args.toArray w (fun e w'=> ∃v A,e= .returned v/\Kept (aM w ι []) w w'/\eO D w' A [some (.seq u xs)]/\(∀b,aM w ι [] b->aM w' A [some (.seq u xs)] b)/\
   (∀h,h<([]:Heap).length->(mv.contains h=true\/sumOf A [some (.seq u xs)] h=sumOf ι [] h)/\ ∃x,([some (.seq u xs)]:Heap)[h]? =some (some x))/\ah w' (dst D w' A [some (.seq u xs)]) (sumOf A [some (.seq u xs)]) (.ab 0) v):=by
 refine X.mono fun L w' ⟨v,M,⟨b0,a4⟩,n⟩=> ?_
 have G: ∀{h:Nat} {r:Row},([some (.seq u xs)]:Heap)[h]? =some (some r)->h=0/\r= .seq u xs:=fun {h r} q=>by
  cases h with
  |zero=>simp at q;exact⟨rfl,q.symm⟩
  |succ h=>simp at q
 rcases a4 with⟨rfl,a2⟩|⟨g,cap,V,rfl,a0,Y,a1,Z,a5,a6⟩
 ·have I:xs=[]:=li a2
  subst I
  have E: ∀{h b:Nat},¬aP (⟨fun _=>none,fun _ _=>none⟩:ba) [some (.seq u [])] h b:=fun {h b} o=>by
   cases o with
   |out r p q z e=>cases z
   |aw t xss m cs i p q hi z e=>cases z
  refine⟨_,⟨fun _=>none,fun _ _=>none⟩,M,Kept.mk n.os n.tape n.output n.size (fun b h=>n.block b h.1) (fun a J=>n.frozen J),⟨fun h r q=> ?_,fun h h' b o=>absurd o E,fun h b o=>absurd o E,fun h t xss m cs q=>by cases (G q).2⟩,fun b F=>⟨gH F.1 n.size,fun h=>E⟩,fun h K=>by simp at K,⟨_,rfl,rfl,rfl,none,rfl⟩⟩
  obtain⟨rfl,rfl⟩:=G q
  rfl
 ·let A:ba:=⟨fun h=>if h=0 then some (g,0,cap) else none,fun _ _=>none⟩
  have E: ∀{h b:Nat},aP A [some (.seq u xs)] h b->h=0/\b=g:=fun {h b} o=>by
   cases o with
   |out r p q z e=>
    obtain⟨rfl,rfl⟩:=G q
    have z:some (g,0,cap)=some p:=z
    cases z
    exact⟨rfl,e.symm⟩
   |aw t xss m cs i p q hi z e=>cases z
  have O: ∀b,aM w ι [] b->aM w' A [some (.seq u xs)] b:=fun b F=>⟨gH F.1 n.size,fun h o=>by
   have:=(E o).2
   have:=F.1
   omega⟩
  refine⟨_,A,M,Kept.mk n.os n.tape n.output n.size (fun b h=>n.block b h.1) (fun a J=>n.frozen J),⟨fun h r q=> ?_,fun h h' b o a9=>(E o).1.trans (E a9).1.symm,fun h b o=>a3 b (by rw[(E o).2];exact a0),fun h t xss m cs q=>by cases (G q).2⟩,O,fun h K=>by simp at K,⟨_,rfl,?_⟩⟩
  ·obtain⟨rfl,rfl⟩:=G q
   refine⟨V,e,Y,by rw[a5,Q,iz],a1,Z,fun i x I=> ?_⟩
   obtain⟨v,R,a8⟩:=a7.Oo I
   refine⟨[v],ay.mono n.size (fun b F _=>⟨⟨F.1,O b F.2⟩,n.block b F.2.1⟩) _ _ _ a8,fun j y U=> ?_⟩
   cases j with
   |zero=>
    cases U
    have hi:=(aO.1 I).1
    rw[<-a6,qG,aB (by omega)] at R
    simpa[Q] using R
   |succ j=>simp at U
  ·show 0+xs.length<=cap/\_
   exact⟨by omega,.inl (by simp[Row.len])⟩
theorem Oq (L:SlLaysE0.n41 P ρ) (p:TypeInfo) (z:Value) (bytes:Nat) (hi:P.info? (ρ.t 23)=some p) (M:p.zero=some z) (O:p.size=1) (Q:p.bytes=bytes) (R:z.cells.size=1) (a1:bytes<=128)
  (U: ∀w,(Go.sizeOf (ρ.t 23)).run P w= .ok 1 w):Sound P (ρ.f 41) wu:=by
 intro avs H r a9 j D w args ι A b0 b2 b4 a0
 unfold wu at j⊢
 split at j
 ·rename_i u xs
  cases g:beq u.cells 1 with
  |false=>rw[g] at j;simp[ad.no,ad.run] at j
  |true=>
   have g:=q6 g
   simp only[g,q7,au] at j⊢
   simp only[ad.run,ad.dec,cv] at j
   obtain⟨ys,q,m⟩:=j
   cases m
   unfold pi at q
   split at q
   ·rename_i a3
    cases q
    obtain⟨b7,a8,rfl,a5,F⟩:=a0
    have F:a8=[]:=F
    subst F
    obtain⟨a,cap,X,b1,K⟩:=a5
    cases X
    cases a with
    |none=>
     have n:xs=[]:=by
      rcases K with h|⟨b,o,h,_⟩
      ·exact h
      ·cases h
     subst n
     exact DQ (ι:=ι) A g (xs:=[]) (vs:=[]) (e:=ρ.t 23) rfl ((AnyE.slices_Clone_nil L 0 cap w).mono fun e w' ⟨m,a7⟩=>⟨_,m,⟨rfl,.inl ⟨rfl,rfl⟩⟩,by rw[a7];exact Below.refl _ _⟩)
    |some V=>
     by_cases n:xs=[]
     ·subst n
      exact DQ (ι:=ι) A g (xs:=[]) (vs:=[]) (e:=ρ.t 23) rfl ((aeP L p z bytes hi M O Q R U V cap w).mono fun e w' ⟨v,m,E,_,y⟩=>⟨v,m,E,y⟩)
     ·rcases K with h|⟨b,o,h,_,_,Z⟩
      ·exact absurd h n
      ·cases h
       obtain⟨vs,G,a6⟩:=qW (σ:=sumOf ι []) g xs o (fun i x n=>by
        obtain⟨cs,hd,a2⟩:=Z i x n
        exact⟨cs,hd,by simpa[g] using a2⟩)
       have b5:vs.length=xs.length:=by simpa using G.length
       exact DQ A g (e:=ρ.t 23) G ((AnyE.slices_Clone L p z 1 bytes hi M O Q R (by decide) U b o xs.length cap vs w (by omega) (by unfold maxLen;omega) (fy (fz a3 a1) (by omega)) a6 (fun v a4=>by
        obtain⟨i,J⟩:=List.getElem?_of_mem a4
        have b3:=(aO.1 J).1
        obtain⟨b6,I,Y⟩:=G.Oo (bh (show i<xs.length by omega))
        rw[J] at I
        cases I
        exact ay.one _ _ _ Y v (uY.2 rfl))).mono fun e w' ⟨v,m,E,_,y⟩=>⟨v,m,E,y⟩)
   ·cases q
 ·simp[ad.no,ad.run] at j
end
end Go.Rv
