/-
  The framework: data,rows,steps. Conditions: none.
-/
import GoSem.ClaimData
import Derived.Orders
import Derived.Laws.Append
import Derived.Laws.CopyRow
import Derived.Laws.Rows
import Derived.RowKit3
import Derived.Laws.AppendOwn
open Nat (beq ble blt)
open Go.Instr (sureAddr indexAt loadAt sliceBounds sliceAt storeAt buildSlice fieldAt field fill makeSlice)
open List (replicate range)
open Go.Builtin (append_ firstCells lenOf copy_ nextslicecap zeroCells)
open BitVec (ofInt)
open Go.Op (equal intCmp equalIn intArith intBits unary)
open Go.Value (oneCell')
open Go.Act (eval)
open ByteArray (empty)
open Go.IntKind (wrap signed)
set_option linter.all false
namespace Go.Rv
def ac:=@Option.bind_some
def au:=@cond_true
def aB:=@if_pos
def aE:=@Sem.run_bind
def aG:=@if_neg
def aO:=@List.getElem?_eq_some_iff
def aS:=@Nat.le_refl
def aT:=@Bool.and_eq_true
def bh:=@List.getElem?_eq_getElem
def bi:=@run_underlying
def ce:=@beq_iff_eq
def ck:=@List.length_cons
def dM:=@List.map_cons
def ei:=@Result.andThen_ok
def ej:=@List.mem_cons
def ek:=@List.getElem?_map
def eA:=@Bool.or_eq_true
def eB:=@Option.some.injEq
def eN:=@List.length_map
def fy:=@Nat.le_trans
def fz:=@Nat.mul_le_mul
def fZ:=@Ne.symm
def ga:=@Option.some.inj
def gv:=@Bool.not_eq_true'
def gH:=@Nat.lt_of_lt_of_le
def gI:=@Prod.mk.injEq
def gY:=@Nat.add_zero
def hA:=@List.getElem?_set_ne
def hB:=@List.ext_getElem?
def hC:=@List.nil_append
def ig:=@Nat.mul_le_mul_right
def ih:=@Option.getD_some
def jb:=@List.mem_append
def jc:=@if_false
def jd:=@Nat.le_of_ble_eq_true
def je:=@setRow_heap
def jf:=@List.mem_of_getElem?
def jg:=@Array.getElem?_eq_some_iff
def jh:=@List.length_nil
def lg:=@Nat.add_assoc
def lh:=@List.getElem?_append_right
def li:=@List.eq_nil_of_length_eq_zero
def lj:=@List.getElem_of_mem
def mL:=@Array.getD_eq_getD_getElem?
def mM:=@Sem.run_pure
def mN:=@List.getElem?_drop
def mO:=@List.all_cons
def mP:=@List.getElem?_cons_succ
def mQ:=@List.getElem?_append_left
def mR:=@List.length_take
def ox:=@List.getElem?_set
def oy:=@Nat.lt_irrefl
def oz:=@List.length_drop
def oA:=@List.mem_iff_getElem
def oB:=@grownCap_ge
def oC:=@grownCap_le_maxLen
def oD:=@Array.size_append
def oE:=@Nat.add_mul
def qG:=@List.getElem?_take
def qH:=@heap_alloc_new
def qI:=@List.size_toArray
def uY:=@List.mem_singleton
def uZ:=@heap_alloc_old
def u0:=@setRow_other
def u1:=@List.take_append_drop
def u2:=@Bool.or_eq_false_iff
def BX:=@run_loadCells_list
def BY:=@size_zeroCells
def Mw:=@List.length_eq_one_iff
inductive Ty where
 |int (k:IntKind)|bool|str|list (t:Ty)|unit|pair (a b:Ty)|val|err
 deriving DecidableEq
@[reducible] def Ty.den:Ty->Type
 | .int _=>Int
 | .bool=>Bool
 | .str=>ByteArray
 | .list t=>List t.den
 | .unit=>Unit
 | .pair a b=>a.den×b.den
 | .val=>Value
 | .err=>Bool
end Go.Rv
namespace Go.Rv
def Mx:List Int:=[0,1,28,2,29,14,24,3,30,22,20,15,25,17,4,8,31,27,13,23,21,19,16,7,26,12,18,6,11,5,10,9]
def u3:List Int:=[0,1,56,2,57,49,28,3,61,58,42,50,38,29,17,4,62,47,59,36,45,43,51,22,53,39,33,30,24,18,12,5,63,55,48,27,60,41,37,16,46,35,44,21,52,32,23,11,54,26,40,15,34,20,31,10,25,14,19,9,13,8,7,6]
def My:List Bool:=[true]
def Mz:List Int:=[1,10,100,1000,10000,100000,1000000,10000000,100000000,1000000000,10000000000,100000000000,1000000000000,10000000000000,100000000000000,1000000000000000,10000000000000000,100000000000000000,1000000000000000000,10000000000000000000]
def cM:List ByteArray:=[⟨#[104,101,97,100]⟩,⟨#[97,100,100]⟩,⟨#[100,114,111,112]⟩,⟨#[116,117,114,110]⟩,⟨#[102,108,97,116]⟩,⟨#[98,97,99,107]⟩]
def jW:Nat->Option ((t:Ty)×List t.den)
 |0=>some ⟨.str,cM⟩
 |1=>some ⟨.err,My⟩
 |2=>some ⟨.err,My⟩
 |4=>some ⟨(.int .u8),Mx⟩
 |5=>some ⟨(.int .u8),u3⟩
 |8=>some ⟨(.int .u64),Mz⟩
 |_=>none
end Go.Rv
namespace Go.Rv
def Ty.cells:Ty->Nat
 | .unit=>0
 | .pair a b=>a.cells+b.cells
 |_=>1
def oF (b:Bool) (v:Value):Prop:=cond b (∃t p,v= .iface t p) (v= .nilIface)
def fe (w:World) (b o:Nat) (cs:List Value):Prop:= ∀j v,cs[j]? =some v->w.cell? ⟨b,o+j,none⟩=some v
def ay (w:World) (S:Nat->Prop):(t:Ty)->t.den->List Value->Prop
 | .int k,x,cs=>cs=[.int k x]
 | .bool,x,cs=>cs=[.bool x]
 | .str,x,cs=>cs=[.string x]
 | .unit,_,cs=>cs=[]
 | .pair a b,x,cs=> ∃d e,cs=d++e/\ay w S a x.1 d/\ay w S b x.2 e
 | .val,x,cs=>cs=[x]/\x.oneCell'=true
 | .err,x,cs=> ∃v,cs=[v]/\oF x v
 | .list t,xs,cs=> ∃a cap,cs=[.slice a xs.length cap]/\xs.length<=cap/\
   (xs=[]\/ ∃b o,a=some ⟨b,o,none⟩/\S b/\b<w.heap.size/\ ∀(i:Nat) x,xs[i]? =some x-> ∃c,ay w S t x c/\fe w b (o+i*t.cells) c)
theorem fe.mono {w w':World} {b o:Nat} {cs:List Value} (h:fe w b o cs) (c:w'.heap[b]? =w.heap[b]?):fe w' b o cs:=by
 intro j v a
 have:=h j v a
 grind [World.cell?]
theorem ay.mono {w w':World} {S S':Nat->Prop} (d:w.heap.size<=w'.heap.size) (h: ∀b,S b->b<w.heap.size->S' b/\w'.heap[b]? =w.heap[b]?):
  ∀(t:Ty) (x:t.den) (cs:List Value),ay w S t x cs->ay w' S' t x cs
 | .int _,_,_,hd=>hd
 | .bool,_,_,hd=>hd
 | .str,_,_,hd=>hd
 | .unit,_,_,hd=>hd
 | .val,_,_,hd=>hd
 | .err,_,_,hd=>hd
 | .pair a b,_,_,⟨k,l,e,m,n⟩=>⟨k,l,e,ay.mono d h a _ _ m,ay.mono d h b _ _ n⟩
 | .list t,xs,cs,⟨a,cap,e,y,g⟩=>by
  refine⟨a,cap,e,y,?_⟩
  rcases g with g|⟨b,o,p,j,f,q⟩
  ·exact .inl g
  ·refine .inr ⟨b,o,p,(h b j f).1,gH f d,fun i x z=> ?_⟩
   obtain⟨c,r,v⟩:=q i x z
   exact⟨c,ay.mono d h t x c r,v.mono (h b j f).2⟩
theorem ay.length {w:World} {S:Nat->Prop}: ∀(t:Ty) (x:t.den) (cs:List Value),ay w S t x cs->cs.length=t.cells
 | .int _,_,_,hd=>by simp only[ay] at hd;subst hd;rfl
 | .bool,_,_,hd=>by simp only[ay] at hd;subst hd;rfl
 | .str,_,_,hd=>by simp only[ay] at hd;subst hd;rfl
 | .unit,_,_,hd=>by simp only[ay] at hd;subst hd;rfl
 | .val,_,_,hd=>by simp only[ay] at hd;obtain⟨hd,_⟩:=hd;subst hd;rfl
 | .err,_,_,⟨v,e,_⟩=>by subst e;rfl
 | .pair a b,_,_,⟨f,g,e,c,d⟩=>by
  subst e;simp[Ty.cells,ay.length a _ _ c,ay.length b _ _ d]
 | .list t,_,_,⟨_,_,e,_⟩=>by subst e;rfl
theorem ay.one {w:World} {S:Nat->Prop}: ∀(t:Ty) (x:t.den) (cs:List Value),ay w S t x cs-> ∀v∈cs,v.oneCell'=true
 | .int _,_,_,hd=>by grind [ay,oneCell']
 | .bool,_,_,hd=>by grind [ay,oneCell']
 | .str,_,_,hd=>by grind [ay,oneCell']
 | .unit,_,_,hd=>by grind [ay]
 | .val,_,_,hd=>by grind [ay]
 | .err,x,_,⟨u,e,h⟩=>by
  subst e;intro v c;rw[uY.mp c]
  cases x with
  |false=>have h:u= .nilIface:=h;rw[h];rfl
  |true=>obtain⟨t,p,h⟩:=h;rw[h];rfl
 | .pair a b,_,_,⟨g,i,e,d,f⟩=>by
  subst e;intro v c
  rcases jb.1 c with h|h
  ·exact ay.one a _ _ d v h
  ·exact ay.one b _ _ f v h
 | .list t,_,_,⟨_,_,e,_⟩=>by grind [oneCell']
inductive AV where
 |undef
 |aa (t:Ty) (x:t.den)
 |aI
 |ab (h:Nat)
 |win (h off len:Nat)
 |ptr (h off:Nat)
 |bW (h i off:Nat)
 |gb (t:Ty) (x:t.den) (off:Nat)
 |tab (t:Ty) (xs:List t.den)
 |agg (cs:List AV)
 |aW (cs:List AV)
 |fn (f:FuncId) (first caps:List AV)
 |raw (v:Value)
 |gw (kvs:List (Value×Go.Fn))
 |el (c:AV)
inductive Row where
 |seq (t:Ty) (xs:List t.den)
 |box (cs:List AV)
 |nest (t:Ty) (xss:List (List t.den)) (m:Nat) (cs:List AV)
abbrev Heap:=List (Option Row)
structure St where
 env:List AV
 heap:Heap
structure Sum where
 place:Option (Nat×Nat×Nat)
 cells:Nat
 len:Nat
def Row.cells:Row->Nat
 | .seq t _=>t.cells
 | .box _=>1
 | .nest _ _ _ _=>1
def Row.len:Row->Nat
 | .seq _ xs=>xs.length
 | .box cs=>cs.length
 | .nest _ xss _ _=>xss.length
def Row.deep:Row->Bool
 | .nest _ _ _ _=>true
 |_=>false
def ii (w:World) (S:Nat->Prop) (b o:Nat) (t:Ty) (xs:List t.den):Prop:=
 S b/\b<w.heap.size/\ ∀(i:Nat) x,xs[i]? =some x-> ∃c,ay w S t x c/\fe w b (o+i*t.cells) c
theorem ii.mono {w w':World} {S S':Nat->Prop} (e:w.heap.size<=w'.heap.size) (h: ∀b,S b->b<w.heap.size->S' b/\w'.heap[b]? =w.heap[b]?) {b o:Nat} {t:Ty} {xs:List t.den}
  (k:ii w S b o t xs):ii w' S' b o t xs:=by
 obtain⟨d,a,f⟩:=k
 refine⟨(h b d a).1,gH a e,fun i x l=> ?_⟩
 obtain⟨c,g,j⟩:=f i x l
 exact⟨c,ay.mono e h t x c g,j.mono (h b d a).2⟩
structure ba where
 out:Nat->Option (Nat×Nat×Nat)
 aw:Nat->Nat->Option (Nat×Nat×Nat)
instance:CoeFun ba (fun _=>Nat->Option (Nat×Nat×Nat)):=⟨ba.out⟩
def sumOf (ι:ba) (H:Heap) (h:Nat):Option Sum:=
 match H[h]? with
 |some (some r)=>some ⟨ι h,r.cells,r.len⟩
 |_=>none
def br (s:Sum) (off len:Nat) (v:Value):Prop:=
 match s.place with
 |some (b,o,c)=>off+len<=c/\(v= .slice (some ⟨b,o+off*s.cells,none⟩) len (c-off)\/(off=c/\ ∃a,v= .slice a 0 0))
 |none=>off=0/\len=0/\ ∃a,v= .slice a 0 0
mutual
def ah (w:World) (S:Nat->Prop) (σ:Nat->Option Sum):AV->Value->Prop
 | .undef,_=>True
 | .aa t x,v=>ay w S t x [v]
 | .aI,v=> ∃a,v= .slice a 0 0
 | .ab h,v=> ∃s,σ h=some s/\br s 0 s.len v
 | .win h off len,v=> ∃s,σ h=some s/\off+len<=s.len/\br s off len v
 | .ptr h off,v=> ∃s b o c,σ h=some s/\s.place=some (b,o,c)/\v= .pointer (some ⟨b,o+off,none⟩)
 | .bW h i off,v=> ∃s b o c,σ h=some s/\s.place=some (b,o,c)/\i<s.len/\v= .pointer (some ⟨b,o+i*s.cells+off,none⟩)
 | .gb t x off,v=> ∃b o cs,v= .pointer (some ⟨b,o+off,none⟩)/\S b/\b<w.heap.size/\ay w S t x cs/\fe w b o cs
 | .tab t xs,v=> ∃b o,v= .pointer (some ⟨b,o,none⟩)/\ii w S b o t xs
 | .agg cs,v=> ∃vs:List Value,v= .agg vs.toArray/\aC w S σ cs vs
 | .aW cs,v=> ∃vs:List Value,v= .tuple vs.toArray/\aC w S σ cs vs
 | .fn f a b,v=> ∃g j:List Value,v= .func (.func f) g.toArray j.toArray/\aC w S σ a g/\aC w S σ b j
 | .raw u,v=>v=u
 | .gw k,v=> ∃b d c,v= .map (some b)/\S b/\b<w.heap.size/\w.heap[b]? =some (.map d c)/\d.toList.map (fun e=>(e.key,e.val))=k.map (fun p=>(p.1,Value.func p.2 #[] #[]))
 | .el c,v=> ∃b o u,v= .pointer (some ⟨b,o,none⟩)/\S b/\b<w.heap.size/\fe w b o [u]/\ah w S σ c u
def aC (w:World) (S:Nat->Prop) (σ:Nat->Option Sum):List AV->List Value->Prop
 |[],vs=>vs=[]
 |a::r,vs=> ∃v b,vs=v::b/\ah w S σ a v/\aC w S σ r b
end
mutual
def AV.refs:AV->Nat->Bool
 | .ab h,g| .win h _ _,g| .ptr h _,g| .bW h _ _,g=>h==g
 | .agg cs,g| .aW cs,g=>cf cs g
 | .fn _ a b,g=>cf a g||cf b g
 | .el c,g=>c.refs g
 |_,_=>false
def cf:List AV->Nat->Bool
 |[],_=>false
 |a::r,g=>a.refs g||cf r g
end
mutual
theorem ah.mono {w w':World} {S S':Nat->Prop} {σ r:Nat->Option Sum} (k:w.heap.size<=w'.heap.size) (h: ∀b,S b->b<w.heap.size->S' b/\w'.heap[b]? =w.heap[b]?):
  ∀(a:AV) (v:Value),(∀g,a.refs g=true->r g=σ g)->ah w S σ a v->ah w' S' r a v
 | .undef,_,_,_=>trivial
 | .aa t x,v,_,j=>ay.mono k h t x _ j
 | .aI,_,_,j=>j
 | .ab g,_,d,⟨s,f,m⟩=>⟨s,(d g (by simp[AV.refs])).trans f,m⟩
 | .win g _ _,_,d,⟨s,f,m⟩=>⟨s,(d g (by simp[AV.refs])).trans f,m⟩
 | .ptr g _,_,d,⟨s,b,o,c,f,m⟩=>⟨s,b,o,c,(d g (by simp[AV.refs])).trans f,m⟩
 | .bW g _ _,_,d,⟨s,b,o,c,f,m⟩=>⟨s,b,o,c,(d g (by simp[AV.refs])).trans f,m⟩
 | .gb t x _,_,_,⟨b,o,cs,e,f,i,hd,n⟩=>⟨b,o,cs,e,(h b f i).1,gH i k,ay.mono k h t x _ hd,n.mono (h b f i).2⟩
 | .tab _ _,_,_,⟨b,o,e,E⟩=>⟨b,o,e,E.mono k h⟩
 | .agg cs,_,d,⟨vs,e,j⟩=>⟨vs,e,aC.mono k h cs vs (fun g l=>d g (by simpa[AV.refs] using l)) j⟩
 | .aW cs,_,d,⟨vs,e,j⟩=>⟨vs,e,aC.mono k h cs vs (fun g l=>d g (by simpa[AV.refs] using l)) j⟩
 | .fn _ a b,_,d,⟨p,q,e,z,A⟩=>⟨p,q,e,aC.mono k h a p (fun g l=>d g (by simp[AV.refs,l])) z,aC.mono k h b q (fun g l=>d g (by simp[AV.refs,l])) A⟩
 | .raw _,_,_,j=>j
 | .gw _,_,_,⟨b,y,c,e,f,i,C,D⟩=>⟨b,y,c,e,(h b f i).1,gH i k,(h b f i).2.trans C,D⟩
 | .el c,_,d,⟨b,o,u,e,f,i,n,j⟩=>⟨b,o,u,e,(h b f i).1,gH i k,n.mono (h b f i).2,ah.mono k h c u (fun g l=>d g (by simpa[AV.refs] using l)) j⟩
theorem aC.mono {w w':World} {S S':Nat->Prop} {σ j:Nat->Option Sum} (f:w.heap.size<=w'.heap.size) (h: ∀b,S b->b<w.heap.size->S' b/\w'.heap[b]? =w.heap[b]?):
  ∀(a:List AV) (v:List Value),(∀g,cf a g=true->j g=σ g)->aC w S σ a v->aC w' S' j a v
 |[],_,_,m=>m
 |a::r,_,d,⟨v,i,e,k,l⟩=>⟨v,i,e,ah.mono f h a v (fun g c=>d g (by simp[cf,c])) k,aC.mono f h r i (fun g c=>d g (by simp[cf,c])) l⟩
end
theorem aC.length {w:World} {S:Nat->Prop} {σ:Nat->Option Sum}: ∀(a:List AV) (v:List Value),aC w S σ a v->v.length=a.length
 |[],_,d=>by grind [aC]
 |a::r,_,⟨v,c,e,_,b⟩=>by subst e;simp[aC.length r c b]
theorem aC.get {w:World} {S:Nat->Prop} {σ:Nat->Option Sum}: ∀(a:List AV) (v:List Value) (i:Nat) (x:AV),aC w S σ a v->a[i]? =some x-> ∃u,v[i]? =some u/\ah w S σ x u
 |[],_,_,_,_,h=>by simp at h
 |a::r,_,0,x,⟨v,b,e,d,_⟩,h=>by simp_all
 |a::r,_,i+1,x,⟨v,b,e,_,c⟩,h=>by subst e;simp at h;obtain⟨u,g,f⟩:=aC.get r b i x c h;simp_all
def Row.refs:Row->Nat->Bool
 | .seq _ _,_=>false
 | .box cs,g=>cf cs g
 | .nest _ _ _ cs,g=>cf cs g
inductive aP (ι:ba) (H:Heap) (h b:Nat):Prop where
 |out (r:Row) (p:Nat×Nat×Nat) (hr:H[h]? =some (some r)) (hp:ι h=some p) (e:p.1=b)
 |aw (t:Ty) (xss:List (List t.den)) (m:Nat) (cs:List AV) (i:Nat) (p:Nat×Nat×Nat) (hr:H[h]? =some (some (.nest t xss m cs))) (hi:i<xss.length) (hp:ι.aw h i=some p) (e:p.1=b)
def aM (w:World) (ι:ba) (H:Heap) (b:Nat):Prop:=
 b<w.heap.size/\ ∀h,¬aP ι H h b
theorem aM.off {w:World} {ι:ba} {H:Heap} {b:Nat} (h:aM w ι H b) (g:Nat) (r:Row) (p:Nat×Nat×Nat) (c:H[g]? =some (some r)) (a:ι g=some p):p.1≠b:=
 fun e=>h.2 g (.out r p c a e)
theorem aP.row {ι:ba} {H:Heap} {h b:Nat} (o:aP ι H h b): ∃r,H[h]? =some (some r):=by
 cases o<;>simp_all
def dst (D:Nat->Prop) (w:World) (ι:ba) (H:Heap) (b:Nat):Prop:=D b/\aM w ι H b
def gZ (w:World) (S:Nat->Prop) (t:Ty) (xs:List t.den) (a:Array Value) (o:Nat):Prop:=
 ∀(i:Nat) x,xs[i]? =some x-> ∃cs,ay w S t x cs/\ ∀j v,cs[j]? =some v->a[o+i*t.cells+j]? =some v
def bG (w:World) (S:Nat->Prop) (σ:Nat->Option Sum) (p:Option (Nat×Nat×Nat)):Row->Prop
 | .seq t xs=>
  match p with
  |none=>xs=[]
  |some (b,o,c)=> ∃d e,w.heap[b]? =some (.cells d e (0,0))/\d.size=o+c*t.cells/\xs.length<=c/\c<=maxLen/\gZ w S t xs d o
 | .box cs=> ∃b o c d e,p=some (b,o,c)/\w.heap[b]? =some (.cells d e (0,0))/\ ∀j a,cs[j]? =some a-> ∃v,d[o+j]? =some v/\v.oneCell'=true/\ah w S σ a v
 | .nest _ xss m cs=>
  match p with
  |none=>xss=[]/\cs=[]
  |some (b,o,c)=> ∃d e,w.heap[b]? =some (.cells d e (0,0))/\d.size=o+c/\xss.length<=c/\c<=maxLen/\ ∀j a,cs[j]? =some a-> ∃v,d[o+m+j]? =some v/\v.oneCell'=true/\ah w S σ a v
structure cX (w:World) (S:Nat->Prop) (σ:Nat->Option Sum) (p:Option (Nat×Nat×Nat)) (q:Nat->Option (Nat×Nat×Nat)) (t:Ty) (xss:List (List t.den)) (m:Nat) (cs:List AV):Prop where
 hole: ∀(j:Nat) a,cs[j]? =some a->xss[m+j]? =some []/\q (m+j)=none
 cell: ∀(i:Nat) xs,xss[i]? =some xs->(i<m\/m+cs.length<=i)-> ∃b o c cur e v,p=some (b,o,c)/\w.heap[b]? =some (.cells cur e (0,0))/\cur[o+i]? =some v/\br ⟨q i,t.cells,xs.length⟩ 0 xs.length v
 part: ∀(i:Nat) xs,xss[i]? =some xs->bG w S σ (q i) (.seq t xs)
 ha: ∀(i:Nat) b o c p',i<xss.length->p=some (b,o,c)->q i=some p'->p'.1≠b
 sep: ∀(i j:Nat) p1 p2,i<xss.length->j<xss.length->q i=some p1->q j=some p2->i≠j->p1.1≠p2.1
structure eO (D:Nat->Prop) (w:World) (ι:ba) (H:Heap):Prop where
 rows: ∀h r,H[h]? =some (some r)->bG w (dst D w ι H) (sumOf ι H) (ι h) r
 one: ∀h h' b,aP ι H h b->aP ι H h' b->h=h'
 has: ∀h b,aP ι H h b->D b
 nest: ∀h t xss m cs,H[h]? =some (some (.nest t xss m cs))->cX w (dst D w ι H) (sumOf ι H) (ι h) (ι.aw h) t xss m cs
theorem eO.sep {D:Nat->Prop} {w:World} {ι:ba} {H:Heap} (R:eO D w ι H) (h h':Nat) (r b:Row) (p a:Nat×Nat×Nat) (c:H[h]? =some (some r)) (d:H[h']? =some (some b)) (g:ι h=some p) (i:ι h'=some a) (f:h≠h'):p.1≠a.1:=
 fun e=>f (R.one h h' a.1 (.out r p c g e) (.out b a d i rfl))
theorem eO.own {D:Nat->Prop} {w:World} {ι:ba} {H:Heap} (R:eO D w ι H) (h:Nat) (r:Row) (p:Nat×Nat×Nat) (a:H[h]? =some (some r)) (b:ι h=some p):D p.1:=R.has h p.1 (.out r p a b rfl)
theorem bG.lt {w:World} {S:Nat->Prop} {σ:Nat->Option Sum} {p:Nat×Nat×Nat} {r:Row} (h:bG w S σ (some p) r):p.1<w.heap.size:=by
 cases r with
 |seq t xs=>obtain⟨a,e,d,_⟩:=h;grind
 |box cs=>obtain⟨b,o,c,a,e,f,d,_⟩:=h;grind
 |nest t xss m cs=>obtain⟨a,e,d,_⟩:=h;grind
theorem aP.lt {D:Nat->Prop} {w:World} {ι:ba} {H:Heap} (R:eO D w ι H) {h b:Nat} (o:aP ι H h b):b<w.heap.size:=by
 cases o with
 |out r p c a e=>
  have:=R.rows h r c
  rw[a] at this
  exact e▸this.lt
 |aw t xss m cs i p c hi a e=>
  have:=(R.nest h t xss m cs c).part i xss[i] (bh hi)
  rw[a] at this
  exact e▸this.lt
structure Kept (S0:Nat->Prop) (w0 w:World):Prop where
 os:w.os=w0.os
 tape:w.tape=w0.tape
 output:w.output=w0.output
 size:w0.heap.size<=w.heap.size
 block: ∀b,S0 b->w.heap[b]? =w0.heap[b]?
 gc: ∀a:Addr,a.block<w0.heap.size->w.frozen? a=w0.frozen? a
theorem Kept.refl (S0:Nat->Prop) (w:World):Kept S0 w w:=⟨rfl,rfl,rfl,aS _,fun _ _=>rfl,fun _ _=>rfl⟩
theorem Kept.trans {S0 d:Nat->Prop} {a b c:World} (h:Kept S0 a b) (k:Kept d b c) (g: ∀x,S0 x->d x):Kept S0 a c:=
 ⟨k.os.trans h.os,k.tape.trans h.tape,k.output.trans h.output,fy h.size k.size,fun x f=>(k.block x (g x f)).trans (h.block x f),fun a e=>(k.gc a (gH e h.size)).trans (h.gc a e)⟩
theorem BZ (w:World) (c:Array Value) (t:TypeId) (a:Addr):(w.alloc (.cells c t)).frozen? a=w.frozen? a:=Go.RowKit.frozen?_alloc_cells w c t a
theorem MA (w:World) (b:Nat) (c:Array Value) (a:Addr):(w.setRow b c).frozen? a=w.frozen? a:=by
 grind [World.frozen?,World.setRow]
structure cl where
 w0:World
 S0:Nat->Prop
 D:Nat->Prop
 mS:Nat->Option Sum
 k:Nat
 mv:Nat->Bool
 new: ∀b,w0.heap.size<=b->D b
def qJ (w:World) (g n:Nat):Prop:= ∃cs e a,w.heap[g]? =some (.cells cs e a)/\cs.size=n
def hb (w:World) (S:Nat->Prop):Prop:= ∀g t xs,jW g=some ⟨t,xs⟩->ii w S g 0 t xs/\qJ w g (xs.length*t.cells)
theorem hb.mono {w w':World} {S S':Nat->Prop} (j:w.heap.size<=w'.heap.size) (h: ∀b,S b->b<w.heap.size->S' b/\w'.heap[b]? =w.heap[b]?) (c:hb w S):hb w' S':=
 fun g t xs a=>⟨(c g t xs a).1.mono j h,by
  obtain⟨a,cs,e,d,f,i⟩:=c g t xs a
  exact⟨cs,e,d,(h g a.1 a.2.1).2.trans f,i⟩⟩
structure Inv (B:cl) (s:St) (tmps:Array Value) (w:World) (ι:ba):Prop where
 kept:Kept B.S0 B.w0 w
 am:eO B.D w ι s.heap
 stay: ∀b,B.S0 b->aM w ι s.heap b
 io: ∀h,h<B.k->(B.mv h=true\/sumOf ι s.heap h=B.mS h)/\ ∃r,s.heap[h]? =some (some r)
 env: ∀(i:Nat) (a:AV),s.env[i]? =some a-> ∃v,tmps[i]? =some v/\ah w (dst B.D w ι s.heap) (sumOf ι s.heap) a v
 dN:hb w (dst B.D w ι s.heap)
def bd (B:cl) (s:St) (a:Act) (w:World):Prop:=a.defers=[]/\ ∃ι,Inv B s a.tmps w ι
end Go.Rv
universe u
namespace Go.Rv
inductive TK where
 |scalar|bool|hD|int (k:IntKind)|str|slice (e:TypeId)|arr (n:Nat) (e:TypeId)|eC (fs:List (Nat×TypeId))|map (k e:TypeId)|lk (l:List (String×FuncId))
structure TI where
 kind:TK
 size:Nat
 bytes:Nat
 ty:Option Ty
 zero:List Value
 eq:Bool
abbrev TT:=TypeId->Option TI
structure ad where
 τ:Type
 o:Option τ
 enc:τ->AV×Heap
 mv:List Nat
 alt:Option ((τ->Bool)×(τ->AV×Heap))
def ad.dec (a:ad) (x:a.τ):AV×Heap:=match a.alt with|none=>a.enc x|some p=>cond (p.1 x) (a.enc x) (p.2 x)
def ad.run (a:ad):Option (AV×Heap):=a.o.map a.dec
def B1 {R:Sort u} (a:ad) (x:a.τ) (go:AV×Heap->R):R:=match a.alt with|none=>go (a.enc x)|some p=>cond (p.1 x) (go (a.enc x)) (go (p.2 x))
theorem mT {R:Sort u} (a:ad) (x:a.τ) (go:AV×Heap->R):B1 a x go=go (a.dec x):=by
 grind [B1,ad.dec]
def ad.no:ad:=⟨Unit,none,fun _=>(.undef,[]),[],none⟩
structure Ctx where
 T:TT
 en:FuncId->List AV->Heap->ad
 io:FuncId->Nat->Bool
 k:Nat
 deep:Bool
 mv:List Nat
structure cz (R:Sort u) where
 fail:R
 bind: ∀{α:Type},Option α->(α->R)->R
inductive aK {α:Type}:Option α->(α->Prop)->Prop
 |mk {a:α} {K:α->Prop} (h:K a):aK (some a) K
def ag (β:Type):cz (Option β):=⟨none,fun o f=>o.bind f⟩
def co:cz Prop:=⟨False,fun o f=>aK o f⟩
theorem ij {b:Type} (a:b) (K:b->Prop):aK (some a) K=K a:=propext ⟨fun h=>(by cases h;assumption),.mk⟩
theorem ll {a:Type} (K:a->Prop):aK none K=False:=propext ⟨fun h=>(by cases h),False.elim⟩
theorem oG {b β:Type} (o:Option b) (f:b->Option β) (K:β->Prop):aK (o.bind f) K=aK o (fun a=>aK (f a) K):=by
 cases o<;>simp[ij,ll]
theorem B2 {b β:Type} (o:Option b) (f:b->β) (K:β->Prop):aK (o.map f) K=aK o (fun a=>K (f a)):=by
 cases o<;>simp[ij,ll]
theorem mU {d:Type} {o:Option d} {K b:d->Prop} (h: ∀a,K a->b a) (c:aK o K):aK o b:=by
 cases o with
 |none=>cases c
 |some a=>exact .mk (h a (by cases c;assumption))
theorem B3 {b:Type} {o:Option b} {K:b->Prop}:aK o K↔ ∃a,o=some a/\K a:=by
 cases o<;>simp[ij,ll]
def al (i:Int) (n:Nat):Option Nat:=if 0<=i/\i<(n:Int) then some i.toNat else none
def idx {a:Type} (xs:List a) (i:Int):Option a:=if 0<=i then xs[i.toNat]? else none
def inc (i:Int) (n:Nat):Option Nat:=if 0<=i/\i<=(n:Int) then some i.toNat else none
def room (n:Nat):Option Unit:=if n<=1099511627776 then some () else none
def same (a b:Nat):Option Unit:=if a=b then some () else none
def quo (k:IntKind) (a b:Int):Option Int:=if b=0 then none else some (k.wrap (a.tdiv b))
def rem (a b:Int):Option Int:=if b=0 then none else some (a.tmod b)
def shl (k:IntKind) (a b:Int):Option Int:=if b<0 then none else some (k.wrap (a*2^(min b.toNat k.bits)))
def shr (k:IntKind) (a b:Int):Option Int:=if b<0 then none else some (a.fdiv (2^(min b.toNat k.bits)))
def dO (k:IntKind) (a b:Int):Int:=k.wrap ((ofInt k.bits a&&&ofInt k.bits b).toNat)
def ji (k:IntKind) (a b:Int):Int:=k.wrap ((ofInt k.bits a|||ofInt k.bits b).toNat)
def oH (k:IntKind) (a b:Int):Int:=k.wrap ((ofInt k.bits a^^^ofInt k.bits b).toNat)
def qK (k:IntKind) (a b:Int):Int:=k.wrap ((ofInt k.bits a&&& ~~~ofInt k.bits b).toNat)
def cat (a b:ByteArray):Option ByteArray:=if a.size+b.size<=maxLen then some (a++b) else none
def imax (a b:Int):Int:=if b>a then b else a
def bX (a b:Int):Int:=if b<a then b else a
def hE (s:ByteArray) (i:Int):Option Int:=if 0<=i then(s[i.toNat]?).map (fun b=>(b.toNat:Int)) else none
def aD (a b:ByteArray):Bool:=a.toList==b.toList
def lm:Value->AV
 | .bool b=> .aa .bool b
 | .int k n=> .aa (.int k) n
 | .string x=> .aa .str x
 | .slice none 0 0=> .aI
 |v=> .raw v
def az (s:St):Operand->Option AV
 | .tmp t=>s.env[t]?
 | .const v=>some (lm v)
 | .func f=>some (.fn f [] [])
 | .global g=>match jW g with|some q=>some (.tab q.1 q.2)|none=>none
def St.row (s:St) (h:Nat):Option Row:=match s.heap[h]? with|some (some r)=>some r|_=>none
def St.put (s:St) (d:Option Tmp) (a:AV):St:=match d with|some t=>{s with env:=s.env.set t a}|none=>s
def leaves:(t:Ty)->t.den->List AV
 | .pair a b,x=>leaves a x.1++leaves b x.2
 | .unit,_=> []
 | .int k,x=> [.aa (.int k) x]
 | .bool,x=> [.aa .bool x]
 | .str,x=> [.aa .str x]
 | .list t,x=> [.aa (.list t) x]
 | .val,x=> [.raw x]
 | .err,x=> [.aa .err x]
def hc (t a:Ty) (x:a.den):Option t.den:=if h:a=t then some (h▸x) else none
def Ty.zero:(t:Ty)->t.den
 | .int _=>(0:Int)
 | .bool=>false
 | .str=>empty
 | .list _=> []
 | .unit=>()
 | .pair a b=>(a.zero,b.zero)
 | .val=> .slice none 0 0
 | .err=>false
def eo:Ty->List Value->Bool
 | .int k,[.int c n]=>k==c&&n==0
 | .bool,[.bool b]=> !b
 | .str,[.string s]=>s.data.toList.isEmpty
 | .list _,[.slice none 0 0]=>true
 | .val,[.slice none 0 0]=>true
 | .err,[.nilIface]=>true
 | .unit,[]=>true
 | .pair a b,vs=>eo a (vs.take a.cells)&&eo b (vs.drop a.cells)
 |_,_=>false
def eP (t:Ty):AV->Option t.den
 | .aa a x=>hc t a x
 | .aI=>match t with| .list _=>some []|_=>none
 | .raw v=>match t with| .val=>if v.oneCell'=true then some v else none|_=>none
 |_=>none
def elems (s:St) (t:Ty):AV->Option (List t.den)
 | .aa (.list a) xs=>hc (.list t) (.list a) xs
 | .aI=>some []
 | .ab h=>match s.row h with|some (.seq a xs)=>hc (.list t) (.list a) xs|_=>none
 | .win h off len=>match s.row h with|some (.seq a xs)=>hc (.list t) (.list a) ((xs.drop off).take len)|_=>none
 |_=>none
def AV.single:AV->Bool
 | .aa t _=>t.cells==1
 | .aI| .ab _| .win _ _ _| .ptr _ _| .bW _ _ _| .gb _ _ _| .tab _ _| .el _| .fn _ _ _=>true
 | .raw v=>match v with| .pointer none=>true| .nilFunc=>true|_=>false
 |_=>false
def aU (h:Nat) (a:AV):AV:=bif a.refs h then .undef else a
def dp (h:Nat):Row->Row
 | .seq t xs=> .seq t xs
 | .box cs=> .box (cs.map (aU h))
 | .nest t xss m cs=> .nest t xss m (cs.map (aU h))
def St.aU (s:St) (h:Nat):St:={env:=s.env.map (Rv.aU h),heap:=s.heap.map (Option.map (dp h))}
def St.setRow (s:St) (h:Nat) (r:Row):St:={s with heap:=s.heap.set h (some r)}
def cN:TK->Bool
 | .eC _| .arr _ _=>true
 |_=>false
inductive EK where
 |no|bool|hD
def qL (T:TT) (t:TypeId) (y:Operand):EK:=
 match T t with
 |some a=>match a.kind with
  | .bool=> .bool
  | .hD=>match y with
   | .const _=> .hD
   |_=> .no
  |_=> .no
 |none=> .no
def jX {R:Sort u} (c:cz R) (e:EK) (d:BinOp) (x y:AV) (K:AV->R):R:=
 match x,y with
 | .aa (.int k) a,.aa (.int f) b=>
  match d with
  | .shl=>c.bind (shl k a b) fun n=>K (.aa (.int k) n)
  | .shr=>c.bind (shr k a b) fun n=>K (.aa (.int k) n)
  |_=>
   if k=f then
    match d with
    | .add=>K (.aa (.int k) (k.wrap (a+b)))
    | .sub=>K (.aa (.int k) (k.wrap (a-b)))
    | .mul=>K (.aa (.int k) (k.wrap (a*b)))
    | .quo=>c.bind (quo k a b) fun n=>K (.aa (.int k) n)
    | .rem=>c.bind (rem a b) fun n=>K (.aa (.int k) n)
    | .and=>K (.aa (.int k) (dO k a b))
    | .or=>K (.aa (.int k) (ji k a b))
    | .xor=>K (.aa (.int k) (oH k a b))
    | .andNot=>K (.aa (.int k) (qK k a b))
    | .eql=>K (.aa .bool (a==b))
    | .neq=>K (.aa .bool (a !=b))
    | .lss=>K (.aa .bool (decide (a<b)))
    | .leq=>K (.aa .bool (decide (a<=b)))
    | .gtr=>K (.aa .bool (decide (a>b)))
    | .geq=>K (.aa .bool (decide (a>=b)))
    |_=>c.fail
   else c.fail
 | .aa .str a,.aa .str b=>
  match d with
  | .add=>c.bind (cat a b) fun n=>K (.aa .str n)
  | .eql=>K (.aa .bool (aD a b))
  | .neq=>K (.aa .bool (!aD a b))
  |_=>c.fail
 | .aa .bool a,.aa .bool b=>
  match e with
  | .bool=>
   match d with
   | .eql=>K (.aa .bool (a==b))
   | .neq=>K (.aa .bool (a !=b))
   |_=>c.fail
  |_=>c.fail
 | .aa .err a,.raw .nilIface=>
  match e with
  | .hD=>
   match d with
   | .eql=>K (.aa .bool (!a))
   | .neq=>K (.aa .bool a)
   |_=>c.fail
  |_=>c.fail
 |_,_=>c.fail
def jY {R:Sort u} (a:cz R) (c:UnOp) (x:AV) (K:AV->R):R:=
 match c,x with
 | .not,.aa .bool b=>K (.aa .bool (!b))
 | .neg,.aa (.int k) n=>K (.aa (.int k) (k.wrap (0-n)))
 |_,_=>a.fail
def fA {R:Sort u} (A:cz R) (lo hi:Option AV) (L:Nat) (k:Nat->Nat->R):R:=
 match lo,hi with
 |none,none=>k 0 L
 |none,some (.aa (.int _) h)=>A.bind (inc h L) fun r=>k 0 r
 |some (.aa (.int _) l),none=>A.bind (inc l L) fun q=>k q L
 |some (.aa (.int _) l),some (.aa (.int _) h)=>A.bind (inc h L) fun r=>A.bind (inc l r) fun q=>k q r
 |_,_=>A.fail
def ff {R:Sort u} (a:cz R) (T:TT) (s:St) (t:TypeId) (x:AV) (lo hi:Option AV) (K:AV->R):R:=
 match T t with
 |some g=>match g.kind with
  | .slice e=>match T e with
   |some f=>match x with
    | .aa (.list u) xs=>if u.cells=f.size then fA a lo hi xs.length fun d r=>K (.aa (.list u) ((xs.take r).drop d)) else a.fail
    | .ab h=>match s.row h with
     |some (.seq u xs)=>if u.cells=f.size then fA a lo hi xs.length fun d r=>K (.win h d (r-d)) else a.fail
     |_=>a.fail
    | .win h off len=>match s.row h with
     |some (.seq u _)=>if u.cells=f.size then fA a lo hi len fun d r=>K (.win h (off+d) (r-d)) else a.fail
     |_=>a.fail
    |_=>a.fail
   |none=>a.fail
  | .str=>match x with
   | .aa .str b=>fA a lo hi b.size fun d r=>K (.aa .str (b.extract d r))
   |_=>a.fail
  | .arr c e=>match T e with
   |some f=>match x with
    | .tab u xs=>if u.cells=f.size then a.bind (same xs.length c) fun _=>fA a lo hi xs.length fun d r=>K (.aa (.list u) ((xs.take r).drop d)) else a.fail
    |_=>a.fail
   |none=>a.fail
  |_=>a.fail
 |none=>a.fail
def evalOp (s:St):Option Operand->Option (Option AV)
 |none=>some none
 |some x=>match az s x with|some a=>some (some a)|none=>none
def gJ (s:St):AV->Option Nat
 | .aa (.list _) xs=>some xs.length
 | .aa .str x=>some x.size
 | .aI=>some 0
 | .ab h=>match s.row h with|some (.seq _ xs)=>some xs.length|_=>none
 | .win _ _ len=>some len
 |_=>none
def dP (u:Ty):List AV->List u.den
 |[]=> []
 |a::r=>match eP u a with
  |some x=>x::dP u r
  |none=> []
def B4:List AV->Option Ty
 | .aa u _::_=>some u
 |_=>none
def putAt {b:Type} (m:Nat) (x:b):Nat->List b->List b
 |_,[]=> []
 |j,a::r=>(cond (m==j) x a)::putAt m x (j+1) r
def within (i n:Nat):Option Unit:=if i<n then some () else none
def oI (u:Ty) (x:u.den) (i off:Nat) (cs:List AV):List AV:=cs.take off++(putAt i x 0 (dP u (cs.drop off))).map (.aa u)++cs.drop (off+(dP u (cs.drop off)).length)
def MB (T:TT) (e:TypeId) (c:Nat) (cs:List AV):Option ((u:Ty)×List u.den):=
 match T e,B4 cs with
 |some a,some u=>if a.size=1/\cN a.kind=false/\cs.length=c/\(dP u cs).length=c then some ⟨u,dP u cs⟩ else none
 |_,_=>none
def qM (T:TT) (b:TI):Option (Nat×Ty):=
 match b.kind with
 | .arr m c=>match T c with
  |some a=>match a.ty with
   |some u=>cond (beq b.size (m*u.cells)&&blt 0 m&&beq a.size u.cells) (some (m,u)) none
   |none=>none
  |none=>none
 |_=>none
def sure (b:Bool):Option Unit:=cond b (some ()) none
def fg {R:Sort u} (a:cz R) (T:TT) (s:St) (t:TypeId) (x i:AV) (K:AV->R):R:=
 match i with
 | .aa (.int _) n=>
  match T t with
  |some f=>
   match f.kind with
   | .slice e=>match T e with
    |some b=>match x with
     | .aa (.list u) xs=>if u.cells=b.size then a.bind (idx xs n) fun v=>K (.gb u v 0) else a.fail
     | .ab h=>match s.row h with
      |some (.seq u xs)=>if u.cells=b.size then a.bind (al n xs.length) fun m=>K (.bW h m 0) else a.fail
      |_=>a.fail
     | .win h off len=>match s.row h with
      |some (.seq u _)=>if u.cells=b.size then a.bind (al n len) fun m=>K (.bW h (off+m) 0) else a.fail
      |_=>a.fail
     |_=>a.fail
    |none=>a.fail
   | .arr c e=>match T e with
    |some b=>match x with
     | .ptr h off=>match s.row h with
      |some (.seq u xs)=>if u.cells=b.size/\off=0 then a.bind (same xs.length c) fun _=>a.bind (al n c) fun m=>K (.bW h m 0)
       else match qM T b with
        |some d=>if u.cells=d.2.cells/\off=0 then a.bind (same xs.length (c*d.1)) fun _=>a.bind (al n c) fun m=>K (.bW h (m*d.1) 0) else a.fail
        |none=>a.fail
      |some (.box cs)=>if b.size=1/\off+c<=cs.length then a.bind (al n c) fun m=>K (.bW h m off) else a.fail
      |_=>a.fail
     | .bW h i off=>match s.row h with
      |some (.seq u xs)=>if u.cells=b.size/\off=0 then a.bind (sure (ble (i+c) xs.length)) fun _=>a.bind (al n c) fun m=>K (.bW h (i+m) 0) else a.fail
      |_=>a.fail
     | .tab u xs=>if u.cells=b.size then a.bind (same xs.length c) fun _=>a.bind (idx xs n) fun v=>K (.gb u v 0)
       else match qM T b with
        |some d=>if u.cells=d.2.cells then a.bind (same xs.length (c*d.1)) fun _=>a.bind (al n c) fun m=>K (.tab u ((xs.drop (m*d.1)).take d.1)) else a.fail
        |none=>a.fail
     |_=>a.fail
    |none=>a.fail
   |_=>a.fail
  |none=>a.fail
 |_=>a.fail
def u4 (u:Ty) (xs:List u.den) (n:Nat):List AV:=(range n).map fun i=> .aa u (xs.getD i u.zero)
def eQ {R:Sort u} (b:cz R) (T:TT) (s:St) (t:TypeId) (p:AV) (K:AV->R):R:=
 match T t with
 |none=>b.fail
 |some c=>
  let fin (cs:List AV) (off:Nat):R:=
   if cN c.kind then(if off+c.size<=cs.length then K (.agg ((cs.drop off).take c.size)) else b.fail)
   else match cs[off]? with|some a=>K a|none=>b.fail
  match p with
  | .gb u x off=>fin (leaves u x) off
  | .el a=>fin [a] 0
  | .bW h i off=>match s.row h with
   |some (.seq u xs)=>b.bind xs[i]? fun x=>fin (leaves u x) off
   |some (.box cs)=>match B4 (cs.drop off) with
    |some u=>b.bind (dP u (cs.drop off))[i]? fun x=>fin [.aa u x] 0
    |none=>b.fail
   |_=>b.fail
  | .ptr h off=>match s.row h with
   |some (.box cs)=>fin cs off
   |some (.seq u xs)=>if u.cells=1/\off=0/\cN c.kind=true then b.bind (same xs.length c.size) fun _=>K (.agg (u4 u xs c.size)) else b.fail
   |_=>b.fail
  | .tab u xs=>if u.cells=1/\cN c.kind=true then b.bind (same xs.length c.size) fun _=>K (.agg (u4 u xs c.size)) else b.fail
  |_=>b.fail
def jZ {R:Sort u} (a:cz R) (T:TT) (t:TypeId) (x:AV) (f:Nat) (K:AV->R):R:=
 match T t with
 |some e=>match e.kind with
  | .eC c=>match c[f]? with
   |some (off,d)=>match T d with
    |some b=>if b.size=0 then a.fail else match x with
     | .ptr h o=>K (.ptr h (o+off))
     | .bW h i o=>K (.bW h i (o+off))
     | .gb u y o=>K (.gb u y (o+off))
     |_=>a.fail
    |none=>a.fail
   |none=>a.fail
  |_=>a.fail
 |none=>a.fail
def ka {R:Sort u} (b:cz R) (T:TT) (t:TypeId) (x:AV) (f:Nat) (K:AV->R):R:=
 match T t,x with
 |some g,.agg cs=>match g.kind with
  | .eC d=>match d[f]? with
   |some (off,e)=>match T e with
    |some c=>
     if cN c.kind then(if off+c.size<=cs.length then K (.agg ((cs.drop off).take c.size)) else b.fail)
     else match cs[off]? with|some a=>K a|none=>b.fail
    |none=>b.fail
   |none=>b.fail
  |_=>b.fail
 |_,_=>b.fail
def overwrite (cs:List AV) (off:Nat) (new:List AV):List AV:=cs.take off++new++cs.drop (off+new.length)
def oJ (T:TT) (c:List (Nat×TypeId)):List (Nat×AV)->List AV->Option (List AV)
 |[],cs=>some cs
 |(f,a)::r,cs=>
  match c[f]? with
  |some (off,d)=>match T d with
   |some b=>
    match a with
    | .agg new=>if cN b.kind&&new.length==b.size&&decide (off+new.length<=cs.length) then oJ T c r (overwrite cs off new) else none
    |a=>if !cN b.kind&&b.size==1&&a.single&&decide (off<cs.length) then oJ T c r (cs.set off a) else none
   |none=>none
  |none=>none
def gx (s:St):List (Nat×Operand)->Option (List (Nat×AV))
 |[]=>some []
 |(i,x)::r=>match az s x,gx s r with
  |some a,some l=>some ((i,a)::l)
  |_,_=>none
def cO (s:St):List Operand->Option (List AV)
 |[]=>some []
 |x::r=>match az s x,cO s r with
  |some a,some l=>some (a::l)
  |_,_=>none
def ik:(t:Ty)->List AV->Option (t.den×List AV)
 | .pair a b,cs=>match ik a cs with
  |some (x,r)=>match ik b r with
   |some (y,d)=>some ((x,y),d)
   |none=>none
  |none=>none
 | .unit,cs=>some ((),cs)
 | .val,_=>none
 | .err,_=>none
 | .int k,cs=>match cs with
  |c::r=>match eP (.int k) c with
   |some x=>some (x,r)
   |none=>none
  |[]=>none
 | .bool,cs=>match cs with
  |c::r=>match eP .bool c with
   |some x=>some (x,r)
   |none=>none
  |[]=>none
 | .str,cs=>match cs with
  |c::r=>match eP .str c with
   |some x=>some (x,r)
   |none=>none
  |[]=>none
 | .list t,cs=>match cs with
  |c::r=>match eP (.list t) c with
   |some x=>some (x,r)
   |none=>none
  |[]=>none
def qN (t:Ty):AV->Option t.den
 | .agg cs=>match ik t cs with
  |some (x,[])=>some x
  |_=>none
 |a=>eP t a
def kb (t:Ty):Nat->List (Nat×AV)->Option (List t.den)
 |_,[]=>some []
 |n,(i,a)::r=>if i=n then(match qN t a,kb t (n+1) r with|some x,some l=>some (x::l)|_,_=>none) else none
mutual
def AV.bI (f:Nat->Nat):AV->AV
 | .ab h=> .ab (f h)
 | .win h o l=> .win (f h) o l
 | .ptr h o=> .ptr (f h) o
 | .bW h i o=> .bW (f h) i o
 | .agg cs=> .agg (df f cs)
 | .aW cs=> .aW (df f cs)
 | .fn g a b=> .fn g (df f a) (df f b)
 | .el c=> .el (c.bI f)
 |a=>a
def df (f:Nat->Nat):List AV->List AV
 |[]=> []
 |a::r=>a.bI f::df f r
end
def Row.bI (f:Nat->Nat):Row->Row
 | .seq t xs=> .seq t xs
 | .box cs=> .box (df f cs)
 | .nest t xss m cs=> .nest t xss m (df f cs)
mutual
def AV.ids:AV->List Nat
 | .ab h| .win h _ _| .ptr h _| .bW h _ _=> [h]
 | .agg cs| .aW cs=>cp cs
 | .fn _ a b=>cp a++cp b
 | .el c=>c.ids
 |_=> []
def cp:List AV->List Nat
 |[]=> []
 |a::r=>a.ids++cp r
end
def Row.ids:Row->List Nat
 | .seq _ _=> []
 | .box cs=>cp cs
 | .nest _ _ _ cs=>cp cs
def dy (acc:List Nat):List Nat->List Nat
 |[]=>acc
 |h::r=>if acc.contains h then dy acc r else dy (acc++ [h]) r
def reach (H:Heap):Nat->Nat->List Nat->List Nat
 |0,_,acc=>acc
 |n+1,i,acc=>
  match acc[i]? with
  |none=>acc
  |some h=>match H[h]? with
   |some (some r)=>reach H n (i+1) (dy acc r.ids)
   |_=>reach H n (i+1) acc
def place (ids:List Nat) (h:Nat):Nat:=(ids.idxOf? h).getD ids.length
def il (s:St) (T:TT) (io:Bool) (t:TypeId):AV->Option AV
 | .ab h=>if io then some (.ab h) else match s.row h with
  |some (.seq u xs)=>some (.aa (.list u) xs)
  |some (.nest u xss _ [])=>some (.aa (.list (.list u)) xss)
  |_=>none
 | .win h off len=>if io then none else match s.row h with
  |some (.seq u xs)=>some (.aa (.list u) ((xs.drop off).take len))
  |_=>none
 | .aI=>if io then some .aI else match T t with
  |some b=>match b.ty with
   |some (.list u)=>some (.aa (.list u) [])
   |_=>none
  |none=>none
 | .undef=>none
 | .bW _ _ _=>none
 | .gb _ _ _=>none
 |a=>some a
def ln (s:St):AV->Option AV
 | .ab h=>il s (fun _=>none) false 0 (.ab h)
 | .win h off len=>il s (fun _=>none) false 0 (.win h off len)
 |a=>some a
def im (s:St):List AV->Option (List AV)
 |[]=>some []
 |a::r=>match ln s a,im s r with
  |some x,some l=>some (x::l)
  |_,_=>none
def jj (s:St) (T:TT) (io:Bool) (t:TypeId):AV->Option AV
 | .agg cs=>cond io (some (.agg cs)) ((im s cs).map AV.agg)
 |a=>il s T io t a
def lp (s:St):AV->Option AV
 | .ptr h off=>match s.row h with
  |some (.box [c])=>cond (beq off 0&&c.ids.isEmpty) (some (.el c)) none
  |_=>none
 | .el c=>some (.el c)
 |_=>none
def ip (s:St):List AV->Option (List AV)
 |[]=>some []
 |a::r=>match lp s a,ip s r with
  |some x,some l=>some (x::l)
  |_,_=>none
def lq (s:St):AV->Option AV
 | .fn g a b=>match ip s b with
  |some l=>cond (cp a).isEmpty (some (.fn g a l)) none
  |none=>none
 | .ptr h off=>match s.row h with
  |some (.seq u xs)=>cond (beq off 0) (some (.tab u xs)) none
  |_=>none
 | .tab u xs=>some (.tab u xs)
 |_=>none
def u5:Nat:=1000
def eD (s:St) (T:TT) (io:Nat->Bool):Nat->List TypeId->List AV->Option (List AV)
 |_,_,[]=>some []
 |n,t::b,a::r=>match cond (io (n+u5)) (lq s a) (jj s T (io n) t a),eD s T io (n+1) b r with
  |some x,some l=>some (x::l)
  |_,_=>none
 |_,[],_::_=>none
def Ty.cm:Ty->Bool
 | .list _=>true
 | .pair a b=>a.cm||b.cm
 |_=>false
mutual
def AV.cm:AV->Bool
 | .aa t _=>t.cm
 | .gb _ _ _=>true
 | .tab _ _=>true
 | .gw _=>true
 | .el _=>true
 | .agg cs| .aW cs=>hF cs
 | .fn _ a b=>hF a||hF b
 |_=>false
def hF:List AV->Bool
 |[]=>false
 |a::r=>a.cm||hF r
end
def Row.cm:Row->Bool
 | .seq t _=>t.cm
 | .box cs=>hF cs
 | .nest t _ _ cs=>t.cm||hF cs
def mV:List Nat->Bool
 |[]=>true
 |a::r=> !r.contains a&&mV r
def jk (H:Heap) (ids:List Nat):List Nat->Bool
 |[]=>true
 |h::r=>(match H[h]? with|some (some x)=>x.ids.all (fun g=>ids.contains g)|_=>false)&&jk H ids r
def lr (H:Heap) (base:Nat):Nat->Bool
 |0=>true
 |n+1=>(match H[base+n]? with|some none=>true|_=>false)&&lr H base n
def bL (H:Heap) (ids:List Nat):Heap:=ids.map fun h=>match H[h]? with|some (some r)=>some (r.bI (place ids))|_=>none
def fB (ids:List Nat) (base:Nat) (j:Nat):Nat:=match ids[j]? with|some h=>h|none=>base+(j-ids.length)
def he:AV->AV->List Nat
 | .ab h,.aa _ _=> [h]
 | .win h _ _,.aa _ _=> [h]
 | .ptr h _,.tab _ _=> [h]
 | .ptr h _,.el _=> [h]
 |_,_=> []
def iq:List AV->List AV->List Nat
 |a::r,b::c=>he a b++iq r c
 |_,_=> []
def kc:AV->AV->List Nat
 | .agg cs,.agg c=>iq cs c
 | .fn _ _ cs,.fn _ _ c=>iq cs c
 |a,b=>he a b
def gK:List AV->List AV->List Nat
 |a::r,b::c=>kc a b++gK r c
 |_,_=> []
theorem MC {a b:AV} {g:Nat} (h:g∈he a b):a.refs g=true:=by
 unfold he at h
 grind [AV.refs]
theorem MD {g:Nat}: ∀{cs c:List AV},g∈iq cs c->cf cs g=true
 |[],c,h=>by simp[iq] at h
 |a::r,[],h=>by simp[iq] at h
 |a::r,b::d,h=>by
  simp only[iq,jb] at h
  simp only[cf,eA]
  exact h.imp MC MD
theorem abO {a b:AV} {g:Nat} (h:g∈kc a b):a.refs g=true:=by
 unfold kc at h
 grind [AV.refs,MD,MC]
def fh (f:Nat->Nat):Nat->Heap->Heap->Heap
 |_,[],H=>H
 |j,r::a,H=>fh f (j+1) a (match r with|some x=>H.set (f j) (some (x.bI f))|none=>H)
def width:Nat:=4
def ls (C:Ctx) (s:St) (f:FuncId) (args:List AV) (types:List TypeId):Bool:=
 match eD s C.T (C.io f) 0 types args with
 |none=>true
 |some avs=>
  let ids:=reach s.heap (s.heap.length+1) 0 (dy [] (cp avs))
  (C.en f (df (place ids) avs) (bL s.heap ids)).mv.all fun j=>match ids[j]? with
   |some g=>(ble C.k g||C.mv.contains g)&&s.env.all (fun a=> !a.refs g)&&(range s.heap.length).all (fun x=>ids.contains x||(match s.heap[x]? with|some (some r)=> !r.refs g|_=>true))
   |none=>true
def mW (C:Ctx) (s:St) (f:FuncId) (args:List AV) (types:List TypeId):Bool:=
 match eD s C.T (C.io f) 0 types args with
 |none=>true
 |some avs=>
  let ids:=reach s.heap (s.heap.length+1) 0 (dy [] (cp avs))
  (cp avs).isEmpty||(C.en f (df (place ids) avs) (bL s.heap ids)).mv.isEmpty
theorem abP {C:Ctx} {s:St} {f:FuncId} {args:List AV} {types:List TypeId} (h:mW C s f args types=true):ls C s f args types=true:=by
 grind [mW,ls,reach,dy,cp,List.isEmpty_iff]
def eR {R:Sort u} (a:cz R) (C:Ctx) (base:Nat) (s:St) (f:FuncId) (args:List AV) (types:List TypeId) (K:AV->St->R):R:=
 match eD s C.T (C.io f) 0 types args with
 |none=>a.fail
 |some avs=>
  let ids:=reach s.heap (s.heap.length+1) 0 (dy [] (cp avs))
  let c:=gK args avs
  if mV ids&&jk s.heap ids ids&&(cp avs).all (fun g=>ids.contains g)&&c.all (fun h=> !ids.contains h)&&lr s.heap base width then
   let b:=C.en f (df (place ids) avs) (bL s.heap ids)
   a.bind b.o fun x=>B1 b x fun q=>
    if decide (q.2.length<=ids.length+width)&&decide (ids.length<=q.2.length)&&(c.isEmpty|| !(q.1.cm||q.2.any fun r=>match r with|some x=>x.cm|none=>false)) then
     K (q.1.bI (fB ids base)) {s with heap:=fh (fB ids base) 0 q.2 s.heap}
    else a.fail
  else a.fail
end Go.Rv
namespace Go.Rv
def mk (n m:Int):Option Nat:=if 0<=n/\n<=m/\m<=1099511627776 then some n.toNat else none
def cP {R:Sort u} (A:cz R) (s:St) (base:Nat) (r:Row) (K:St->R):R:=
 match s.heap[base]? with
 |some none=>K (s.setRow base r)
 |_=>A.fail
def elemOf (T:TT) (t:TypeId):Option TI:=
 match T t with
 |some a=>match a.kind with| .slice e=>T e|_=>none
 |none=>none
def fi {R:Sort u} (a:cz R) (T:TT) (s:St) (t:TypeId) (p v:AV) (K:St->R):R:=
 match T t with
 |none=>a.fail
 |some b=>
  if cN b.kind then
   match p,v with
   | .ptr h off,.agg new=>match s.row h with
    |some (.box cs)=>if new.length=b.size/\0<new.length/\off+new.length<=cs.length/\new.all AV.single=true then K (s.setRow h (.box (overwrite cs off new))) else a.fail
    |some (.seq u xs)=>if u.cells=1/\off=0/\new.length=b.size/\(dP u new).length=b.size then a.bind (same xs.length b.size) fun _=>K (s.setRow h (.seq u (dP u new))) else a.fail
    |_=>a.fail
   |_,_=>a.fail
  else if b.size=1 then
   match p with
   | .bW h i off=>match s.row h with
    |some (.seq u xs)=>match eP u v with
     |some x=>if u.cells=1/\off=0 then K (s.setRow h (.seq u (xs.set i x))) else a.fail
     |none=>a.fail
    |some (.box cs)=>match B4 (cs.drop off) with
     |some u=>match eP u v with
      |some x=>a.bind (within i (dP u (cs.drop off)).length) fun _=>K (s.setRow h (.box (oI u x i off cs)))
      |none=>a.fail
     |none=>a.fail
    |_=>a.fail
   | .ptr h off=>match s.row h with
    |some (.box cs)=>if v.single=true/\off<cs.length then K (s.setRow h (.box (cs.set off v))) else a.fail
    |_=>a.fail
   |_=>a.fail
  else a.fail
def kd {R:Sort u} (a:cz R) (C:Ctx) (base:Nat) (s:St) (t:TypeId) (x y:AV) (K:AV->St->R):R:=
 match elemOf C.T t with
 |some b=>match b.ty with
  |some u=>
   if u.cells=b.size/\0<b.size/\b.bytes<=128/\eo u b.zero=true then
    match elems s u y with
    |some ys=>match x with
     | .aI=>a.bind (room ys.length) fun _=>cP a s base (.seq u ys) fun s'=>K (.ab base) s'
     | .ab h=>match s.row h with
      |some (.seq d xs)=>match hc (.list u) (.list d) xs with
       |some c=>if(ble C.k h||C.mv.contains h)=true then a.bind (room (c.length+ys.length)) fun _=>K (.ab h) ((s.aU h).setRow h (.seq u (c++ys))) else a.fail
       |none=>a.fail
      |_=>a.fail
     | .win h off len=>match s.row h with
      |some (.seq d xs)=>match hc (.list u) (.list d) xs with
       |some c=>if(ble C.k h||C.mv.contains h)=true then a.bind (room (len+ys.length)) fun _=>K (.ab h) ((s.aU h).setRow h (.seq u ((c.drop off).take len++ys))) else a.fail
       |none=>a.fail
      |_=>a.fail
     |_=>a.fail
    |none=>a.fail
   else a.fail
  |none=>a.fail
 |none=>a.fail
def ke {a:Type} (xs:List a) (off:Nat) (ys:List a):List a:=xs.take off++ys++xs.drop (off+ys.length)
def jl {R:Sort u} (a:cz R) (T:TT) (s:St) (t:TypeId) (x y:AV) (K:AV->St->R):R:=
 match elemOf T t with
 |some b=>if b.size=1 then match x with
  | .ab h=>match s.row h with
   |some (.seq u xs)=>if u.cells=1 then match elems s u y with
    |some ys=>K (.aa (.int .i64) ((min ys.length xs.length:Nat):Int)) (s.setRow h (.seq u (ke xs 0 (ys.take xs.length))))
    |none=>a.fail
    else a.fail
   |_=>a.fail
  | .win h off len=>match s.row h with
   |some (.seq u xs)=>if u.cells=1 then match elems s u y with
    |some ys=>K (.aa (.int .i64) ((min ys.length len:Nat):Int)) (s.setRow h (.seq u (ke xs off (ys.take len))))
    |none=>a.fail
    else a.fail
   |_=>a.fail
  |_=>a.fail
  else a.fail
 |none=>a.fail
def jm {R:Sort u} (a:cz R) (k:AV) (hit:Go.Fn->R) (b:R):List (Value×Go.Fn)->R
 |[]=>b
 |(c,f)::r=>match k,c with
  | .aa (.int i) n,.int j m=>if i=j then cond (n==m) (hit f) (jm a k hit b r) else a.fail
  | .aa .str x,.string y=>cond (x==y) (hit f) (jm a k hit b r)
  |_,_=>a.fail
def B5:Go.Fn->AV
 | .func f=> .fn f [] []
 |g=> .raw (.func g #[] #[])
def B6:TK->AV->Bool
 | .int _,.aa (.int _) _=>true
 | .str,.aa .str _=>true
 |_,_=>false
def bytesOf (a:List Int):ByteArray:=a.foldl (fun r n=>r.push (UInt8.ofNat n.toNat)) empty
def lu (f:Int->Int->Int) (k:IntKind):Int->List AV->Option Int
 |n,[]=>some n
 |n,.aa (.int a) m::r=>if k=a then lu f k (f n m) r else none
 |_,_=>none
def lift {R:Sort u} {b:Type} (c:cz R) (x:Option b) (k:b->R):R:=match x with|some a=>k a|none=>c.fail
def bb {R:Sort u} (d:cz R) (C:Ctx) (base:Nat) (o:Oper) (s:St) (K:St->R):R:=
 let out (a:AV):R:=K (s.put o.dst a)
 let j (x:Operand) (k:AV->R):R:=lift d (az s x) k
 match o.op with
 | .move x=>j x out
 | .assign x=>j x fun a=>match a with
  | .aI=>match elemOf C.T o.type with
   |some z=>match z.ty with
    |some u=>cP d s base (.seq u []) fun s'=>K (s'.put o.dst (.ab base))
    |none=>d.fail
   |none=>d.fail
  |a=>out a
 | .pick c a b=>j c fun c=>match c with
  | .aa .bool g=>j a fun x=>j b fun y=>out (cond g x y)
  |_=>d.fail
 | .alloc e=>match C.T e with
  |some q=>match q.kind with
   | .arr n J=>match C.T J with
    |some z=>match z.ty with
     |some u=>if u.cells=1/\eo u z.zero=true/\q.zero.length=n/\n<=1024/\q.zero.all (fun v=>eo u [v])=true then
       cP d s base (.seq u (replicate n u.zero)) fun s'=>K (s'.put o.dst (.ptr base 0)) else d.fail
     |none=>d.fail
    |none=>d.fail
   |_=>if(q.zero.map lm).all AV.single=true then cP d s base (.box (q.zero.map lm)) fun s'=>K (s'.put o.dst (.ptr base 0)) else d.fail
  |none=>d.fail
 | .box _ v=>j v fun a=>match a with
  | .agg cs=>if cs.all AV.single=true then cP d s base (.box cs) fun s'=>K (s'.put o.dst (.ptr base 0)) else d.fail
  |a=>if a.single=true then cP d s base (.box [a]) fun s'=>K (s'.put o.dst (.ptr base 0)) else d.fail
 | .build t F=>match C.T t,gx s F.toList with
  |some q,some l=>match q.kind with
   | .eC G=>if G.all (fun f=>(C.T f.2).isSome)=true then lift d (oJ C.T G l (q.zero.map lm)) fun cs=>out (.agg cs) else d.fail
   |_=>d.fail
  |_,_=>d.fail
 | .buildSlice t n F=>match elemOf C.T t,gx s F.toList with
  |some z,some l=>match z.ty with
   |some u=>match kb u 0 l with
    |some xs=>if l.length=n/\n<=1024/\u.cells=z.size/\0<z.size/\z.size<=1024 then(match s.heap[base]? with
      |none=>out (if n=0 then .aI else .aa (.list u) xs)
      |_=>cP d s base (.seq u xs) fun s'=>K (s'.put o.dst (.ab base))) else d.fail
    |none=>d.fail
   |none=>d.fail
  |_,_=>d.fail
 | .makeSlice t l c=>match elemOf C.T t,az s l,az s c with
  |some z,some (.aa (.int _) n),some (.aa (.int _) m)=>match z.ty with
   |some u=>if u.cells=z.size/\0<z.size/\z.bytes<=128/\eo u z.zero=true then
     d.bind (mk n m) fun D=>cP d s base (.seq u (replicate D u.zero)) fun s'=>K (s'.put o.dst (.ab base)) else d.fail
   |none=>d.fail
  |_,_,_=>d.fail
 | .load t p=>j p fun p=>eQ d C.T s t p out
 | .store t p v=>j p fun p=>j v fun v=>fi d C.T s t p v fun s'=>K (s'.put o.dst .undef)
 | .nilCheck x=>j x fun a=>match a with
  | .ptr _ _| .bW _ _ _| .gb _ _ _| .tab _ _| .el _=>out a
  |_=>d.fail
 | .binOp E t x y _=>j x fun a=>j y fun b=>jX d (qL C.T t y) E a b out
 | .unOp E _ x=>j x fun x=>jY d E x out
 | .convert st I x=>j x fun x=>match C.T st,C.T I,x with
  |some _,some q,.aa (.int _) n=>match q.kind with
   | .int k=>out (.aa (.int k) (k.wrap n))
   |_=>d.fail
  |some N,some q,.aa (.list (.int .u8)) ys=>match N.kind,q.kind with
   | .slice e,.str=>match C.T e with
    |some z=>match z.kind with
     | .int .u8=>out (.aa .str (bytesOf ys))
     |_=>d.fail
    |none=>d.fail
   |_,_=>d.fail
  |_,_,_=>d.fail
 | .lookup t x k ok=>j x fun x=>j k fun k=>match x,C.T t with
  | .gw M,some q=>match q.kind with
   | .map kt et=>match C.T kt,C.T et with
    |some L,some _=>if B6 L.kind k=true then
      jm d k (fun f=>out (cond ok (.aW [B5 f,.aa .bool true]) (B5 f))) (out (cond ok (.aW [.undef,.aa .bool false]) .undef)) M
     else d.fail
    |_,_=>d.fail
   |_=>d.fail
  |_,_=>d.fail
 | .makeFunc (.func f) first A=>match cO s first.toList,cO s A.toList with
  |some a,some b=>out (.fn f a b)
  |_,_=>d.fail
 | .slice t x lo hi none=>match az s x,evalOp s lo,evalOp s hi with
  |some a,some l,some h=>ff d C.T s t a l h out
  |_,_,_=>d.fail
 | .fieldAddr t x f=>j x fun x=>jZ d C.T t x f out
 | .field t x f=>j x fun x=>ka d C.T t x f out
 | .indexAddr t x i=>j x fun x=>j i fun i=>fg d C.T s t x i out
 | .index t x i=>match C.T t,az s x,az s i with
  |some q,some (.aa .str b),some (.aa (.int _) n)=>match q.kind with
   | .str=>d.bind (hE b n) fun m=>out (.aa (.int .u8) m)
   |_=>d.fail
  |some q,some (.agg cs),some (.aa (.int _) n)=>match q.kind with
   | .arr c e=>lift d (MB C.T e c cs) fun D=>d.bind (idx D.2 n) fun x=>out (.aa D.1 x)
   |_=>d.fail
  |_,_,_=>d.fail
 | .extract x i=>j x fun x=>match x with
  | .aW cs=>lift d cs[i]? out
  |_=>d.fail
 | .call c=>match c.callee with
  | .builtin .len=>match c.args.toList,c.argTypes.toList with
   |[x],[t]=>j x fun x=>match C.T t with
    |some q=>(match q.kind,x with
     | .slice _,.aa .str _=>d.fail
     | .str,.aa (.list _) _=>d.fail
     | .str,.aa .str _=>lift d (gJ s x) fun n=>out (.aa (.int .i64) n)
     | .slice _,x=>lift d (gJ s x) fun n=>out (.aa (.int .i64) n)
     |_,_=>d.fail)
    |none=>d.fail
   |_,_=>d.fail
  | .builtin .append=>match c.args.toList,c.argTypes.toList with
   |[x,y],[t,t2]=>if t=t2 then j x fun x=>j y fun y=>kd d C base s t x y fun a s'=>K (s'.put o.dst a) else d.fail
   |_,_=>d.fail
  | .builtin .copy=>match c.args.toList,c.argTypes.toList with
   |[x,y],[t,_]=>j x fun x=>j y fun y=>jl d C.T s t x y fun a s'=>K (s'.put o.dst a)
   |_,_=>d.fail
  | .builtin .max=>match cO s c.args.toList with
   |some (.aa (.int k) n::r)=>lift d ((lu imax k n r).map (AV.aa (.int k))) out
   |_=>d.fail
  | .builtin .min=>match cO s c.args.toList with
   |some (.aa (.int k) n::r)=>lift d ((lu bX k n r).map (AV.aa (.int k))) out
   |_=>d.fail
  | .value f=>j f fun f=>match f with
   | .fn g first A=>match cO s c.args.toList with
    |some args=>eR d C base s g (first++args++A) (first.map (fun _=>0)++c.argTypes.toList++A.map (fun _=>0)) fun a s'=>K (s'.put o.dst a)
    |none=>d.fail
   |_=>d.fail
  |_=>d.fail
 |_=>d.fail
def oK (n:Int):Option Nat:=if 0<n/\n<=1099511627776 then some n.toNat else none
def gy (s:St) (h g i:Nat) (t:Ty) (xss:List (List t.den)) (xs:List t.den):St:=
 (s.setRow h (.nest t (xss.set i []) i [.ab g])).setRow g (.seq t xs)
def bJ (s:St) (h g i:Nat) (t:Ty) (yss:List (List t.den)) (xs:List t.den):St:=
 {env:=(s.aU g).env,heap:=((s.aU g).heap.set h (some (.nest t (yss.set i xs) 0 []))).set g none}
def hG (s:St) (h f n:Nat) (t:Ty) (xss:List (List t.den)):St:=(s.aU h).setRow h (.nest t ((xss.take n).drop f) 0 [])
def u6 {R:Sort u} (A:cz R) (cs:List AV) (m f n:Nat) (k:R):R:=match cs with|[]=>k|[_]=>A.bind (sure (blt m f||ble n m)) fun _=>k|_=>A.fail
def lv {R:Sort u} (A:cz R) (cs:List AV) (m i:Nat) (k:R):R:=match cs with|[]=>k|_::_=>A.bind (same m i) fun _=>k
def B7 {R:Sort u} (b:cz R) (C:Ctx) (base:Nat) (o:Oper) (s:St) (t t2:TypeId) (a:AV) (g:Nat) (K:St->R):R:=
 match elemOf C.T t,s.row g with
 |some c,some (.seq d xs)=>
  cond (t==t2&&beq c.size 1&&ble c.bytes 128&&eo .val c.zero&&ble C.k g)
   (match a with
   | .aI=>match s.heap[base]? with
    |some none=>K ((bJ s base g 0 d [[]] xs).put o.dst (.ab base))
    |_=>b.fail
   | .ab h=>match s.row h with
    |some (.nest u xss _ cs)=>match hc (.list u) (.list d) xs with
     |some e=>cond (cs.isEmpty&&ble C.k h) (b.bind (room (xss.length+1)) fun _=>K ((bJ (s.aU h) h g xss.length u (xss++ [[]]) e).put o.dst (.ab h))) b.fail
     |none=>b.fail
    |_=>b.fail
   |_=>b.fail) b.fail
 |_,_=>b.fail
def B8 {R:Sort u} (a:cz R) (C:Ctx) (o:Oper) (s:St) (b:TI) (h i off g:Nat) (u:Ty) (xss:List (List u.den)) (m:Nat) (cs:List AV) (K:St->R):R:=
 match s.row g with
 |some (.seq c xs)=>match hc (.list u) (.list c) xs with
  |some d=>cond (beq off 0&& !cN b.kind&&beq b.size 1&&ble C.k g&&ble cs.length 1)
    (a.bind (within i xss.length) fun _=>lv a cs m i (K ((bJ s h g i u xss d).put o.dst .undef))) a.fail
  |none=>a.fail
 |_=>a.fail
def B9 {R:Sort u} (a:cz R) (C:Ctx) (o:Oper) (s:St) (b:TI) (h i off g f l:Nat) (u:Ty) (xss:List (List u.den)) (m:Nat) (cs:List AV) (K:St->R):R:=
 match s.row g with
 |some (.seq c xs)=>match hc (.list u) (.list c) xs with
  |some d=>cond (beq off 0&& !cN b.kind&&beq b.size 1&&ble C.k g&&ble cs.length 1)
    (a.bind (within i xss.length) fun _=>lv a cs m i (K ((bJ s h g i u xss (List.take l (List.drop f (d:List u.den)))).put o.dst .undef))) a.fail
  |none=>a.fail
 |_=>a.fail
def oL {R:Sort u} (d:cz R) (C:Ctx) (base:Nat) (o:Oper) (s:St) (K:St->R):R:=
 cond C.deep
  (match o.op with
  | .load t p=>match az s p,C.T t with
   |some (.bW h i off),some q=>match s.row h with
    |some (.nest u xss _ cs)=>cond (cs.isEmpty&& !cN q.kind&&beq off 0) (d.bind xss[i]? fun xs=>match s.heap[base]? with
      |some none=>K ((gy s h base i u xss xs).put o.dst (.ab base))
      |_=>d.fail) d.fail
    |_=>bb d C base o s K
   |_,_=>bb d C base o s K
  | .store t p v=>match az s p,az s v,C.T t with
   |some (.bW h i off),some (.ab g),some q=>match s.row h with
    |some (.nest u xss m cs)=>B8 d C o s q h i off g u xss m cs K
    |_=>bb d C base o s K
   |some (.bW h i off),some (.win g f l),some q=>match s.row h with
    |some (.nest u xss m cs)=>B9 d C o s q h i off g f l u xss m cs K
    |_=>bb d C base o s K
   |_,_,_=>bb d C base o s K
  | .slice t x lo hi none=>match az s x with
   |some (.ab h)=>match s.row h,elemOf C.T t,evalOp s lo,evalOp s hi with
    |some (.nest u xss m cs),some j,some l,some r=>cond (beq j.size 1&&ble C.k h) (fA d l r xss.length fun f n=>u6 d cs m f n (K ((hG s h f n u xss).put o.dst (.ab h)))) d.fail
    |_,_,_,_=>bb d C base o s K
   |_=>bb d C base o s K
  | .assign x=>match az s x,elemOf C.T o.type with
   |some .aI,some j=>match j.ty with
    |some (.list u)=>cP d s base (.nest u [] 0 []) fun s'=>K (s'.put o.dst (.ab base))
    |_=>bb d C base o s K
   |_,_=>bb d C base o s K
  | .makeSlice t l c=>match elemOf C.T t,az s l,az s c with
   |some j,some (.aa (.int _) n),some (.aa (.int _) m)=>match j.ty with
    |some (.list u)=>cond (beq j.size 1&&ble j.bytes 128&&eo .val j.zero) (d.bind (mk n m) fun A=>cP d s base (.nest u (replicate A []) 0 []) fun s'=>K (s'.put o.dst (.ab base))) d.fail
    |_=>bb d C base o s K
   |_,_,_=>bb d C base o s K
  | .buildSlice t n z=>match elemOf C.T t with
   |some j=>match j.ty with
    |some (.list u)=>match n,z.toList with
     |0,[]=>cond (beq j.size 1) (cP d s base (.nest u [] 0 []) fun s'=>K (s'.put o.dst (.ab base))) d.fail
     |1,[(0,x)]=>match az s x with
      |some (.ab g)=>cond (beq j.size 1) (cP d s base (.box [.ab g]) fun s'=>K (s'.put o.dst (.ab base))) d.fail
      |_=>bb d C base o s K
     |_,_=>bb d C base o s K
    |_=>bb d C base o s K
   |none=>bb d C base o s K
  | .indexAddr t x i=>match C.T t,az s x,az s i with
   |some q,some (.ab h),some (.aa (.int _) n)=>match s.row h,q.kind with
    |some (.nest _ xss _ _),.slice e=>match C.T e with
     |some j=>cond (beq j.size 1) (d.bind (al n xss.length) fun m=>K (s.put o.dst (.bW h m 0))) d.fail
     |none=>d.fail
    |_,_=>bb d C base o s K
   |_,_,_=>bb d C base o s K
  | .call c=>match c.callee,c.args.toList,c.argTypes.toList with
   | .builtin .len,[x],[t]=>match az s x,C.T t with
    |some (.ab h),some q=>match s.row h,q.kind with
     |some (.nest _ xss _ _),.slice _=>K (s.put o.dst (.aa (.int .i64) (xss.length:Int)))
     |_,_=>bb d C base o s K
    |_,_=>bb d C base o s K
   | .builtin .append,[x,y],[t,t2]=>match az s x,az s y with
    |some a,some (.ab b)=>match s.row b with
     |some (.box [.ab g])=>B7 d C base o s t t2 a g K
     |_=>bb d C base o s K
    |_,_=>bb d C base o s K
   |_,_,_=>bb d C base o s K
  |_=>bb d C base o s K)
  (bb d C base o s K)
def ME:Value->Option (TypeId×String)
 | .func (.methodOf t name) a b=>match a.toList,b.toList with
  |[],[]=>some (t,name)
  |_,_=>none
 |_=>none
def Ca (T:TT) (s:St) (o:Oper):Option (FuncId×List AV×List TypeId):=
 match o.op with
 | .call c=>match c.callee with
  | .value f=>match az s f with
   |some (.raw v)=>match ME v with
    |some (t,name)=>match T t,cO s c.args.toList with
     |some a,some (.ptr h off::r)=>match a.kind with
      | .lk l=>match l.find? (fun p=>p.1==name) with
       |some p=>some (p.2,.ptr h off::r,c.argTypes.toList)
       |none=>none
      |_=>none
     |_,_=>none
    |none=>none
   |_=>none
  |_=>none
 |_=>none
structure u7 where
 h:Nat
 i:Nat
 off:Nat
 u:Ty
 xs:List u.den
 new:List AV
def u9 (T:TT) (s:St) (o:Oper):Option u7:=
 match o.op with
 | .store t p v=>match az s p,az s v,T t with
  |some (.bW h i off),some a,some b=>match s.row h with
   |some (.seq u xs)=>match cN b.kind,a with
    |true,.agg new=>cond (beq new.length b.size) (some ⟨h,i,off,u,xs,new⟩) none
    |false,a=>cond (beq b.size 1&& !Nat.beq u.cells 1) (some ⟨h,i,off,u,xs,[a]⟩) none
    |_,_=>none
   |_=>none
  |_,_,_=>none
 |_=>none
def va {R:Sort u} (a:cz R) (s:St) (p:u7) (K:St->R):R:=
 cond (blt 0 p.new.length&&ble (p.off+p.new.length) p.u.cells&&p.new.all AV.single)
  (a.bind p.xs[p.i]? fun x=>match ik p.u (overwrite (leaves p.u x) p.off p.new) with
   |some (b,[])=>K (s.setRow p.h (.seq p.u (p.xs.set p.i b)))
   |_=>a.fail) a.fail
def mX (T:TT):List (Nat×TypeId)->List AV->List AV->Option Bool
 |[],_,_=>some true
 |p::c,xs,ys=>match T p.2,xs[p.1]?,ys[p.1]? with
  |some a,some (.aa (.int k) n),some (.aa (.int d) m)=>match a.kind with
   | .int _=>if k=d then(mX T c xs ys).map (fun b=>(n==m)&&b) else none
   |_=>none
  |_,_,_=>none
def structEq (T:TT) (s:St) (o:Oper):Option Bool:=
 match o.op with
 | .binOp c t x y _=>match az s x,az s y,T t with
  |some (.agg xs),some (.agg ys),some b=>match b.kind,c with
   | .eC a,.eql=>cond b.eq (mX T a xs ys) none
   | .eC a,.neq=>cond b.eq ((mX T a xs ys).map (!·)) none
   |_,_=>none
  |_,_,_=>none
 |_=>none
inductive vb where
 |val (g:Bool) (a:AV)
 |Cb (u:Ty) (n:Int)
 |arr (u:Ty) (n:Nat)
def notNil (s:St):AV->Option Bool
 | .aa (.list _) xs=>some (!xs.isEmpty)
 | .ab h=>match s.row h with
  |some (.seq _ xs)=>some (!xs.isEmpty)
  |_=>none
 |_=>none
def Cc:Operand->Bool
 | .const (.slice none 0 0)=>true
 |_=>false
def qO:Option AV->Bool
 |some .aI=>true
 |_=>false
def qP:Option TI->Option TypeId
 |some a=>match a.kind with
  | .slice e=>some e
  |_=>none
 |none=>none
def oM (u:Ty):Nat->List Value->Bool
 |0,vs=>vs.isEmpty
 |n+1,vs=>eo u (vs.take u.cells)&&oM u n (vs.drop u.cells)
def Cd (T:TT) (e:TypeId):Option (Ty×Nat):=
 match T e with
 |some b=>match b.kind with
  | .arr n c=>match T c with
   |some d=>match qM T d with
    |some a=>cond (oM a.2 (n*a.1) b.zero&&ble (n*a.1) 1024&&blt 0 a.2.cells) (some (a.2,n*a.1)) none
    |none=>none
   |none=>none
  |_=>none
 |none=>none
def Ce (T:TT) (s:St) (o:Oper):Option vb:=
 match o.op with
 | .alloc e=>(Cd T e).map fun f=> .arr f.1 f.2
 | .binOp .eql t x y _=>cond (Cc y) (match qP (T t),az s x with
  |some _,some a=>(notNil s a).map fun b=> .val b (.aa .bool false)
  |_,_=>none) none
 | .slice t x none (some hi) none=>cond (qO (az s x)) (match qP (T t),az s hi with
  |some e,some (.aa (.int _) n)=>cond (T e).isSome (some (.val (n==0) .aI)) none
  |_,_=>none) none
 | .call c=>match c.callee with
  | .builtin .cap=>match c.args.toList,c.argTypes.toList with
   |[x],[t]=>cond (qO (az s x)) ((qP (T t)).map fun _=> .val true (.aa (.int .i64) 0)) none
   |_,_=>none
  | .builtin .append=>match c.args.toList,c.argTypes.toList with
   |[x,y],[t,t2]=>match az s y,T t2 with
    |some (.aa (.int .i64) n),some g=>match g.kind,elemOf T t with
     | .int _,some d=>match d.ty with
      |some u=>cond (qO (az s x)&&beq u.cells d.size&&blt 0 d.size&&ble d.bytes 128&&eo u d.zero) (some (.Cb u n)) none
      |none=>none
     |_,_=>none
    |_,_=>none
   |_,_=>none
  |_=>none
 |_=>none
def vc {R:Sort u} (A:cz R) (base:Nat) (o:Oper) (s:St) (K:St->R):vb->R
 | .val g a=>A.bind (sure g) fun _=>K (s.put o.dst a)
 | .Cb u n=>A.bind (oK n) fun q=>cP A s base (.seq u (replicate q u.zero)) fun s'=>K (s'.put o.dst (.ab base))
 | .arr u n=>cP A s base (.seq u (replicate n u.zero)) fun s'=>K (s'.put o.dst (.ptr base 0))
def oN {R:Sort u} (A:cz R) (C:Ctx) (base:Nat) (o:Oper) (s:St) (K:St->R):R:=
 match Ca C.T s o with
 |some (g,args,types)=>cond (ls C s g args types) (eR A C base s g args types fun a s'=>K (s'.put o.dst a)) A.fail
 |none=>match u9 C.T s o with
  |some p=>va A s p fun s'=>K (s'.put o.dst .undef)
  |none=>match structEq C.T s o with
   |some b=>K (s.put o.dst (.aa .bool b))
   |none=>match Ce C.T s o with
    |some q=>vc A base o s K q
    |none=>oL A C base o s K
def jn (C:Ctx) (o:Oper) (s:St):Bool:=
 match o.op with
 | .call c=>match c.callee with
  | .value f=>match az s f with
   |some (.fn g first a)=>match cO s c.args.toList with
    |some args=>ls C s g (first++args++a) (first.map (fun _=>0)++c.argTypes.toList++a.map (fun _=>0))
    |none=>true
   |_=>true
  |_=>true
 |_=>true
def MF (C:Ctx) (s:St) (f:FuncId) (args:List AV) (types:List TypeId):List Nat:=
 match eD s C.T (C.io f) 0 types args with
 |none=> []
 |some avs=>
  let ids:=reach s.heap (s.heap.length+1) 0 (dy [] (cp avs))
  (C.en f (df (place ids) avs) (bL s.heap ids)).mv.filterMap fun j=>ids[j]?
def blind (ids:List Nat) (s:St):St:={s with env:=s.env.map fun a=>cond (ids.any a.refs) .undef a}
def Cf {R:Sort u} (A:cz R) (C:Ctx) (base:Nat) (s:St) (f:FuncId) (args:List AV) (types:List TypeId) (K:AV->St->R):R:=
 cond (ls C (blind (MF C s f args types) s) f args types) (eR A C base (blind (MF C s f args types) s) f args types K) A.fail
def fC {R:Sort u} (b:cz R) (C:Ctx) (base:Nat) (o:Oper) (s:St) (K:St->R):R:=
 cond (jn C o s) (oN b C base o s K)
  (match o.op with
  | .call c=>match c.callee with
   | .value f=>match az s f with
    |some (.fn g first d)=>match cO s c.args.toList with
     |some args=>Cf b C base s g (first++args++d) (first.map (fun _=>0)++c.argTypes.toList++d.map (fun _=>0)) fun a s'=>K (s'.put o.dst a)
     |none=>b.fail
    |_=>b.fail
   |_=>b.fail
  |_=>b.fail)
mutual
def gc (h:Nat) (t:Ty) (xs:List t.den):AV->AV
 | .ab g=>cond (beq g h) (.aa (.list t) xs) (.ab g)
 | .win g o l=>cond (beq g h) (.aa (.list t) ((xs.drop o).take l)) (.win g o l)
 | .ptr g o=>cond (beq g h) (cond (beq o 0) (.tab t xs) .undef) (.ptr g o)
 | .bW g i o=>cond (beq g h) .undef (.bW g i o)
 | .agg cs=> .agg (fD h t xs cs)
 | .aW cs=> .aW (fD h t xs cs)
 | .fn f a b=> .fn f (fD h t xs a) (fD h t xs b)
 | .el c=> .el (gc h t xs c)
 |a=>a
def fD (h:Nat) (t:Ty) (xs:List t.den):List AV->List AV
 |[]=> []
 |a::r=>gc h t xs a::fD h t xs r
end
def jo (h:Nat) (t:Ty) (xs:List t.den):Row->Row
 | .seq u ys=> .seq u ys
 | .box cs=> .box (fD h t xs cs)
 | .nest u yss m cs=> .nest u yss m (fD h t xs cs)
def St.freeze (k h:Nat) (s:St):St:=
 cond (ble k h) (match s.row h with
  |some (.seq t xs)=>⟨fD h t xs s.env,(s.heap.map (Option.map (jo h t xs))).set h none⟩
  |some (.nest t xss _ [])=>⟨fD h (.list t) xss s.env,(s.heap.map (Option.map (jo h (.list t) xss))).set h none⟩
  |_=>s) s
def mY (s:St):AV->AV
 | .ab h=>match s.row h with|some (.seq _ xs)=> .win h 0 xs.length|_=> .ab h
 |a=>a
def St.kf (k:Nat) (s:St):AV->St
 | .ab h=>s.freeze k h
 | .win h _ _=>s.freeze k h
 | .ptr h _=>s.freeze k h
 |_=>s
structure hf where
 at_:Nat
 slot:Nat
 win:Bool
 cell:Option Nat
 row:Option Ty
def lw (r:Row) (slot c:Nat) (s:St):St:=
 match s.env[slot]? with
 |some .aI=>{env:=s.env.set slot (.ab s.heap.length),heap:=s.heap++ [some r]}
 |some (.agg cs)=>match cs[c]? with
  |some .aI=>{env:=s.env.set slot (.agg (cs.set c (.ab s.heap.length))),heap:=s.heap++ [some r]}
  |_=>s
 |some (.ptr h _)=>match s.row h with
  |some (.box cs)=>match cs[c]? with
   |some .aI=>{s with heap:=s.heap.set h (some (.box (cs.set c (.ab s.heap.length))))++ [some r]}
   |_=>s
  |_=>s
 |_=>s
def vd (t:Ty) (slot c:Nat) (s:St):St:=lw (.nest t [] 0 []) slot c s
def qQ (k:Nat) (p:hf) (s:St):St:=
 match p.row with
 |some t=>match p.cell with
  |some c=>cond p.win (vd t p.slot c s) (lw (.seq t []) p.slot c s)
  |none=>s
 |none=>match p.cell with
 |none=>match s.env[p.slot]? with
  |some a=>cond p.win {s with env:=s.env.set p.slot (mY s a)} (s.kf k a)
  |none=>s
 |some c=>match s.env[p.slot]? with
  |some (.ptr h _)=>match s.row h with
   |some (.box cs)=>match cs[c]? with
    |some a=>cond p.win (s.setRow h (.box (cs.set c (mY s a)))) (s.kf k a)
    |none=>s
   |_=>s
  |some (.agg cs)=>match cs[c]? with
   |some a=>cond p.win {s with env:=s.env.set p.slot (.agg (cs.set c (mY s a)))} (s.kf k a)
   |none=>s
  |some (.ab h)=>match s.row h with
   |some (.nest t yss m [.ab g])=>match s.row g with
    |some (.seq b xs)=>match hc (.list t) (.list b) xs with
     |some d=>cond (ble k g) (bJ s h g m t yss d) s
     |none=>s
    |_=>s
   |_=>s
  |_=>s
def dz (k i:Nat):List hf->St->St
 |[],s=>s
 |p::r,s=>cond (beq p.at_ i) (dz k i r (qQ k p s)) (dz k i r s)
def eS (C:Ctx) (o:Oper) (s:St):Bool:=
 match o.op with
 | .call c=>match c.callee with
  | .value f=>match az s f with
   |some (.fn g first a)=>match cO s c.args.toList with
    |some args=>mW C s g (first++args++a) (first.map (fun _=>0)++c.argTypes.toList++a.map (fun _=>0))
    |none=>true
   |_=>true
  |_=>true
 |_=>true
theorem abQ {C:Ctx} {o:Oper} {s:St} (h:eS C o s=true):jn C o s=true:=by
 unfold jn
 unfold eS at h
 split
 all_goals grind [abP]
def hH (C:Ctx) (c:List Oper) (b:List hf) (a:Nat):Nat->List Oper->St->(St->Prop)->Prop
 |i,[],s,K=>K (dz C.k i b s)
 |i,o::r,e,K=>
  let s:=dz C.k i b e
  match o.guard with
  |none=>fC co C (a+i*width) o s fun s'=>hH C c b a (i+1) r s' K
  |some (j,d)=>match(c[j]?).bind (·.dst) with
   |none=>False
   |some t=>match s.env[t]? with
    |some (.aa .bool g)=>
     cond g
      (cond d (fC co C (a+i*width) o {s with env:=s.env.set t (.aa .bool true)} fun s'=>hH C c b a (i+1) r s' K) (hH C c b a (i+1) r ({s with env:=s.env.set t (.aa .bool true)}.put o.dst (.aW [])) K))
      (cond d (hH C c b a (i+1) r ({s with env:=s.env.set t (.aa .bool false)}.put o.dst (.aW [])) K) (fC co C (a+i*width) o {s with env:=s.env.set t (.aa .bool false)} fun s'=>hH C c b a (i+1) r s' K))
    |some (.aW [])=>hH C c b a (i+1) r (s.put o.dst (.aW [])) K
    |_=>False
def ir (C:Ctx) (c:List Oper) (b:List hf) (a:Nat):Nat->List Oper->St->Option St
 |i,[],s=>some (dz C.k i b s)
 |i,o::r,d=>
  let s:=dz C.k i b d
  match o.guard with
  |none=>(fC (ag St) C (a+i*width) o s some).bind (ir C c b a (i+1) r)
  |some (j,e)=>match(c[j]?).bind (·.dst) with
   |none=>none
   |some t=>match s.env[t]? with
    |some (.aa .bool g)=>
     if g=e then(fC (ag St) C (a+i*width) o s some).bind (ir C c b a (i+1) r)
     else ir C c b a (i+1) r (s.put o.dst (.aW []))
    |some (.aW [])=>ir C c b a (i+1) r (s.put o.dst (.aW []))
    |_=>none
def eE:Op->Bool
 | .move _| .pick .. | .nilCheck _| .binOp .. | .unOp .. | .convert .. | .makeFunc .. | .fieldAddr .. | .field .. | .extract .. | .index .. | .build .. =>true
 | .indexAddr .. | .load .. | .slice .. =>true
 | .call c=>match c.callee with| .builtin .len| .builtin .max| .builtin .min=>true|_=>false
 |_=>false
def is:Op->Bool
 | .indexAddr .. | .load .. | .slice .. | .call _=>false
 |_=>true
def ve:Callee->Bool
 | .builtin .copy=>true
 |_=>false
def dQ:Op->Bool
 | .call c=>match c.callee with| .builtin .append=>true|_=>false
 |_=>false
def ep:Op->Bool
 | .buildSlice _ _ _=>true
 |_=>false
def fj (a:List Nat) (j:Nat):Op->Bool
 | .store .. =>false
 | .call c=>match c.callee with| .value _=>a.contains j| .builtin .append=>a.contains j| .builtin .copy=>false|_=>true
 |_=>true
def dq (C:Ctx) (o:Oper) (s:St):List Nat:=
 match o.op with
 | .call c=>match c.callee with
  | .value f=>match az s f with
   |some (.fn g first a)=>match cO s c.args.toList with
    |some args=>match eD s C.T (C.io g) 0 (first.map (fun _=>0)++c.argTypes.toList++a.map (fun _=>0)) (first++args++a) with
     |some avs=>cp avs
     |none=> []
    |none=> []
   |_=> []
  |_=> []
 |_=> []
def cq:Nat:=100000
def waits (i:Nat) (l:List Nat) (o:Oper):Bool:=o.after.any fun e=>Region.binds .any e&&(e.on==i||l.contains e.on)
def rowAt:Nat:=200000
def mZ:Nat:=300000
def oO (a:List Nat):List Nat:=(a.filter fun x=>ble rowAt x&&blt x mZ).map (· -rowAt)
def it (C:Ctx) (o:Oper) (s:St):List Nat:=reach s.heap (s.heap.length+1) 0 (dy [] (dq C o s))
def fk (C:Ctx) (b:List Nat) (o:Oper) (s:St):Bool:=
 match oO b with
 |[]=>true
 |p=>match o.op with
  | .store _ x _=>match az s x with
   |some a=>a.ids.all fun g=> !p.contains g
   |none=>true
  | .call c=> !ve c.callee&&(it C o s).all fun g=> !p.contains g
  |_=>true
def kg (b:List Nat) (i:Nat) (o:Oper) (s:St):Bool:= !b.contains (i+mZ)|| !eE o.op||o.op.operands.toList.all fun x=>match az s x with
 |some a=>a.ids.all fun g=>(oO b).contains g
 |none=>true
def na (a:Array Oper) (b:Array Bool) (i:Nat):List Nat:=
 (range a.size).foldl (fun l j=>match a[j]? with
  |some o=>cond (!b.getD j true&&waits i l o) (j::l) l
  |none=>l) []
def MG (c:Array Oper) (a:Array Bool) (i:Nat) (l:List Nat):Bool:=
 l.all fun b=> !a.getD b true&&(match c[b]? with|some o=>waits i l o|none=>false)
def vf (a:List Nat) (i:Nat) (o:Oper):Bool:=
 match o.op with
 | .move (.tmp _)=>o.guard.isNone&& !a.contains i&& !a.contains (i+mZ)
 |_=>false
def Cg (a:Array Oper) (calm:List Nat) (b:Array Bool) (i:Nat) (c:Oper):Bool:=
 let l:=na a b i
 MG a b i l&&(range a.size).all fun j=>j==i||b.getD j true||l.contains j||(match a[j]? with
  |some d=>c.apart a d&&(is c.op||calm.contains i||calm.contains (i+mZ)||fj calm j d.op)&&(!dQ d.op||(calm.contains j||vf calm i c))&& !calm.contains (j+cq)
  |none=>true)
def lx:Op->Bool
 | .alloc _=>true
 | .makeSlice _ _ _=>true
 |_=>false
def oP:Op->Bool
 | .call c=>match c.callee with| .value _=>true|_=>false
 |_=>false
def MH:Op->Bool
 | .store _ _ _=>true
 |_=>false
def vg (_:List Nat) (_:Nat) (o:Op):Bool:=lx o||oP o||MH o
def Ch (a:Array Oper) (d:List Nat) (b:Array Bool) (i:Nat) (e:Oper):Bool:=
 let l:=na a b i
 MG a b i l&&(range a.size).all fun j=>j==i||b.getD j true||l.contains j||(match a[j]? with
  |some c=>e.apart a c&&(lx c.op&&c.guard.isNone)&& !d.contains (j+cq)
  |none=>true)
def qR (a:Array Oper) (b:List Nat):List Nat->Array Bool->Bool
 |[],c=>(Region.ready .any a c).isEmpty
 |i::r,c=>
  (Region.ready .any a c).contains i&&((Region.ready .any a c)==[i]||(match a[i]? with|some d=>(eE d.op||(ep d.op&&b.contains i))&&Cg a b c i d&& !b.contains (i+cq)|none=>false)
    ||(match a[i]? with|some d=>(vg b i d.op&&d.guard.isNone)&&Ch a b c i d&& !b.contains (i+cq)|none=>false))
   &&qR a b r (c.setIfInBounds i true)
def vh (a:Array Oper) (b order:List Nat):Bool:=
 Region.noSelect a&&order.length==a.size&&qR a b order (Array.replicate a.size false)
def cr (b:List Nat) (a i:Nat) (o:Oper) (s:St):Nat:=
 match o.op with
 | .buildSlice _ _ _=>cond (b.contains i) s.heap.length (a+i*width)
 |_=>a+i*width
def iu (o:Oper) (s:St):Bool:=
 match o.op with
 | .call c=>match c.callee with
  | .builtin .append=>match c.args.toList with
   |[x,_]=>match az s x with
    |some .aI=>true
    |_=>false
   |_=>false
  |_=>false
 |_=>false
def iv (o:Oper) (s:St):Bool:=o.op.operands.toList.all fun x=>match az s x with
 |some a=>a.ids.isEmpty
 |none=>true
def bz (C:Ctx) (calm:List Nat) (i:Nat) (o:Oper) (s:St):Bool:=(!calm.contains i||((dq C o s).isEmpty&&(!dQ o.op||iu o s)&&(!eE o.op||iv o s)))&&(eS C o s||calm.contains (i+cq))&&(fk C calm o s&&kg calm i o s)
def hI (C:Ctx) (o:Oper) (s:St):Option Nat:=
 match o.op with
 | .buildSlice t n b=>match elemOf C.T t with
  |some a=>match a.ty,n,b.toList with
   |some (.list _),1,[(0,x)]=>match az s x with
    |some (.ab g)=>cond (beq a.size 1) (some g) none
    |_=>none
   |_,_,_=>none
  |none=>none
 |_=>none
def ct {R:Sort u} (a:cz R) (C:Ctx) (b:List Nat) (i base:Nat) (o:Oper) (s:St) (K:St->R):R:=
 cond (b.contains (i+cq)) (fC a C base o s K)
  (cond C.deep
   (match hI C o s with
   |some g=>cP a s base (.box [.ab g]) fun s'=>K (s'.put o.dst (.ab base))
   |none=>bb a C base o s K)
   (bb a C base o s K))
def jp (C:Ctx) (c:List Oper) (a:List Nat) (b:Nat):List Nat->St->(St->Prop)->Prop
 |[],s,K=>K s
 |i::r,s,K=>
  match c[i]? with
  |none=>False
  |some o=>
   match o.guard with
   |none=>cond (bz C a i o s) (ct co C a i (cr a b i o s) o s fun s'=>jp C c a b r s' K) False
   |some (j,d)=>match(c[j]?).bind (·.dst) with
    |none=>False
    |some t=>match s.env[t]? with
     |some (.aa .bool g)=>
      cond g
       (cond d (cond (bz C a i o {s with env:=s.env.set t (.aa .bool true)}) (ct co C a i (cr a b i o s) o {s with env:=s.env.set t (.aa .bool true)} fun s'=>jp C c a b r s' K) False) (jp C c a b r ({s with env:=s.env.set t (.aa .bool true)}.put o.dst (.aW [])) K))
       (cond d (jp C c a b r ({s with env:=s.env.set t (.aa .bool false)}.put o.dst (.aW [])) K) (cond (bz C a i o {s with env:=s.env.set t (.aa .bool false)}) (ct co C a i (cr a b i o s) o {s with env:=s.env.set t (.aa .bool false)} fun s'=>jp C c a b r s' K) False))
     |some (.aW [])=>jp C c a b r (s.put o.dst (.aW [])) K
     |_=>False
def bQ (C:Ctx) (c:List Oper) (a:List Nat) (b i:Nat) (s:St):Option St:=
 match c[i]? with
 |none=>none
 |some o=>
  match o.guard with
  |none=>if bz C a i o s=true then ct (ag St) C a i (cr a b i o s) o s some else none
  |some (j,d)=>match(c[j]?).bind (·.dst) with
   |none=>none
   |some t=>match s.env[t]? with
    |some (.aa .bool g)=>if g=d then(if bz C a i o s=true then ct (ag St) C a i (cr a b i o s) o s some else none) else some (s.put o.dst (.aW []))
    |some (.aW [])=>some (s.put o.dst (.aW []))
    |_=>none
def ly (C:Ctx) (c:List Oper) (b:List Nat) (a:Nat):List Nat->St->Option St
 |[],s=>some s
 |i::r,s=>(bQ C c b a i s).bind (ly C c b a r)
def mask (b:List Nat):Nat->List AV->List AV
 |_,[]=> []
 |i,a::r=>(if b.contains i then a else .undef)::mask b (i+1) r
def Ci (k:Nat) (a:List Nat) (s:St):Option St:=
 let env:=mask a 0 s.env
 let ids:=reach s.heap (s.heap.length+1) 0 (dy (range k) (cp env))
 if mV ids&&jk s.heap ids ids&&(cp env).all (fun g=>ids.contains g)&&(ids.take k==range k) then
  some ⟨df (place ids) env,bL s.heap ids⟩
 else none
def hJ (k:Nat) (a:List Nat) (s:St) (K:St->Prop):Prop:=
 match Ci k a s with
 |some s'=>K s'
 |none=>False
inductive bf where
 |leaf (live:List Nat)
 |kh (fr:List hf) (live:List Nat)
 |draw (calm order:List Nat) (fr:List hf) (live:List Nat)
 |seq (a b:bf)
 |cond (a b:bf)
 |block (a:bf)
 |loop (a:bf)
def oQ (f:St->Prop) (K:Exit->St->Prop) (e:Exit) (s:St):Prop:=
 match e with
 | .normal=>f s
 |e=>K e s
def qS (id:Nat) (K:Exit->St->Prop) (e:Exit) (s:St):Prop:=
 match e with
 | .exit i=>if i=id then K .normal s else K (.exit i) s
 |e=>K e s
def vi (body:St->(Exit->St->Prop)->Prop):Nat->St->(Exit->St->Prop)->Prop
 |0,_,_=>False
 |n+1,s,K=>body s (oQ (fun s'=>vi body n s' K) K)
def bu (C:Ctx) (L:Nat):Code->bf->St->(Exit->St->Prop)->Prop
 | .skip,.leaf d,s,K=>hJ C.k d s (K .normal)
 | .ret,.leaf d,s,K=>hJ C.k d s (K .ret)
 | .exit id,.leaf d,s,K=>hJ C.k d s (K (.exit id))
 | .skip,.kh f d,s,K=>hJ C.k d (dz C.k 0 f s) (K .normal)
 | .ret,.kh f d,s,K=>hJ C.k d (dz C.k 0 f s) (K .ret)
 | .exit id,.kh f d,s,K=>hJ C.k d (dz C.k 0 f s) (K (.exit id))
 | .region _ e false,.leaf d,s,K=>
  hH C e.toList [] s.heap.length 0 e.toList {s with heap:=s.heap++replicate (e.size*width) none} fun s'=>hJ C.k d s' (K .normal)
 | .region _ e false,.kh f d,s,K=>
  hH C e.toList f s.heap.length 0 e.toList {s with heap:=s.heap++replicate (e.size*width) none} fun s'=>hJ C.k d s' (K .normal)
 | .region _ e true,.draw h order f d,s,K=>
  cond (vh e h order) (jp C e.toList h s.heap.length order {s with heap:=s.heap++replicate (e.size*width) none} fun s'=>hJ C.k d (dz C.k 0 f s') (K .normal)) False
 | .seq a b,.seq x y,s,K=>bu C L a x s (oQ (fun s'=>bu C L b y s' K) K)
 | .cond c a b,.cond x y,s,K=>match az s c with
  |some (.aa .bool g)=>_root_.cond g (bu C L a x s K) (bu C L b y s K)
  |_=>False
 | .block id c,.block x,s,K=>bu C L c x s (qS id K)
 | .loop c,.loop x,s,K=>vi (fun s K=>bu C L c x s K) L s K
 |_,_,_,_=>False
end Go.Rv
namespace Go.Rv
mutual
theorem ah.cu {w:World} {S:Nat->Prop} {σ:Nat->Option Sum}: ∀(a:AV) (v:Value) (g:Nat),ah w S σ a v->a.refs g=true-> ∃s,σ g=some s
 | .ab h,_,g,⟨s,e,_⟩,d=>by simp[AV.refs] at d;subst d;exact⟨s,e⟩
 | .win h _ _,_,g,⟨s,e,_⟩,d=>by simp[AV.refs] at d;subst d;exact⟨s,e⟩
 | .ptr h _,_,g,⟨s,_,_,_,e,_⟩,d=>by simp[AV.refs] at d;subst d;exact⟨s,e⟩
 | .bW h _ _,_,g,⟨s,_,_,_,e,_⟩,d=>by simp[AV.refs] at d;subst d;exact⟨s,e⟩
 | .agg cs,_,g,⟨vs,_,f⟩,d=>aC.cu cs vs g f (by simpa[AV.refs] using d)
 | .aW cs,_,g,⟨vs,_,f⟩,d=>aC.cu cs vs g f (by simpa[AV.refs] using d)
 | .fn _ a b,_,g,⟨k,l,_,i,j⟩,d=>by
  simp[AV.refs] at d
  rcases d with d|d
  ·exact aC.cu a k g i d
  ·exact aC.cu b l g j d
 | .undef,_,_,_,d=>by simp[AV.refs] at d
 | .aa _ _,_,_,_,d=>by simp[AV.refs] at d
 | .aI,_,_,_,d=>by simp[AV.refs] at d
 | .gb _ _ _,_,_,_,d=>by simp[AV.refs] at d
 | .tab _ _,_,_,_,d=>by simp[AV.refs] at d
 | .raw _,_,_,_,d=>by simp[AV.refs] at d
 | .gw _,_,_,_,d=>by simp[AV.refs] at d
 | .el c,_,g,⟨_,_,u,_,_,_,_,f⟩,d=>ah.cu c u g f (by simpa[AV.refs] using d)
theorem aC.cu {w:World} {S:Nat->Prop} {σ:Nat->Option Sum}: ∀(a:List AV) (v:List Value) (g:Nat),aC w S σ a v->cf a g=true-> ∃s,σ g=some s
 |[],_,_,_,b=>by simp[cf] at b
 |a::r,_,g,⟨v,e,_,c,d⟩,b=>by
  simp[cf] at b
  rcases b with b|b
  ·exact ah.cu a v g c b
  ·exact aC.cu r e g d b
end
theorem MI {w:World} {S:Nat->Prop} {σ:Nat->Option Sum} (v:Value):ah w S σ (lm v) v:=by
 unfold lm
 grind [ah,ay]
section
variable {B : cl} {s : St} {tmps : Array Value} {w : World} {ι : ba}
theorem bc (h:Inv B s tmps w ι) {x:Operand} {a:AV} (b:az s x=some a) (d:List Deferred):ah w (dst B.D w ι s.heap) (sumOf ι s.heap) a (eval ⟨tmps,d⟩ x):=by
 cases x with
 |tmp t=>
  obtain⟨v,j,i⟩:=h.env t a b
  simp_all [eval,mL]
 |const v=>simp[az] at b;subst b;exact MI v
 |global g=>
  simp only[az] at b
  split at b
  ·rename_i c e
   cases b
   exact⟨g,0,rfl,(h.dN g c.1 c.2 e).1⟩
  ·cases b
 |func f=>simp[az] at b;subst b;exact⟨[],[],rfl,rfl,rfl⟩
theorem Inv.put (h:Inv B s tmps w ι) (d:Option Tmp) {a:AV} {v:Value} (g:ah w (dst B.D w ι s.heap) (sumOf ι s.heap) a v) (e:List Deferred):
  Inv B (s.put d a) (Act.put ⟨tmps,e⟩ d v).tmps w ι:=by
 cases d with
 |none=>exact h
 |some t=>
  refine⟨h.kept,h.am,h.stay,h.io,fun i b c=> ?_,h.dN⟩
  simp only[St.put,Act.put] at c⊢
  rw[ox] at c
  split at c
  ·rename_i hit
   subst hit
   split at c
   ·rename_i f
    obtain⟨u,j,_⟩:=h.env t (s.env[t]) (by simp[f])
    grind
   ·cases c
  grind [Inv.env,Array.getElem?_setIfInBounds_ne]
structure Trans (w:World) (ι:ba) (H:Heap) (w':World) (ι':ba) (H':Heap) (good:Nat->Prop):Prop where
 size:w.heap.size<=w'.heap.size
 lz: ∀b,aM w ι H b->aM w' ι' H' b/\w'.heap[b]? =w.heap[b]?
 sum: ∀g,good g->sumOf ι' H' g=sumOf ι H g
variable {w' : World} {ι' : ba} {H H' : Heap} {good : Nat -> Prop}
theorem Trans.av {D:Nat->Prop} (t:Trans w ι H w' ι' H' good) {a:AV} {v:Value} (d: ∀g,a.refs g=true->good g) (h:ah w (dst D w ι H) (sumOf ι H) a v):
  ah w' (dst D w' ι' H') (sumOf ι' H') a v:=
 ah.mono t.size (fun b c _=>⟨⟨c.1,(t.lz b c.2).1⟩,(t.lz b c.2).2⟩) a v (fun g e=>t.sum g (d g e)) h
theorem Trans.avs {D:Nat->Prop} (t:Trans w ι H w' ι' H' good) {a:List AV} {v:List Value} (d: ∀g,cf a g=true->good g) (h:aC w (dst D w ι H) (sumOf ι H) a v):
  aC w' (dst D w' ι' H') (sumOf ι' H') a v:=
 aC.mono t.size (fun b c _=>⟨⟨c.1,(t.lz b c.2).1⟩,(t.lz b c.2).2⟩) a v (fun g e=>t.sum g (d g e)) h
theorem Trans.aa {D:Nat->Prop} (t:Trans w ι H w' ι' H' good) {u:Ty} {x:u.den} {c:List Value} (h:ay w (dst D w ι H) u x c):ay w' (dst D w' ι' H') u x c:=
 ay.mono t.size (fun b a _=>⟨⟨a.1,(t.lz b a.2).1⟩,(t.lz b a.2).2⟩) u x c h
theorem nb {cs:List AV} {j:Nat} {a:AV} {g:Nat} (h:cs[j]? =some a) (b:a.refs g=true):cf cs g=true:=by
 induction cs generalizing j<;>grind [cf]
theorem Trans.ki {D:Nat->Prop} (t:Trans w ι H w' ι' H' good) (h:hb w (dst D w ι H)):hb w' (dst D w' ι' H'):=
 h.mono t.size (fun b a _=>⟨⟨a.1,(t.lz b a.2).1⟩,(t.lz b a.2).2⟩)
theorem Trans.row {D:Nat->Prop} (t:Trans w ι H w' ι' H' good) {r:Row} {p:Option (Nat×Nat×Nat)} (I: ∀g,r.refs g=true->good g)
  (A: ∀b o c,p=some (b,o,c)->w'.heap[b]? =w.heap[b]?) (h:bG w (dst D w ι H) (sumOf ι H) p r):bG w' (dst D w' ι' H') (sumOf ι' H') p r:=by
 cases r with
 |seq u xs=>
  cases p with
  |none=>exact h
  |some G=>
   obtain⟨b,o,c⟩:=G
   obtain⟨d,e,f,k,q,y,z⟩:=h
   refine⟨d,e,(A b o c rfl).trans f,k,q,y,fun i x K=> ?_⟩
   obtain⟨cs,hd,J⟩:=z i x K
   exact⟨cs,t.aa hd,J⟩
 |box cs=>
  obtain⟨b,o,c,d,e,rfl,f,k⟩:=h
  refine⟨b,o,c,d,e,rfl,(A b o c rfl).trans f,fun j a l=> ?_⟩
  obtain⟨v,F,n,E⟩:=k j a l
  exact⟨v,F,n,t.av (fun g C=>I g (nb l C)) E⟩
 |nest u xss m cs=>
  cases p with
  |none=>exact h
  |some G=>
   obtain⟨b,o,c⟩:=G
   obtain⟨d,e,f,k,q,y,z⟩:=h
   refine⟨d,e,(A b o c rfl).trans f,k,q,y,fun j a l=> ?_⟩
   obtain⟨v,F,n,E⟩:=z j a l
   exact⟨v,F,n,t.av (fun g C=>I g (nb l C)) E⟩
theorem Trans.nest {D:Nat->Prop} (j:Trans w ι H w' ι' H' good) {p:Option (Nat×Nat×Nat)} {d:Nat->Option (Nat×Nat×Nat)} {t:Ty} {xss:List (List t.den)} {m:Nat} {cs:List AV}
  (k: ∀b o c,p=some (b,o,c)->w'.heap[b]? =w.heap[b]?) (hi: ∀i b o c,i<xss.length->d i=some (b,o,c)->w'.heap[b]? =w.heap[b]?)
  (h:cX w (dst D w ι H) (sumOf ι H) p d t xss m cs):cX w' (dst D w' ι' H') (sumOf ι' H') p d t xss m cs where
 hole:=h.hole
 cell:=fun i xs a hi=>by
  grind [cX.cell,Trans.trans]
 part:=fun i xs a=>j.row (fun g e=>by simp[Row.refs] at e) (fun b o c f=>hi i b o c (aO.1 a).1 f) (h.part i xs a)
 ha:=h.ha
 sep:=h.sep
def Row.gL (b c:Row):Prop:= ∀t xss m a,b= .nest t xss m a-> ∃cs,c= .nest t xss m cs/\cs.length=a.length
theorem Row.gL.rfl {r:Row}:r.gL r:=fun _ _ _ _ e=>⟨_,e,Eq.refl _⟩
theorem cX.gL {S:Nat->Prop} {σ:Nat->Option Sum} {p:Option (Nat×Nat×Nat)} {c:Nat->Option (Nat×Nat×Nat)} {t:Ty} {xss:List (List t.den)} {m:Nat} {cs b:List AV}
  (h:cX w S σ p c t xss m cs) (d:cs.length=b.length):cX w S σ p c t xss m b where
 hole:=fun j a f=>by
  grind [List.length,List.getElem?_eq_some_iff,cX.hole,List.getElem?_eq_getElem]
 cell:=fun i xs e hi=>h.cell i xs e (d▸hi)
 part:=h.part
 ha:=h.ha
 sep:=h.sep
theorem Inv.drew (h:Inv B s tmps w ι) (n:Nat):Inv B s tmps {w with drawn:=n} ι:=by
 have t:Trans w ι s.heap {w with drawn:=n} ι s.heap (fun _=>True):=⟨aS _,fun b e=>⟨e,rfl⟩,fun _ _=>rfl⟩
 refine⟨⟨h.kept.os,h.kept.tape,h.kept.output,h.kept.size,h.kept.block,h.kept.gc⟩,⟨fun g r c=> ?_,h.am.one,h.am.has,fun g u xss m cs c=> ?_⟩,h.stay,h.io,fun i a d=> ?_,t.ki h.dN⟩
 ·exact t.row (fun _ _=>trivial) (fun _ _ _ _=>rfl) (h.am.rows g r c)
 ·exact t.nest (fun _ _ _ _=>rfl) (fun _ _ _ _ _ _=>rfl) (h.am.nest g u xss m cs c)
 ·obtain⟨v,f,c⟩:=h.env i a d
  exact⟨v,f,t.av (fun _ _=>trivial) c⟩
def bA (ι:ba) (g:Nat) (p:Option (Nat×Nat×Nat)):ba:=⟨fun h=>if h=g then p else ι h,ι.aw⟩
theorem Cj {g h:Nat} {p:Option (Nat×Nat×Nat)} (a:h≠g):bA ι g p h=ι h:=by simp[bA,a]
theorem abR {g:Nat} {p:Option (Nat×Nat×Nat)}:bA ι g p g=p:=by simp[bA]
theorem abS {g h b:Nat} {r:Row} {p:Option (Nat×Nat×Nat)} {H':Heap} (x:H'[g]? =some (some r)) (hd:r.deep=false)
  (n: ∀(h':Nat) (k:Row),h'≠g->H'[h']? =some (some k)-> ∃f,H[h']? =some (some f)/\k.gL f)
  (o:aP (bA ι g p) H' h b):(h=g/\ ∃c,p=some c/\c.1=b)\/(h≠g/\aP ι H h b):=by
 cases o with
 |out k c d j e=>
  by_cases a:h=g
  ·grind [abR]
  ·obtain⟨f,l,_⟩:=n h k a d
   rw[Cj a] at j
   exact .inr ⟨a,.out f c l j e⟩
 |aw t xss m cs i c d hi j e=>
  by_cases a:h=g
  ·subst a
   rw[x] at d
   cases d
   cases hd
  ·obtain⟨f,l,v⟩:=n h _ a d
   obtain⟨q,rfl,_⟩:=v _ _ _ _ rfl
   exact .inr ⟨a,.aw t xss m q i c l hi j e⟩
theorem iw {r:Row} {g:Nat} {p:Option (Nat×Nat×Nat)} (a:g<H.length):sumOf (bA ι g p) (H.set g (some r)) g=some ⟨p,r.cells,r.len⟩:=by
 simp[sumOf,bA,a]
theorem Inv.qT (h:Inv B s tmps w ι) {s':St} {X:Array Value} {g:Nat} {r:Row} {p:Option (Nat×Nat×Nat)} (good:Nat->Prop)
  (R:s'.heap[g]? =some (some r)) (Q:r.deep=false)
  (E: ∀(h':Nat) (j:Row),h'≠g->s'.heap[h']? =some (some j)-> ∃d,s.heap[h']? =some (some d)/\j.gL d/\j.cells=d.cells/\j.len=d.len/\
   (∀(S:Nat->Prop) (σ:Nat->Option Sum) (w:World) f,bG w S σ f d->bG w S σ f j)/\(∀x,j.refs x=true->good x))
  (O: ∀(h':Nat) (d:Row),h'≠g->s.heap[h']? =some (some d)-> ∃j,s'.heap[h']? =some (some j))
  (A:Kept (aM w ι s.heap) w w')
  (K: ∀(h' b:Nat),h'≠g->aP ι s.heap h' b->w'.heap[b]? =w.heap[b]?)
  (b9: ∀f,p=some f->(f.1<w'.heap.size/\ ¬aM w ι s.heap f.1/\ ∀(h':Nat),h'≠g-> ¬aP ι s.heap h' f.1))
  (b5:good g->sumOf (bA ι g p) s'.heap g=sumOf ι s.heap g)
  (a6: ∀x,good x->(∃d,s.heap[x]? =some (some d)))
  (c2:Trans w ι s.heap w' (bA ι g p) s'.heap good->bG w' (dst B.D w' (bA ι g p) s'.heap) (sumOf (bA ι g p) s'.heap) p r)
  (a5: ∀(i:Nat) (a:AV),s'.env[i]? =some a-> ∃v,X[i]? =some v/\((∃G,ah w (dst B.D w ι s.heap) (sumOf ι s.heap) G v/\(a=G\/a= .undef)/\ ∀x,a.refs x=true->good x)\/
   (Trans w ι s.heap w' (bA ι g p) s'.heap good->ah w' (dst B.D w' (bA ι g p) s'.heap) (sumOf (bA ι g p) s'.heap) a v)))
  (b6:g<B.k->B.mv g=true\/sumOf (bA ι g p) s'.heap g=sumOf ι s.heap g) (b8: ∀f,p=some f->B.D f.1):
  Inv B s' X w' (bA ι g p):=by
 have C: ∀{h' b:Nat},aP (bA ι g p) s'.heap h' b->(h'=g/\ ∃f,p=some f/\f.1=b)\/(h'≠g/\aP ι s.heap h' b):=fun o=>
  abS R Q (fun h' j b7 q=>by
   grind) o
 have V: ∀b,aM w ι s.heap b->aM w' (bA ι g p) s'.heap b:=by
  intro b y
  refine⟨gH y.1 A.size,fun h' o=> ?_⟩
  rcases C o with⟨_,f,a8,e⟩|⟨_,o⟩
  ·simp_all
  ·exact y.2 h' o
 have F:Trans w ι s.heap w' (bA ι g p) s'.heap good:=by
  refine⟨A.size,fun b y=>⟨V b y,A.block b y⟩,fun x b1=> ?_⟩
  by_cases W:x=g
  ·simp_all
  ·obtain⟨d,n⟩:=a6 x b1
   obtain⟨j,q⟩:=O x d W n
   obtain⟨b2,a9,_,a3,J,_⟩:=E x j W q
   simp_all [sumOf,bA]
 refine⟨h.kept.trans A h.stay,⟨fun h' j q=> ?_,fun a0 a1 b L M=> ?_,fun h' b o=> ?_,fun h' t xss m cs q=> ?_⟩,fun b y=>V b (h.stay b y),fun h' a7=> ?_,fun i a a2=> ?_,F.ki h.dN⟩
 ·by_cases l:h'=g
  ·grind [bA]
  ·obtain⟨d,n,_,_,_,am,I⟩:=E h' j l q
   rw[Cj l]
   refine F.row I (fun b o c z=>K h' b l (.out d (b,o,c) n z rfl)) ?_
   exact am _ _ _ _ (h.am.rows h' d n)
 ·rcases C L with⟨Y,c3,c0,b3⟩|⟨Y,L⟩<;>rcases C M with⟨Z,c4,c1,b4⟩|⟨Z,M⟩
  ·omega
  ·simp_all
  ·simp_all
  ·exact h.am.one a0 a1 b L M
 ·rcases C o with⟨_,f,a8,e⟩|⟨_,o⟩
  ·simp_all
  ·exact h.am.has h' b o
 ·by_cases l:h'=g
  ·subst l
   rw[R] at q
   cases q
   cases Q
  ·obtain⟨d,n,a4,_⟩:=E h' _ l q
   obtain⟨N,rfl,J⟩:=a4 _ _ _ _ rfl
   rw[Cj l]
   exact(F.nest (fun b o c z=>K h' b l (.out _ (b,o,c) n z rfl)) (fun i b o c hi z=>K h' b l (.aw t xss m N i (b,o,c) n hi z rfl)) (h.am.nest h' t xss m N n)).gL J
 ·obtain⟨hi,d,n⟩:=h.io h' a7
  by_cases l:h'=g
  ·grind
  ·obtain⟨j,q⟩:=O h' d l n
   obtain⟨b2,a9,_,a3,J,_⟩:=E h' j l q
   simp_all [id,sumOf,bA]
 ·obtain⟨v,b0,U⟩:=a5 i a a2
  refine⟨v,b0,?_⟩
  rcases U with⟨G,n,rfl|rfl,I⟩|U
  ·exact F.av I n
  ·trivial
  grind
theorem dA {x:Nat} {a:Sum} (h:sumOf ι H x=some a): ∃b,H[x]? =some (some b):=by
 grind [sumOf]
theorem bR {x:Nat} {r:Row} (h:H[x]? =some (some r)):sumOf ι H x=some ⟨ι x,r.cells,r.len⟩:=by
 simp[sumOf,h]
theorem bG.cu {S:Nat->Prop} {σ:Nat->Option Sum} {p:Option (Nat×Nat×Nat)} {r:Row} (h:bG w S σ p r) (x:Nat) (i:r.refs x=true): ∃d,σ x=some d:=by
 cases r with
 |seq t xs=>simp[Row.refs] at i
 |nest t xss m cs=>
  have z: ∀(cs:List AV),(∀(j:Nat) (a:AV),cs[j]? =some a-> ∃v,ah w S σ a v)->cf cs x=true-> ∃d,σ x=some d:=by
   intro cs
   induction cs with
   |nil=>grind [cf]
   |cons a r k=>
    intro f h
    simp[cf] at h
    rcases h with h|h
    ·obtain⟨v,n⟩:=f 0 a rfl
     grind [ah.cu]
    ·exact k (fun j b g=>f (j+1) b g) h
  simp only[Row.refs] at i
  cases p with
  |none=>
   obtain⟨_,rfl⟩:=h
   grind
  |some d=>
   obtain⟨l,e,_,_,_,_,y⟩:=h
   grind
 |box cs=>
  obtain⟨b,o,c,l,e,_,_,q⟩:=h
  simp only[Row.refs] at i
  have: ∀(cs:List AV),(∀(j:Nat) (a:AV),cs[j]? =some a-> ∃v,ah w S σ a v)->cf cs x=true-> ∃d,σ x=some d:=by
   intro cs
   induction cs with
   |nil=>grind [cf]
   |cons a r k=>
    intro f h
    simp[cf] at h
    rcases h with h|h
    ·obtain⟨v,n⟩:=f 0 a rfl
     grind [ah.cu]
    ·exact k (fun j b g=>f (j+1) b g) h
  grind
theorem Inv.alloc (h:Inv B s tmps w ι) {g:Nat} (F:s.heap[g]? =some none) (r:Row) (E:r.deep=false) (j:Array Value) (e:TypeId) (p:Option (Nat×Nat×Nat))
  (d:p=none\/ ∃o c,p=some (w.heap.size,o,c))
  (J:Trans w ι s.heap (w.alloc (.cells j e)) (bA ι g p) (s.heap.set g (some r)) (fun x=> ∃t,s.heap[x]? =some (some t))->
   bG (w.alloc (.cells j e)) (dst B.D (w.alloc (.cells j e)) (bA ι g p) (s.heap.set g (some r))) (sumOf (bA ι g p) (s.heap.set g (some r))) p r):
  Inv B (s.setRow g r) tmps (w.alloc (.cells j e)) (bA ι g p):=by
 have I:g<s.heap.length:=(aO.1 F).1
 have y: ∀b,b<w.heap.size->(w.alloc (.cells j e)).heap[b]? =w.heap[b]? :=fun b l=>uZ w _ b l
 have M:(w.alloc (.cells j e)).heap.size=w.heap.size+1:=by simp
 refine h.qT (s':=s.setRow g r) (g:=g) (r:=r) (p:=p) (fun x=> ∃t,s.heap[x]? =some (some t)) (by simp[St.setRow,I]) E ?_ ?_ ?_ ?_ ?_ ?_ (fun x n=>n) J ?_ ?_ ?_
 ·intro h' A m k
  simp only[St.setRow] at k
  rw[hA (fZ m)] at k
  exact⟨A,k,.rfl,rfl,rfl,fun _ _ _ _ G=>G,fun x n=>by
   obtain⟨z,f⟩:=(h.am.rows h' A k).cu x n
   exact dA f⟩
 ·grind [St.setRow,List.getElem?_set_ne]
 ·exact⟨rfl,rfl,rfl,by omega,fun b l=>y b l.1,fun a _=>BZ _ _ _ a⟩
 ·intro h' b m q
  exact y _ (q.lt h.am)
 ·intro z f
  rcases d with d|⟨o,c,d⟩
  ·simp_all
  ·rw[d] at f;cases f
   exact⟨by omega,fun K=>oy _ K.1,fun h' m q=>oy _ (q.lt h.am)⟩
 ·simp_all
 ·intro i a C
  obtain⟨v,N,L⟩:=h.env i a C
  grind [ah.cu,dA]
 ·grind [Inv.io]
 ·intro z f
  rcases d with d|⟨o,c,d⟩
  ·simp_all
  ·rw[d] at f;cases f
   exact B.new _ h.kept.size
theorem Inv.write (h:Inv B s tmps w ι) {g:Nat} {d:Row} (j:s.heap[g]? =some (some d)) (r:Row) (F:r.deep=false) (N:r.cells=d.cells) (O:r.len=d.len)
  {b o c:Nat} (n:ι g=some (b,o,c)) {L:Array Value} {e:TypeId} (M:w.heap[b]? =some (.cells L e (0,0))) (f:Array Value)
  (J:Trans w ι s.heap (w.setRow b f) (bA ι g (some (b,o,c))) (s.heap.set g (some r)) (fun x=> ∃d,s.heap[x]? =some (some d))->
   bG (w.setRow b f) (dst B.D (w.setRow b f) (bA ι g (some (b,o,c))) (s.heap.set g (some r))) (sumOf (bA ι g (some (b,o,c))) (s.heap.set g (some r))) (some (b,o,c)) r):
  Inv B (s.setRow g r) tmps (w.setRow b f) (bA ι g (some (b,o,c))):=by
 have I:g<s.heap.length:=(aO.1 j).1
 have z: ¬aM w ι s.heap b:=fun K=>K.2 g (.out d _ j n rfl)
 refine h.qT (s':=s.setRow g r) (g:=g) (r:=r) (p:=some (b,o,c)) (fun x=> ∃d,s.heap[x]? =some (some d)) (by simp[St.setRow,I]) F ?_ ?_ ?_ ?_ ?_ ?_ (fun x m=>m) J ?_ ?_ ?_
 ·intro h' C k q
  simp only[St.setRow] at q
  rw[hA (fZ k)] at q
  exact⟨C,q,.rfl,rfl,rfl,fun _ _ _ _ G=>G,fun x m=>by
   obtain⟨A,l⟩:=(h.am.rows h' C q).cu x m
   exact dA l⟩
 ·grind [St.setRow,List.getElem?_set_ne]
 ·exact⟨rfl,rfl,rfl,by simp,fun x m=>u0 w b x f (fun e=>z (e▸m)),fun a _=>MA _ _ _ a⟩
 ·intro h' y k t
  exact u0 w b y f (fun e=>k (h.am.one h' g y t (.out d _ j n e.symm)))
 ·intro A l
  cases l
  exact⟨by simp;grind,z,fun h' k t=>k (h.am.one h' g b t (.out d _ j n rfl))⟩
 ·grind [St.setRow,iw,bR]
 ·intro i a E
  obtain⟨v,R,Q⟩:=h.env i a E
  grind [ah.cu,dA]
 ·grind [St.setRow,iw,bR]
 ·intro A l
  cases l
  exact h.am.own g d _ j n
end
end Go.Rv
namespace Go.Rv
def qU (P:Program) (t:TypeId) (name:String) (g:FuncId):Bool:=
 match P.info? t with
 |some i=>match i.methods.toList.find? (fun m=>m.name==name) with
  |some m=>match m.path.toList,m.func with
   |[s],some (f,true)=>s.deref&&beq f g&&(match P.underlying s.struct with
    |some (.struct b)=>match b[s.index]? with
     |some a=>beq a.offset 0&&(match P.underlying a.type with|some (.struct _)=>true|_=>false)&&(match P.info? a.type with|some j=> !(beq j.size 0)|none=>false)
     |none=>false
    |_=>false)
   |_,_=>false
  |none=>false
 |none=>false
def kindOk (P:Program) (t:TypeId):TK->Prop
 | .int k=>P.underlying t=some (.int k)
 | .str=>P.underlying t=some .string
 | .slice e=>P.underlying t=some (.slice e)
 | .arr n e=>P.underlying t=some (.array n e)
 | .eC a=> ∃f,P.underlying t=some (.struct f)/\f.toList.map (fun x=>(x.offset,x.type))=a
 | .bool=>P.underlying t=some .bool
 | .hD=> ∃ms,P.underlying t=some (.interface ms)
 | .map k e=>P.underlying t=some (.map k e)
 | .lk l=>(∃e,P.underlying t=some (.pointer e))/\(l.all fun p=>qU P t p.1 p.2)=true
 | .scalar=> ∃d,P.underlying t=some d/\(match d with| .struct _| .array _ _=>false|_=>true)=true
def Ck (P:Program) (t:TypeId):Bool:=
 !P.stoodInHeld t&& !P.eqGuardType P.depth t&&(match P.underlying t with
  |some (.struct f)=>f.toList.all fun x=> !(x.name== "_")
  |_=>false)
structure ix (P:Program) (t:TypeId) (ti:TI):Prop where
 info: ∃i,P.info? t=some i/\i.size=ti.size/\i.bytes=ti.bytes/\ ∃z,i.zero=some z/\z.cells.toList=ti.zero
 kind:kindOk P t ti.kind
 eq:ti.eq=true->Ck P t=true
def bS (P:Program) (T:TT):Prop:= ∀t a,T t=some a->ix P t a
section
variable {P : Program} {w w1 : World} {S : Nat -> Prop} {σ : Nat -> Option Sum}
theorem oR {t:TypeId} {c:TI} (h:ix P t c):(isAgg t).run P w= .ok (cN c.kind) w:=by
 have a:=h.kind
 unfold isAgg
 cases b:c.kind with
 |int k=>rw[b] at a;simp[aE,bi a,cN]
 |bool=>rw[b] at a;simp[aE,bi a,cN]
 |hD=>rw[b] at a;obtain⟨e,a⟩:=a;simp[aE,bi a,cN]
 |str=>rw[b] at a;simp[aE,bi a,cN]
 |slice e=>rw[b] at a;simp[aE,bi a,cN]
 |map k e=>rw[b] at a;simp[aE,bi a,cN]
 |lk l=>rw[b] at a;obtain⟨⟨e,a⟩,_⟩:=a;simp[aE,bi a,cN]
 |arr n e=>rw[b] at a;simp[aE,bi a,cN]
 |eC g=>rw[b] at a;obtain⟨f,a,_⟩:=a;simp[aE,bi a,cN]
 |scalar=>
  rw[b] at a;obtain⟨d,a,hd⟩:=a
  simp only[aE,bi a,ei,cN]
  cases d<;>simp_all
theorem run_sizeOf {t:TypeId} {a:TI} (h:ix P t a):(sizeOf t).run P w= .ok a.size w:=by
 obtain⟨i,hi,b,_⟩:=h.info
 simp[sizeOf,typeInfo,hi,b]
theorem dC {k:IntKind} {n:Int} {v:Value} (h:ah w S σ (.aa (.int k) n) v):v= .int k n:=by
 grind [ah,ay]
theorem oS {b:Bool} {v:Value} (h:ah w S σ (.aa .bool b) v):v= .bool b:=by
 grind [ah,ay]
theorem oT {b:ByteArray} {v:Value} (h:ah w S σ (.aa .str b) v):v= .string b:=by
 grind [ah,ay]
theorem er (k:IntKind) (n:Int):ah w S σ (.aa (.int k) n) (.int k n):=rfl
theorem fE (b:Bool):ah w S σ (.aa .bool b) (.bool b):=rfl
theorem Cl (b:ByteArray):ah w S σ (.aa .str b) (.string b):=rfl
theorem abT {T:TT} (b:bS P T) {t:TypeId} {y:Operand} (h:qL T t y= .bool):P.underlying t=some .bool:=by
 unfold qL at h
 split at h
 ·rename_i e d
  have a:=(b t e d).kind
  split at h
  ·rename_i c
   rw[c] at a
   exact a
  all_goals grind
 ·cases h
theorem abU {T:TT} (b:bS P T) {t:TypeId} {y:Operand} (h:qL T t y= .hD):(∃ms,P.underlying t=some (.interface ms))/\ ∃v,y= .const v:=by
 unfold qL at h
 split at h
 ·rename_i e d
  have a:=(b t e d).kind
  split at h
  ·cases h
  ·rename_i c
   rw[c] at a
   split at h
   ·exact⟨a,_,rfl⟩
   ·cases h
  ·cases h
 ·cases h
theorem abV (d:Nat) {t:TypeId} (c: ∃ms,P.underlying t=some (.interface ms)) (a:Bool) {v:Value} (b:oF a v):(equalIn (d+1) t v .nilIface).run P w1= .ok (!a) w1:=by
 obtain⟨ms,c⟩:=c
 cases a with
 |false=>
  have b:v= .nilIface:=b
  simp_all [equalIn,aE,bi,ei,mM]
 |true=>
  obtain⟨e,p,b⟩:=b
  simp_all [equalIn,aE,bi,ei,mM]
theorem MJ {t:TypeId} (b: ∃ms,P.underlying t=some (.interface ms)) (a:Bool) {v:Value} (c:oF a v):(equal t v .nilIface).run P w1= .ok (!a) w1:=abV 9999 b a c
theorem abW {t:TypeId} (b: ∃ms,P.underlying t=some (.interface ms)) (a:Bool) {v:Value} (c:oF a v):(binOp .eql t v .nilIface).run P w1= .ok (.bool (!a)) w1:=by
 grind [MJ,binOp,equal,Pure.pure,Sem.run_bind,Result.andThen_ok,Sem.run_pure]
theorem abX {t:TypeId} (b: ∃ms,P.underlying t=some (.interface ms)) (a:Bool) {v:Value} (c:oF a v):(binOp .neq t v .nilIface).run P w1= .ok (.bool a) w1:=by
 have e:=MJ (P:=P) (w1:=w1) b a c
 grind [binOp,equal,Pure.pure,Sem.run_bind,Result.andThen_ok,Sem.run_pure]
theorem run_equalIn_bool (d:Nat) {t:TypeId} (c:P.underlying t=some .bool) (a b:Bool):(equalIn (d+1) t (.bool a) (.bool b)).run P w1= .ok (a==b) w1:=by
 simp only[equalIn,aE,bi c,ei,mM]
theorem run_equal_bool {t:TypeId} (c:P.underlying t=some .bool) (a b:Bool):(equal t (.bool a) (.bool b)).run P w1= .ok (a==b) w1:=run_equalIn_bool 9999 c a b
theorem run_eql_bool {t:TypeId} (c:P.underlying t=some .bool) (a b:Bool):(binOp .eql t (.bool a) (.bool b)).run P w1= .ok (.bool (a==b)) w1:=by
 show(do let r<-equal t (.bool a) (.bool b);pure (Value.bool r):Sem Value).run P w1=_
 simp only[aE,run_equal_bool c,ei,mM]
theorem run_neq_bool {t:TypeId} (c:P.underlying t=some .bool) (a b:Bool):(binOp .neq t (.bool a) (.bool b)).run P w1= .ok (.bool (a !=b)) w1:=by
 show(do let r<-equal t (.bool a) (.bool b);pure (Value.bool (!r)):Sem Value).run P w1=_
 grind [Sem.run_bind,run_equal_bool,Result.andThen_ok,Sem.run_pure]
theorem abY {β:Type} {q:EK} {l:BinOp} {x y:AV} {K:AV->Option β} {r:β} (t:TypeId) (m n:Operand) (z:q= .bool->P.underlying t=some .bool) (A:q= .hD->(∃ms,P.underlying t=some (.interface ms))/\ ∃v,n= .const v) (h:jX (ag β) q l x y K=some r) {vx vy:Value} (o:ah w S σ x vx) (p:ah w S σ y vy):
  ∃a v,K a=some r/\ah w S σ a v/\(do eqGuard l t m n vx vy;binOp l t vx vy:Sem Value).run P w1= .ok v w1:=by
 unfold jX at h
 split at h
 ·rename_i k a E b
  have f:=dC o
  have g:=dC p
  subst f g
  have j:(eqGuard l t m n (.int k a) (.int E b)).run P w1= .ok () w1:=by
   simp_all [eqGuard]
  simp only[aE,j,ei]
  split at h
  ·simp only[ag,shl] at h
   split at h
   ·cases h
   ·rename_i i
    exact⟨_,_,h,er _ _,by simp[binOp,Op.shift,i]⟩
  ·simp only[ag,shr] at h
   split at h
   ·cases h
   ·rename_i i
    exact⟨_,_,h,er _ _,by simp[binOp,Op.shift,i]⟩
  ·split at h
   ·rename_i C
    subst C
    split at h
    ·exact⟨_,_,h,er _ _,by simp[binOp,intArith]⟩
    ·exact⟨_,_,h,er _ _,by simp[binOp,intArith]⟩
    ·exact⟨_,_,h,er _ _,by simp[binOp,intArith]⟩
    ·simp only[ag,quo] at h
     split at h
     ·cases h
     ·rename_i i
      exact⟨_,_,h,er _ _,by simp[binOp,Op.intDiv,i]⟩
    ·simp only[ag,rem] at h
     split at h
     ·cases h
     ·rename_i i
      exact⟨_,_,h,er _ _,by simp[binOp,Op.intDiv,i]⟩
    ·exact⟨_,_,h,er _ _,by simp[binOp,intBits,dO]⟩
    ·exact⟨_,_,h,er _ _,by simp[binOp,intBits,ji]⟩
    ·exact⟨_,_,h,er _ _,by simp[binOp,intBits,oH]⟩
    ·exact⟨_,_,h,er _ _,by simp[binOp,intBits,qK]⟩
    ·exact⟨_,_,h,fE _,by simp[binOp,intCmp]⟩
    ·exact⟨_,_,h,fE _,by simp[binOp,intCmp]⟩
    ·exact⟨_,_,h,fE _,by simp[binOp,intCmp]⟩
    ·exact⟨_,_,h,fE _,by simp[binOp,intCmp]⟩
    ·exact⟨_,_,h,fE _,by simp[binOp,intCmp]⟩
    ·exact⟨_,_,h,fE _,by simp[binOp,intCmp]⟩
    ·cases h
   ·cases h
 ·rename_i a b
  have f:=oT o
  have g:=oT p
  subst f g
  have j:(eqGuard l t m n (.string a) (.string b)).run P w1= .ok () w1:=by
   simp_all [eqGuard]
  simp only[aE,j,ei]
  split at h
  ·simp only[ag,cat] at h
   split at h
   ·rename_i I
    refine⟨_,_,h,Cl _,?_⟩
    have G: ¬(((a.size+b.size:Nat):Int)>IntKind.i64.max):=by
     have:IntKind.i64.max=9223372036854775807:=by decide
     grind [maxLen]
    simp_all [binOp,Op.stringOp,aG]
   ·cases h
  ·exact⟨_,_,h,fE _,by simp[binOp,Op.stringOp,aD]⟩
  ·exact⟨_,_,h,fE _,by simp[binOp,Op.stringOp,aD]⟩
  ·cases h
 ·rename_i a b
  have f:=oS o
  have g:=oS p
  subst f g
  have j:(eqGuard l t m n (.bool a) (.bool b)).run P w1= .ok () w1:=by
   simp_all [eqGuard]
  simp only[aE,j,ei]
  split at h
  ·have e:=z rfl
   split at h
   ·exact⟨_,_,h,fE _,run_eql_bool e a b⟩
   ·exact⟨_,_,h,fE _,run_neq_bool e a b⟩
   ·cases h
  ·cases h
 ·rename_i a
  obtain⟨u,f,e⟩:=o
  cases f
  have g:vy= .nilIface:=p
  subst g
  split at h
  ·obtain⟨hi,F,D⟩:=A rfl
   subst D
   have j:(eqGuard l t m (.const F) vx .nilIface).run P w1= .ok () w1:=by
    unfold eqGuard
    cases a with
    |false=>have e:vx= .nilIface:=e;simp_all
    |true=>obtain⟨c,d,e⟩:=e;simp_all
   simp only[aE,j,ei]
   split at h
   ·exact⟨_,_,h,fE _,abW hi a e⟩
   ·exact⟨_,_,h,fE _,abX hi a e⟩
   ·cases h
  ·cases h
 ·cases h
theorem abZ {β:Type} {d:UnOp} {x:AV} {K:AV->Option β} {r:β} (h:jY (ag β) d x K=some r) {vx:Value} (c:ah w S σ x vx):
  ∃a v,K a=some r/\ah w S σ a v/\(unary d vx).run P w1= .ok v w1:=by
 unfold jY at h
 split at h
 ·have b:=oS c
  subst b
  exact⟨_,_,h,fE _,by simp[unary]⟩
 ·have b:=dC c
  subst b
  exact⟨_,_,h,er _ _,by simp[unary,intArith]⟩
 ·cases h
theorem aC.append {a b:List AV} {c d:List Value} (e:aC w S σ a c) (f:aC w S σ b d):aC w S σ (a++b) (c++d):=by
 induction a generalizing c<;>grind [aC]
theorem aC.drop: ∀(n:Nat) {a:List AV} {b:List Value},aC w S σ a b->aC w S σ (a.drop n) (b.drop n)
 |0,_,_,h=>h
 |n+1,[],b,h=>by grind [aC]
 |n+1,x::r,b,⟨v,d,e,_,c⟩=>by subst e;exact aC.drop n c
theorem aC.take: ∀(n:Nat) {a:List AV} {b:List Value},aC w S σ a b->aC w S σ (a.take n) (b.take n)
 |0,_,_,_=>rfl
 |n+1,[],b,h=>by grind [aC]
 |n+1,x::r,b,⟨v,f,e,d,c⟩=>by subst e;exact⟨v,f.take n,rfl,d,aC.take n c⟩
theorem aC.set: ∀(n:Nat) {a:List AV} {b:List Value} {x:AV} {v:Value},aC w S σ a b->ah w S σ x v->aC w S σ (a.set n x) (b.set n v)
 |_,[],b,_,_,h,_=>by grind [aC]
 |0,y::r,b,x,v,⟨u,f,e,_,c⟩,d=>by subst e;exact⟨v,f,rfl,d,c⟩
 |n+1,y::r,b,x,v,⟨u,f,e,g,c⟩,d=>by subst e;exact⟨u,f.set n v,rfl,g,aC.set n c d⟩
theorem oU: ∀(t:Ty) (x:t.den) (cs:List Value),ay w S t x cs->aC w S σ (leaves t x) cs
 | .int _,_,cs,h=>by have e:cs=[.int _ _]:=h;subst e;exact⟨_,[],rfl,rfl,rfl⟩
 | .bool,_,cs,h=>by have e:cs=[.bool _]:=h;subst e;exact⟨_,[],rfl,rfl,rfl⟩
 | .str,_,cs,h=>by have e:cs=[.string _]:=h;subst e;exact⟨_,[],rfl,rfl,rfl⟩
 | .unit,_,cs,h=>by have e:cs=[]:=h;subst e;rfl
 | .val,_,cs,h=>by have e:cs=[_]:=h.1;subst e;exact⟨_,[],rfl,rfl,rfl⟩
 | .err,_,cs,h=>by obtain⟨v,e,h'⟩:=h;subst e;exact⟨v,[],rfl,⟨v,rfl,h'⟩,rfl⟩
 | .pair a b,x,cs,⟨c,d,e,f,g⟩=>by subst e;exact(oU a x.1 c f).append (oU b x.2 d g)
 | .list t,xs,cs,h=>by
  have h':=h
  obtain⟨a,cap,e,_,_⟩:=h'
  subst e
  exact⟨_,[],rfl,h,rfl⟩
end
end Go.Rv
namespace Go.Rv
theorem addr_add (b o j:Nat):(⟨b,o,none⟩:Addr).add j=⟨b,o+j,none⟩:=by
 grind [Addr.add]
section
variable {P : Program} {T : TT} {B : cl} {s : St} {tmps : Array Value} {w : World} {ι : ba}
theorem MK {S:Nat->Prop} {σ:Nat->Option Sum} {d:Array Value}: ∀(cs:List AV) (o:Nat),
  (∀(j:Nat) (a:AV),cs[j]? =some a-> ∃v,d[o+j]? =some v/\v.oneCell'=true/\ah w S σ a v)->
  ∃vs,aC w S σ cs vs/\(∀(j:Nat) (v:Value),vs[j]? =some v->d[o+j]? =some v)/\(∀v∈vs,v.oneCell'=true)
 |[],_,_=>⟨[],rfl,by simp,by simp⟩
 |a::r,o,h=>by
  obtain⟨v,p,k,g⟩:=h 0 a rfl
  obtain⟨vs,f,l,m⟩:=MK r (o+1) (fun j b n=>by
   obtain⟨u,c,e,i⟩:=h (j+1) b (by grind)
   exact⟨u,by rw[<-c];congr 1;omega,e,i⟩)
  refine⟨v::vs,⟨v,vs,rfl,g,f⟩,fun j u c=> ?_,fun u c=> ?_⟩
  all_goals grind
theorem jq {b:Nat} {a:Array Value} {e:TypeId} {c:Nat×Nat} (d:w.heap[b]? =some (.cells a e c)) (j:Nat):w.cell? ⟨b,j,none⟩=a[j]? :=by
 simp[World.cell?,d]
theorem lA {β:Type} {t:TypeId} {c:TI} (i:ix P t c) {S:Nat->Prop} {σ:Nat->Option Sum} {as:List AV} {cs:List Value} {b o off:Nat} {K:AV->Option β} {r:β}
  (h:(if cN c.kind then(if off+c.size<=as.length then K (.agg ((as.drop off).take c.size)) else none) else match as[off]? with|some a=>K a|none=>none)=some r)
  (am:aC w S σ as cs) (e:fe w b o cs):
  ∃a v,K a=some r/\ah w S σ a v/\(loadVar t ⟨b,o+off,none⟩).run P w= .ok v w:=by
 have p:=am.length
 simp only[loadVar,aE,oR i,ei]
 split at h
 ·rename_i g
  split at h
  ·rename_i n
   have l:((cs.drop off).take c.size).length=c.size:=by simp;omega
   refine⟨_,.agg ((cs.drop off).take c.size).toArray,h,⟨_,rfl,(am.drop off).take c.size⟩,?_⟩
   have f:=BX (P:=P) w ⟨b,o+off,none⟩ ((cs.drop off).take c.size) (fun j v d=>by
    rw[addr_add]
    rw[qG] at d
    split at d
    ·rw[mN] at d
     have:=e _ v d
     grind
    ·cases d)
   rw[l] at f
   simp[g,aE,run_sizeOf i,f]
  ·cases h
 ·rename_i g
  split at h
  ·rename_i a k
   obtain⟨v,d,m⟩:=am.get _ _ off a k
   refine⟨a,v,h,m,?_⟩
   have:=e off v d
   simp_all
  ·cases h
theorem nc {h i:Nat} {u:Ty} {xs:List u.den} {x:u.den} (d:eO B.D w ι s.heap) (g:s.heap[h]? =some (some (.seq u xs))) {b o c:Nat} (f:ι h=some (b,o,c)) (k:xs[i]? =some x):
  ∃cs,ay w (dst B.D w ι s.heap) u x cs/\fe w b (o+i*u.cells) cs:=by
 have:=d.rows h _ g
 rw[f] at this
 obtain⟨l,e,m,n,p,q,a⟩:=this
 obtain⟨cs,hd,r⟩:=a i x k
 exact⟨cs,hd,fun j v t=>by grind [jq]⟩
theorem bj {h:Nat} {r:Row} (a:s.row h=some r):s.heap[h]? =some (some r):=by
 grind [St.row]
theorem iy {S:Nat->Prop} {σ:Nat->Option Sum} {u:Ty} {a:AV} {x:u.den} {v:Value} (h:eP u a=some x) (b:ah w S σ a v):ay w S u x [v]:=by
 cases a with
 |aa t y=>
  simp only[eP,hc] at h
  split at h
  ·rename_i e;subst e;simp at h;subst h;exact b
  ·cases h
 |aI=>
  simp only[eP] at h
  cases u<;>simp at h
  subst h
  obtain⟨a,rfl⟩:=b
  exact⟨a,0,rfl,aS _,.inl rfl⟩
 |raw y=>
  simp only[eP] at h
  cases u<;>simp at h
  obtain⟨c,rfl⟩:=h
  have b:v=y:=b
  subst b
  exact⟨rfl,c⟩
 |_=>simp[eP] at h
theorem qV {u:Ty}: ∀{cs:List AV} {i:Nat} {x:u.den},(dP u cs)[i]? =some x-> ∃a,cs[i]? =some a/\eP u a=some x
 |[],_,_,h=>by simp[dP] at h
 |a::r,i,x,h=>by
  unfold dP at h
  split at h
  ·rename_i y e
   cases i with
   |zero=>simp_all
   |succ i=>simp at h;obtain⟨b,c,d⟩:=qV h;simp_all
  ·simp at h
theorem vj (u:Ty): ∀(cs:List AV),(dP u cs).length<=cs.length
 |[]=>by simp[dP]
 |a::r=>by
  unfold dP
  split
  ·simpa using vj u r
  ·simp
theorem ML {u:Ty} {xs:List u.den} {n:Nat} (h:xs.length=n):u4 u xs n=xs.map (AV.aa u):=by
 subst h
 refine hB fun i=> ?_
 grind [u4,List.length,List.getElem?_range,List.getElem?_eq_getElem,List.getElem?_eq_none]
theorem qW {S:Nat->Prop} {σ:Nat->Option Sum} {u:Ty} (e:u.cells=1) {b:Nat}: ∀(xs:List u.den) (o:Nat),
  (∀(i:Nat) x,xs[i]? =some x-> ∃cs,ay w S u x cs/\fe w b (o+i) cs)-> ∃vs,aC w S σ (xs.map (AV.aa u)) vs/\fe w b o vs
 |[],o,_=>⟨[],rfl,fun j v k=>by cases k⟩
 |x::r,o,h=>by
  obtain⟨cs,hd,c⟩:=h 0 x rfl
  obtain⟨vs,f,g⟩:=qW e r (o+1) (fun i y l=>by
   obtain⟨cs,hd,c⟩:=h (i+1) y (by grind)
   exact⟨cs,hd,by rw[show o+1+i=o+(i+1) by omega];exact c⟩)
  have d:=ay.length u x cs hd
  rw[e] at d
  obtain⟨v,rfl⟩:=Mw.mp d
  refine⟨v::vs,⟨v,vs,rfl,hd,f⟩,fun j z a=> ?_⟩
  cases j with
  |zero=>
   simp at a
   subst a
   exact c 0 v rfl
  |succ j=>
   simp at a
   have:=g j z a
   grind
theorem MM (Y:bS P T) (M:Inv B s tmps w ι) {β:Type} {t:TypeId} {p:AV} {K:AV->Option β} {r:β} (h:eQ (ag β) T s t p K=some r) {R:Value}
  (G:ah w (dst B.D w ι s.heap) (sumOf ι s.heap) p R):
  ∃a v,K a=some r/\ah w (dst B.D w ι s.heap) (sumOf ι s.heap) a v/\(loadAt t R).run P w= .ok v w:=by
 unfold eQ at h
 split at h
 ·cases h
 ·rename_i a7 n
  have n:=Y t a7 n
  simp only[ag] at h
  split at h
  ·rename_i u x off
   obtain⟨b,o,cs,rfl,_,_,hd,f⟩:=G
   obtain⟨a,v,l,m,z⟩:=lA n h (oU u x cs hd) f
   exact⟨a,v,l,m,by simp[loadAt,sureAddr,aE,z]⟩
  ·rename_i c
   obtain⟨b,o,u,rfl,_,_,f,k⟩:=G
   obtain⟨a,v,l,m,z⟩:=lA n h ⟨u,[],rfl,k,rfl⟩ f
   grind [loadAt,sureAddr,Sem.run_bind]
  ·rename_i g i off
   obtain⟨a6,b,o,c,I,A,a8,rfl⟩:=G
   split at h
   ·rename_i u xs C
    have k:=bj C
    cases q:xs[i]? with
    |none=>grind
    |some x=>
     simp only[q,ac] at h
     have d:=bR (ι:=ι) k
     rw[I] at d
     simp at d
     subst d
     obtain⟨cs,hd,f⟩:=nc M.am k A q
     obtain⟨a,v,l,m,z⟩:=lA n h (oU u x cs hd) f
     exact⟨a,v,l,m,by grind [Row.cells,loadAt,sureAddr,Sem.run_bind]⟩
   ·rename_i cs C
    have k:=bj C
    split at h
    ·rename_i u a9
     cases q:(dP u (cs.drop off))[i]? with
     |none=>grind
     |some x=>
      simp only[q,ac] at h
      have d:=bR (ι:=ι) k
      rw[I] at d
      simp at d
      subst d
      obtain⟨V,a5,W,X,e,F,a0,E⟩:=M.am.rows g _ k
      simp only at A
      rw[A] at F
      cases F
      obtain⟨a,Q,Z⟩:=qV q
      rw[mN] at Q
      obtain⟨v,a4,_,a2⟩:=E _ a Q
      have hd:=iy Z a2
      obtain⟨U,v1,l,m,z⟩:=lA (cs:=[v]) (b:=b) (o:=o+(off+i)) n h ⟨v,[],rfl,hd,rfl⟩ (by
       intro j y b0
       have a1:j=0:=by
        grind
       subst a1
       grind [jq])
      refine⟨U,v1,l,m,?_⟩
      grind [Row.cells,loadAt,sureAddr,Sem.run_bind]
    ·cases h
   ·cases h
  ·rename_i g off
   obtain⟨a6,b,o,c,I,A,rfl⟩:=G
   split at h
   ·rename_i cs C
    have k:=bj C
    have d:=bR (ι:=ι) k
    rw[I] at d
    simp at d
    subst d
    obtain⟨V,a5,W,X,e,F,a0,E⟩:=M.am.rows g _ k
    simp only at A
    rw[A] at F
    cases F
    obtain⟨vs,L,N,_⟩:=MK cs o E
    obtain⟨a,v,l,m,z⟩:=lA n h L (b:=b) (o:=o) (fun j v a4=>by grind [jq])
    grind [loadAt,sureAddr,Sem.run_bind]
   ·rename_i u xs C
    have k:=bj C
    split at h
    ·rename_i f
     obtain⟨J,rfl,a3⟩:=f
     unfold same at h
     split at h
     ·rename_i O
      simp only[ac] at h
      have d:=bR (ι:=ι) k
      rw[I] at d
      simp at d
      subst d
      obtain⟨vs,L,N⟩:=qW (σ:=sumOf ι s.heap) J xs o (fun i x q=>by
       obtain⟨cs,hd,f⟩:=nc M.am k A q
       exact⟨cs,hd,by simpa[J] using f⟩)
      rw[ML O] at h
      obtain⟨a,v,l,m,z⟩:=lA (K:=K) (r:=r) (off:=0) n (by
       grind) L N
      grind [loadAt,sureAddr,Sem.run_bind]
     ·cases h
    ·cases h
   ·cases h
  ·rename_i u xs
   obtain⟨b,o,rfl,_,_,E⟩:=G
   split at h
   ·rename_i f
    obtain⟨J,a3⟩:=f
    unfold same at h
    split at h
    ·rename_i O
     simp only[ac] at h
     obtain⟨vs,L,N⟩:=qW (σ:=sumOf ι s.heap) J xs o (fun i x q=>by
      obtain⟨cs,hd,f⟩:=E i x q
      exact⟨cs,hd,by simpa[J] using f⟩)
     rw[ML O] at h
     obtain⟨a,v,l,m,z⟩:=lA (K:=K) (r:=r) (off:=0) n (by
      grind) L N
     grind [loadAt,sureAddr,Sem.run_bind]
    ·cases h
   ·cases h
  ·cases h
theorem ab0 (q:bS P T) {β:Type} {S:Nat->Prop} {σ:Nat->Option Sum} {t:TypeId} {x:AV} {f:Nat} {K:AV->Option β} {r:β} (h:jZ (ag β) T t x f K=some r) {vx:Value}
  (p:ah w S σ x vx): ∃a v,K a=some r/\ah w S σ a v/\(fieldAt t vx f).run P w= .ok v w:=by
 unfold jZ at h
 split at h
 ·rename_i O n
  have n:=q t O n
  split at h
  ·rename_i Q L
   have z:=n.kind
   rw[L] at z
   obtain⟨C,X,V⟩:=z
   split at h
   ·rename_i off D R
    have J: ∃d,C[f]? =some d/\d.offset=off/\d.type=D:=by
     grind
    obtain⟨d,U,rfl,rfl⟩:=J
    split at h
    ·rename_i A k
     have k:=q _ A k
     split at h
     ·cases h
     ·rename_i N
      have W: ∀b o,(fieldPlace ⟨b,o,none⟩ d).run P w= .ok ⟨b,o+d.offset,none⟩ w:=by
       intro b o
       simp only[fieldPlace,aE,run_sizeOf k,ei,N,jc]
       simp[addr_add]
      split at h
      ·rename_i g o
       obtain⟨j,b,e,c,m,l,rfl⟩:=p
       exact⟨_,.pointer (some ⟨b,e+(o+d.offset),none⟩),h,⟨j,b,e,c,m,l,rfl⟩,by
        simp_all [fieldAt,aE,bi,sureAddr,lg]⟩
      ·rename_i g i o
       obtain⟨j,b,e,c,m,l,M,rfl⟩:=p
       exact⟨_,.pointer (some ⟨b,e+i*j.cells+(o+d.offset),none⟩),h,⟨j,b,e,c,m,l,M,rfl⟩,by
        simp_all [fieldAt,aE,bi,sureAddr,lg]⟩
      ·rename_i u y o
       obtain⟨b,e,cs,rfl,E,F,G,I⟩:=p
       exact⟨_,.pointer (some ⟨b,e+(o+d.offset),none⟩),h,⟨b,e,cs,rfl,E,F,G,I⟩,by
        simp_all [fieldAt,aE,bi,sureAddr,lg]⟩
      ·cases h
    ·cases h
   ·cases h
  ·cases h
 ·cases h
theorem ab1 (i:bS P T) {β:Type} {S:Nat->Prop} {σ:Nat->Option Sum} {t:TypeId} {x:AV} {f:Nat} {K:AV->Option β} {r:β} (h:ka (ag β) T t x f K=some r) {vx:Value}
  (A:ah w S σ x vx): ∃a v,K a=some r/\ah w S σ a v/\(field t vx f).run P w= .ok v w:=by
 unfold ka at h
 split at h
 ·rename_i C cs e
  have e:=i t C e
  obtain⟨vs,rfl,am⟩:=A
  have G:=am.length
  split at h
  ·rename_i D q
   have k:=e.kind
   rw[q] at k
   obtain⟨m,l,I⟩:=k
   split at h
   ·rename_i off n E
    have p: ∃b,m[f]? =some b/\b.offset=off/\b.type=n:=by
     grind
    obtain⟨b,j,rfl,rfl⟩:=p
    split at h
    ·rename_i g c
     have c:=i _ g c
     split at h
     ·rename_i d
      split at h
      ·rename_i F
       refine⟨_,.agg ((vs.drop b.offset).take g.size).toArray,h,⟨_,rfl,(am.drop _).take _⟩,?_⟩
       simp[field,aE,bi l,j,asAgg,part,oR c,d,run_sizeOf c]
      ·cases h
     ·rename_i d
      split at h
      ·rename_i a o
       obtain⟨v,z,y⟩:=am.get _ _ _ a o
       refine⟨a,v,h,y,?_⟩
       simp[field,aE,bi l,j,asAgg,part,oR c,d,z]
      ·cases h
    ·cases h
   ·cases h
  ·cases h
 ·cases h
end
end Go.Rv
namespace Go.Rv
section
variable {P : Program} {T : TT} {B : cl} {s : St} {tmps : Array Value} {w : World} {ι : ba}
theorem dD {g:Nat} {u:Ty} {xs:List u.den} {a:Sum} (c:s.heap[g]? =some (some (.seq u xs))) (b:sumOf ι s.heap g=some a):a=⟨ι g,u.cells,xs.length⟩:=by
 have:=bR (ι:=ι) c
 rw[b] at this
 exact ga this
theorem vk {t e:TypeId} {c a:TI} (i:ix P t c) (h:c.kind= .slice e) (g:ix P e a) (b o len cap:Nat) (k:IntKind) (n:Int) (d:0<=n) (f:n<(len:Int)):
  (indexAt t (.slice (some ⟨b,o,none⟩) len cap) (.int k n)).run P w= .ok (.pointer (some ⟨b,o+n.toNat*a.size,none⟩)) w:=by
 have j:P.underlying t=some (.slice e):=by have:=i.kind;rw[h] at this;exact this
 simp[indexAt,asIntOf,aE,bi j,d,f,run_sizeOf g,addr_add]
theorem MN {b:TI} {a:Nat×Ty} (h:qM T b=some a):b.size=a.1*a.2.cells/\0<a.1:=by
 unfold qM at h
 split at h
 ·rename_i m e g
  split at h
  ·rename_i d f
   split at h
   ·rename_i u i
    cases c:(beq b.size (m*u.cells)&&blt 0 m&&beq d.size u.cells) with
    |false=>simp_all
    |true=>
     rw[c] at h
     cases h
     simp_all
   ·cases h
  ·cases h
 ·cases h
theorem ab2 (W:bS P T) (b4:Inv B s tmps w ι) {β:Type} {t:TypeId} {x i:AV} {K:AV->Option β} {r:β} (h:fg (ag β) T s t x i K=some r) {vx a3:Value}
  (A:ah w (dst B.D w ι s.heap) (sumOf ι s.heap) x vx) (hi:ah w (dst B.D w ι s.heap) (sumOf ι s.heap) i a3):
  ∃a v,K a=some r/\ah w (dst B.D w ι s.heap) (sumOf ι s.heap) a v/\(indexAt t vx a3).run P w= .ok v w:=by
 unfold fg at h
 split at h
 ·rename_i k n
  have e:=dC hi
  subst e
  split at h
  ·rename_i b3 M
   have M:=W t b3 M
   split at h
   ·rename_i e Q
    split at h
    ·rename_i l m
     have m:=W e l m
     simp only[ag] at h
     split at h
     ·rename_i u xs
      split at h
      ·rename_i f
       cases I:idx xs n with
       |none=>grind
       |some y=>
        simp only[I,ac] at h
        unfold idx at I
        split at I
        ·rename_i a4
         obtain⟨a,cap,a0,b7,q⟩:=A
         simp at a0
         subst a0
         have F:n.toNat<xs.length:=(aO.1 I).1
         rcases q with rfl|⟨b,o,rfl,L,a5,O⟩
         ·simp at F
         ·obtain⟨cs,hd,a7⟩:=O _ y I
          exact⟨_,.pointer (some ⟨b,o+n.toNat*l.size,none⟩),h,⟨b,o+n.toNat*u.cells,cs,by simp[f],L,a5,hd,a7⟩,
           vk M Q m b o xs.length cap k n a4 (by omega)⟩
        ·cases I
      ·cases h
     ·rename_i g
      split at h
      ·rename_i u xs E
       have q:=bj E
       split at h
       ·rename_i f
        obtain⟨N,j,p⟩:=A
        have C:=dD q j
        subst C
        unfold al at h
        split at h
        ·rename_i d
         simp only[ac] at h
         unfold br at p
         simp only at p
         split at p
         ·rename_i b o c z
          obtain⟨a1,p⟩:=p
          rcases p with rfl|⟨a6,_,_⟩
          ·exact⟨_,.pointer (some ⟨b,o+n.toNat*l.size,none⟩),h,⟨_,b,o,c,j,z,by simp;omega,by simp[f]⟩,by
            grind [vk,Ty.cells,List.length]⟩
          ·omega
         ·omega
        ·simp at h
       ·cases h
      ·cases h
     ·rename_i g off len
      split at h
      ·rename_i u xs E
       have q:=bj E
       split at h
       ·rename_i f
        obtain⟨N,j,b9,p⟩:=A
        have C:=dD q j
        subst C
        unfold al at h
        split at h
        ·rename_i d
         simp only[ac] at h
         unfold br at p
         simp only at p
         split at p
         ·rename_i b o c z
          obtain⟨a1,p⟩:=p
          rcases p with rfl|⟨a6,_,_⟩
          ·exact⟨_,.pointer (some ⟨b,o+(off+n.toNat)*l.size,none⟩),h,⟨_,b,o,c,j,z,by omega,by simp[f]⟩,by
            have:=vk (w:=w) M Q m b (o+off*u.cells) len (c-off) k n d.1 d.2
            grind⟩
          ·omega
         ·omega
        ·simp at h
       ·cases h
      ·cases h
     ·cases h
    ·cases h
   ·rename_i V e Q
    split at h
    ·rename_i l m
     have m:=W e l m
     have G:P.underlying t=some (.array V e):=by have:=M.kind;rw[Q] at this;exact this
     simp only[ag] at h
     split at h
     ·rename_i g off
      split at h
      ·rename_i u xs E
       have q:=bj E
       split at h
       ·rename_i f
        obtain⟨f,J⟩:=f
        subst J
        unfold same al at h
        split at h
        ·rename_i R
         simp only[ac] at h
         split at h
         ·rename_i d
          simp only[ac] at h
          obtain⟨N,b,o,c,j,z,rfl⟩:=A
          have C:=dD q j
          subst C
          exact⟨_,.pointer (some ⟨b,o+n.toNat*l.size,none⟩),h,⟨_,b,o,c,j,z,by simp;omega,by simp[f]⟩,by
           simp[indexAt,asIntOf,aE,bi G,d.1,d.2,run_sizeOf m,addr_add,sureAddr]⟩
         ·simp at h
        ·simp at h
       ·split at h
        ·rename_i b2 Y
         split at h
         ·rename_i f
          obtain⟨f,J⟩:=f
          subst J
          obtain⟨a9,a8⟩:=MN Y
          unfold same al at h
          split at h
          ·rename_i R
           simp only[ac] at h
           split at h
           ·rename_i d
            simp only[ac] at h
            obtain⟨N,b,o,c,j,z,rfl⟩:=A
            have C:=dD q j
            subst C
            exact⟨_,.pointer (some ⟨b,o+n.toNat*l.size,none⟩),h,⟨_,b,o,c,j,z,by
             simp_all,by grind⟩,by
             simp[indexAt,asIntOf,aE,bi G,d.1,d.2,run_sizeOf m,addr_add,sureAddr]⟩
           ·simp at h
          ·simp at h
         ·cases h
        ·cases h
      ·rename_i cs E
       have q:=bj E
       split at h
       ·rename_i f
        obtain⟨b5,b6⟩:=f
        unfold al at h
        split at h
        ·rename_i d
         simp only[ac] at h
         obtain⟨N,b,o,c,j,z,rfl⟩:=A
         have U:=bR (ι:=ι) q
         rw[j] at U
         have U:=ga U
         subst U
         exact⟨_,.pointer (some ⟨b,o+off+n.toNat*l.size,none⟩),h,⟨_,b,o,c,j,z,by grind [Row.len],by grind [Row.cells]⟩,by
          simp[indexAt,asIntOf,aE,bi G,d.1,d.2,run_sizeOf m,addr_add,sureAddr]⟩
        ·simp at h
       ·cases h
      ·cases h
     ·rename_i g a2 off
      split at h
      ·rename_i u xs E
       have q:=bj E
       split at h
       ·rename_i f
        obtain⟨f,J⟩:=f
        subst J
        cases X:ble (a2+V) xs.length with
        |false=>rw[X] at h;cases h
        |true=>
         rw[X] at h
         simp only[sure,au,ac] at h
         unfold al at h
         split at h
         ·rename_i d
          simp only[ac] at h
          obtain⟨N,b,o,c,j,z,F,rfl⟩:=A
          have C:=dD q j
          subst C
          have a1:=jd X
          exact⟨_,.pointer (some ⟨b,o+a2*u.cells+n.toNat*l.size,none⟩),h,⟨_,b,o,c,j,z,by grind,by grind⟩,by
           simp[indexAt,asIntOf,aE,bi G,d.1,d.2,run_sizeOf m,addr_add,sureAddr]⟩
         ·simp at h
       ·cases h
      ·cases h
     ·rename_i u xs
      split at h
      ·rename_i f
       unfold same idx at h
       split at h
       ·rename_i R
        simp only[ac] at h
        split at h
        ·rename_i d
         cases Z:xs[n.toNat]? with
         |none=>simp_all
         |some y=>
          rw[Z] at h
          simp only[ac] at h
          obtain⟨b,o,rfl,L,F,O⟩:=A
          obtain⟨cs,hd,b8⟩:=O n.toNat y Z
          have b1:n.toNat<xs.length:=(aO.1 Z).1
          have b0:(n:Int)<(V:Int):=(Int.toNat_lt (show(0:Int)<=n from d)).1 (R▸b1)
          exact⟨_,.pointer (some ⟨b,o+n.toNat*l.size,none⟩),h,⟨b,o+n.toNat*l.size,cs,by simp,L,F,hd,by simp_all⟩,by
           simp[indexAt,asIntOf,aE,bi G,d,b0,run_sizeOf m,addr_add,sureAddr]⟩
        ·simp at h
       ·simp at h
      ·split at h
       ·rename_i b2 Y
        split at h
        ·rename_i f
         obtain⟨a9,a8⟩:=MN Y
         unfold same al at h
         split at h
         ·rename_i R
          simp only[ac] at h
          split at h
          ·rename_i d
           simp only[ac] at h
           obtain⟨b,o,rfl,L,F,O⟩:=A
           refine⟨_,.pointer (some ⟨b,o+n.toNat*l.size,none⟩),h,⟨b,o+n.toNat*l.size,rfl,L,F,fun i x A=> ?_⟩,by
            simp[indexAt,asIntOf,aE,bi G,d.1,d.2,run_sizeOf m,addr_add,sureAddr]⟩
           grind
          ·simp at h
         ·simp at h
        ·cases h
       ·cases h
     ·cases h
    ·cases h
   ·cases h
  ·cases h
 ·cases h
theorem MO (k:Inv B s tmps w ι) {x:AV} {n:Nat} (h:gJ s x=some n) {vx:Value} (d:ah w (dst B.D w ι s.heap) (sumOf ι s.heap) x vx):
  (∃b,x= .aa .str b/\vx= .string b/\n=b.size)\/((∀b,x≠ .aa .str b)/\ ∃a c,vx= .slice a n c):=by
 unfold gJ at h
 split at h
 ·obtain⟨a,cap,e,_⟩:=d
  simp_all
 ·grind [oT]
 ·obtain⟨a,rfl⟩:=d
  simp_all
 ·split at h
  ·rename_i u xs g
   obtain⟨j,f,i⟩:=d
   have m:=dD (bj g) f
   grind [br,Row.len]
  ·cases h
 ·obtain⟨j,f,l,i⟩:=d
  grind [br]
 ·cases h
end
end Go.Rv
namespace Go.Rv
section
variable {P : Program} {T : TT} {B : cl} {s : St} {tmps : Array Value} {w : World} {ι : ba}
theorem run_sliceBound {i:Int} {y:Nat} {k:IntKind} {c:BoundsCode} {n:Nat} (h:inc i y=some n) {a:Nat} (e:y<=a):
  n<=y/\(Instr.sliceBound (.int k i) a c).run P w= .ok n w:=by
 unfold inc at h
 split at h
 ·rename_i d
  simp at h
  subst h
  have b:i<=(a:Int):=by omega
  simp_all [Instr.sliceBound,asIntOf]
 ·cases h
theorem oV {S:Nat->Prop} {σ:Nat->Option Sum} {β:Type} {lo hi:Option AV} {L:Nat} {k:Nat->Nat->Option β} {r:β} (h:fA (ag β) lo hi L k=some r)
  {q p:Option Value} (y: ∀a,lo=some a-> ∃v,q=some v/\ah w S σ a v) (t: ∀a,hi=some a-> ∃v,p=some v/\ah w S σ a v)
  (A:lo=none->q=none) (z:hi=none->p=none):
  ∃f m,k f m=some r/\f<=m/\m<=L/\ ∀cap b,L<=cap->(sliceBounds b L cap q p none).run P w= .ok (f,m,cap) w:=by
 unfold fA at h
 split at h
 ·rw[A rfl,z rfl]
  exact⟨0,L,h,by omega,aS _,fun cap b g=>by simp[sliceBounds]⟩
 ·rename_i j n
  obtain⟨v,rfl,o⟩:=t _ rfl
  have e:=dC o
  subst e
  rw[A rfl]
  simp only[ag] at h
  cases d:inc n L with
  |none=>grind
  |some m=>
   simp only[d,ac] at h
   exact⟨0,m,h,by omega,(run_sliceBound (P:=P) (w:=w) (k:=j) (c:= .index) d (aS _)).1,fun cap b g=>by
    have:=(run_sliceBound (P:=P) (w:=w) (k:=j) (c:=if b then .sliceAcap else .sliceAlen) d g).2
    simp[sliceBounds,aE,this]⟩
 ·rename_i j n
  obtain⟨v,rfl,o⟩:=y _ rfl
  have e:=dC o
  subst e
  rw[z rfl]
  simp only[ag] at h
  cases d:inc n L with
  |none=>grind
  |some f=>
   simp only[d,ac] at h
   have i:=run_sliceBound (P:=P) (w:=w) (k:=j) (c:= .sliceB) d (aS _)
   exact⟨f,L,h,i.1,aS _,fun cap b g=>by simp[sliceBounds,aE,i.2]⟩
 ·rename_i k1 l k2 n
  obtain⟨v1,rfl,C⟩:=y _ rfl
  obtain⟨v2,rfl,D⟩:=t _ rfl
  have e:=dC C
  subst e
  have e:=dC D
  subst e
  simp only[ag] at h
  cases d:inc n L with
  |none=>grind
  |some m=>
   simp only[d,ac] at h
   cases x:inc l m with
   |none=>grind
   |some f=>
    simp only[x,ac] at h
    have i:=run_sliceBound (P:=P) (w:=w) (k:=k1) (c:= .sliceB) x (aS _)
    exact⟨f,m,h,i.1,(run_sliceBound (P:=P) (w:=w) (k:=k2) (c:= .index) d (aS _)).1,fun cap b g=>by
     have:=(run_sliceBound (P:=P) (w:=w) (k:=k2) (c:=if b then .sliceAcap else .sliceAlen) d g).2
     simp_all [sliceBounds,aE]⟩
 ·cases h
theorem qX {t e:TypeId} {d c:TI} (k:ix P t d) (j:d.kind= .slice e) (i:ix P e c) {a:Option Addr} {len cap b m:Nat} {g f:Option Value}
  (h:(sliceBounds true len cap g f none).run P w= .ok (b,m,cap) w):
  (sliceAt t (.slice a len cap) g f none).run P w= .ok (.slice (if cap=b then a else a.map (·.add (b*c.size))) (m-b) (cap-b)) w:=by
 have l:P.underlying t=some (.slice e):=by have:=k.kind;rw[j] at this;exact this
 simp[sliceAt,Instr.slice,aE,bi l,h,run_sizeOf i]
theorem ab3 {t:TypeId} {c:TI} (h:ix P t c) (g:c.kind= .str) {b:ByteArray} {a m:Nat} {e d:Option Value}
  (f:(sliceBounds false b.size b.size e d none).run P w= .ok (a,m,b.size) w):
  (sliceAt t (.string b) e d none).run P w= .ok (.string (b.extract a m)) w:=by
 have i:P.underlying t=some .string:=by have:=h.kind;rw[g] at this;exact this
 simp[sliceAt,Instr.slice,aE,bi i,f]
theorem br.cut {d:Sum} {off len:Nat} {v:Value} (h:br d off len v) {i m:Nat} (l:i<=m) (p:m<=len):
  ∃a cap,v= .slice a len cap/\len<=cap/\br d (off+i) (m-i) (.slice (if cap=i then a else a.map (·.add (i*d.cells))) (m-i) (cap-i)):=by
 unfold br at h⊢
 split at h
 ·rename_i b o c q
  obtain⟨n,h⟩:=h
  rcases h with rfl|⟨j,a,rfl⟩
  ·refine⟨_,_,rfl,by omega,by omega,?_⟩
   split
   ·rename_i k
    right
    exact⟨by omega,_,by congr 1<;>omega⟩
   grind [Nat.add_mul,Nat.add_assoc,addr_add]
  ·have e:len=0:=by omega
   have f:i=0:=by omega
   have g:m=0:=by omega
   subst e f g
   grind
 simp_all
theorem ab4 (N:bS P T) (b0:Inv B s tmps w ι) {β:Type} {t:TypeId} {x:AV} {lo hi:Option AV} {K:AV->Option β} {r:β} (h:ff (ag β) T s t x lo hi K=some r) {vx:Value}
  (I:ah w (dst B.D w ι s.heap) (sumOf ι s.heap) x vx) {Y X:Option Value}
  (E: ∀a,lo=some a-> ∃v,Y=some v/\ah w (dst B.D w ι s.heap) (sumOf ι s.heap) a v) (A: ∀a,hi=some a-> ∃v,X=some v/\ah w (dst B.D w ι s.heap) (sumOf ι s.heap) a v)
  (L:lo=none->Y=none) (J:hi=none->X=none):
  ∃a v,K a=some r/\ah w (dst B.D w ι s.heap) (sumOf ι s.heap) a v/\(sliceAt t vx Y X none).run P w= .ok v w:=by
 unfold ff at h
 split at h
 ·rename_i a9 l
  have l:=N t a9 l
  split at h
  ·rename_i e C
   split at h
   ·rename_i q k
    have k:=N e q k
    split at h
    ·rename_i u xs
     split at h
     ·rename_i Q
      obtain⟨d,m,f,n,p,j⟩:=oV (P:=P) (w:=w) h E A L J
      obtain⟨a,cap,Z,z,G⟩:=I
      simp at Z
      subst Z
      refine⟨_,_,f,?_,qX l C k (j cap true z)⟩
      have R:((xs.take m).drop d).length=m-d:=by simp;omega
      refine⟨if cap=d then a else a.map (·.add (d*q.size)),cap-d,by rw[R],by omega,?_⟩
      by_cases a5:d=m
      ·simp_all
      ·right
       rcases G with rfl|⟨b,o,rfl,M,O,a2⟩
       ·simp_all
       ·have a3:cap≠d:=by omega
        refine⟨b,o+d*u.cells,by grind [addr_add],M,O,fun i y a8=> ?_⟩
        grind
     ·cases h
    ·rename_i g
     split at h
     ·rename_i u xs V
      have G:=bj V
      split at h
      ·rename_i Q
       obtain⟨d,m,f,n,p,j⟩:=oV (P:=P) (w:=w) h E A L J
       obtain⟨sm,F,W⟩:=I
       have U:=dD G F
       subst U
       obtain⟨a,cap,rfl,z,a7⟩:=W.cut n p
       refine⟨_,_,f,?_,qX l C k (j cap true z)⟩
       exact⟨_,F,by simp;omega,by simp_all⟩
      ·cases h
     ·cases h
    ·rename_i g off len
     split at h
     ·rename_i u xs V
      have G:=bj V
      split at h
      ·rename_i Q
       obtain⟨d,m,f,n,p,j⟩:=oV (P:=P) (w:=w) h E A L J
       obtain⟨sm,F,a1,W⟩:=I
       have U:=dD G F
       subst U
       obtain⟨a,cap,rfl,z,a7⟩:=W.cut n p
       refine⟨_,_,f,?_,qX l C k (j cap true z)⟩
       exact⟨_,F,by omega,by simp_all⟩
      ·cases h
     ·cases h
    ·cases h
   ·cases h
  ·rename_i a4
   split at h
   ·rename_i b
    obtain⟨d,m,f,n,p,j⟩:=oV (P:=P) (w:=w) h E A L J
    have e:=oT I
    subst e
    exact⟨_,_,f,Cl _,ab3 l a4 (j b.size false (aS _))⟩
   ·cases h
  ·rename_i c e C
   split at h
   ·rename_i q k
    have k:=N e q k
    split at h
    ·rename_i u xs
     split at h
     ·rename_i Q
      simp only[ag,same] at h
      split at h
      ·rename_i R
       simp only[ac] at h
       obtain⟨d,m,f,n,p,j⟩:=oV (P:=P) (w:=w) h E A L J
       obtain⟨b,o,rfl,M,O,a2⟩:=I
       have a6:P.underlying t=some (.array c e):=by have:=l.kind;rw[C] at this;exact this
       have a0:=j c false (by omega)
       rw[R] at a0
       refine⟨_,.slice (some (if c=d then⟨b,o,none⟩ else(⟨b,o,none⟩:Addr).add (d*q.size))) (m-d) (c-d),f,?_,?_⟩
       ·have a1:((xs.take m).drop d).length=m-d:=by simp;omega
        refine⟨some (if c=d then⟨b,o,none⟩ else(⟨b,o,none⟩:Addr).add (d*q.size)),c-d,by rw[a1],by omega,?_⟩
        by_cases a5:d=m
        ·simp_all
        ·right
         have a3:c≠d:=by omega
         refine⟨b,o+d*u.cells,by grind [addr_add],M,O,fun i y a8=> ?_⟩
         grind
       ·simp[sliceAt,aE,bi a6,sureAddr,a0,run_sizeOf k]
      ·cases h
     ·cases h
    ·cases h
   ·cases h
  ·cases h
 ·cases h
end
end Go.Rv
namespace Go.Rv
theorem jr {a:Type} (l:List a) (n:Nat) (vs:List a) (h:n+vs.length<=l.length) (m:Nat):
  (l.take n++vs++l.drop (n+vs.length))[m]? =if n<=m/\m<n+vs.length then vs[m-n]? else l[m]? :=by
 grind [List.take,List.append_assoc,List.getElem?_append_left,List.length,List.getElem?_append_right,List.length_append]
theorem nd {v:Value} (h:v.oneCell'=true):v.cells= #[v]:=by
 cases v<;>simp_all [oneCell',Value.cells]
section
variable {P : Program} {T : TT} {B : cl} {s : St} {tmps : Array Value} {w : World} {ι : ba}
theorem vl {S:Nat->Prop} {σ:Nat->Option Sum} {a:AV} {v:Value} (h:a.single=true) (d:ah w S σ a v):v.oneCell'=true:=by
 cases a with
 |undef=>simp[AV.single] at h
 |aa t x=>exact ay.one t x [v] d v (by simp)
 |aI=>obtain⟨a,rfl⟩:=d;rfl
 |ab g=>
  obtain⟨k,_,j⟩:=d
  unfold br at j
  split at j
  ·obtain⟨_,rfl|⟨_,a,rfl⟩⟩:=j<;>rfl
  ·obtain⟨_,_,a,rfl⟩:=j;rfl
 |win g o l=>
  obtain⟨k,_,_,j⟩:=d
  unfold br at j
  split at j
  ·obtain⟨_,rfl|⟨_,a,rfl⟩⟩:=j<;>rfl
  ·obtain⟨_,_,a,rfl⟩:=j;rfl
 |ptr g o=>obtain⟨_,_,_,_,_,_,rfl⟩:=d;rfl
 |bW g i o=>obtain⟨_,_,_,_,_,_,_,rfl⟩:=d;rfl
 |gb t x o=>obtain⟨_,_,_,rfl,_⟩:=d;rfl
 |tab t x=>obtain⟨_,_,rfl,_⟩:=d;rfl
 |agg cs=>simp[AV.single] at h
 |aW cs=>simp[AV.single] at h
 |fn f a b=>obtain⟨_,_,rfl,_⟩:=d;rfl
 |raw u=>
  have e:v=u:=d
  subst e
  simp only[AV.single] at h
  split at h<;>first|rfl|cases h
 |gw m=>simp[AV.single] at h
 |el c=>obtain⟨_,_,_,rfl,_⟩:=d;rfl
theorem oW {S:Nat->Prop} {σ:Nat->Option Sum}: ∀{cs:List AV} {vs:List Value},aC w S σ cs vs->cs.all AV.single=true-> ∀v∈vs,v.oneCell'=true
 |[],vs,h,_,v,b=>by grind [aC]
 |a::r,_,⟨u,g,e,d,f⟩,c,v,b=>by
  subst e
  simp only[mO,aT] at c
  rcases ej.1 b with rfl|b
  ·exact vl c.1 d
  ·exact oW f c.2 v b
theorem MP (c:Inv B s tmps w ι) {a:AV} {v:Value} (e:ah w (dst B.D w ι s.heap) (sumOf ι s.heap) a v): ∀g,a.refs g=true-> ∃b,s.heap[g]? =some (some b):=
 fun g d=>by grind [ah.cu,dA]
theorem MQ (c:Inv B s tmps w ι) {a:List AV} {v:List Value} (e:aC w (dst B.D w ι s.heap) (sumOf ι s.heap) a v): ∀g,cf a g=true-> ∃b,s.heap[g]? =some (some b):=
 fun g d=>by grind [aC.cu,dA]
theorem oX {t:TypeId} {c:TI} (h:ix P t c) {v:Value} {b o:Nat} {a:Array Value} {e:TypeId} (f:w.heap[b]? =some (.cells a e (0,0)))
  (g:v.cells.size=c.size) (i:o+v.cells.size<=a.size) (d: ∀x∈v.cells.toList,x.oneCell'=true):
  (storeVar t ⟨b,o,none⟩ v).run P w= .ok () (w.setRow b (a.toList.take o++v.cells.toList++a.toList.drop (o+v.cells.toList.length)).toArray):=by
 have:=run_storeCells_at P b o e v.cells.toList 0 a w f (by omega) d
 simp only[gY] at this
 simp[storeVar,aE,run_sizeOf h,g,this]
theorem MR {b:Type} (m:Nat) (x:b): ∀(l:List b) (j k:Nat),(putAt m x j l)[k]? =if m=j+k/\k<l.length then some x else l[k]?
 |[],_,_=>by simp[putAt]
 |a::r,j,k=>by
  unfold putAt
  cases k with
  |zero=>
   grind
  |succ k=>
   rw[mP,MR m x r (j+1) k,mP]
   grind
theorem qY {b:Type} (m:Nat) (x:b): ∀(l:List b) (j:Nat),(putAt m x j l).length=l.length
 |[],_=>rfl
 |a::r,j=>by unfold putAt;simp[qY m x r (j+1)]
theorem ab5 (u:Ty) (x:u.den) (i off:Nat) (cs:List AV) (h:off<=cs.length):(oI u x i off cs).length=cs.length:=by
 grind [vj,List.drop,oI,List.length_append,List.length_take,List.length_map,qY,List.length_drop]
theorem ab6 {u:Ty} {x:u.den} {i off:Nat} {cs:List AV} (h:i<(dP u (cs.drop off)).length) {j:Nat} {a:AV} (c:(oI u x i off cs)[j]? =some a):
  (j=off+i/\a= .aa u x)\/(j≠off+i/\ ∃b,cs[j]? =some b/\(a=b\/ ∃y,eP u b=some y/\a= .aa u y)):=by
 have d:=vj u (cs.drop off)
 rw[oz] at d
 have g:off<=cs.length:=by omega
 unfold oI at c
 by_cases e:j<off
 ·grind
 ·by_cases f:j<off+(dP u (cs.drop off)).length
  ·rw[mQ (by simp[qY];omega),lh (by simp;omega)] at c
   grind [List.length_take,Nat.min_eq_left,MR,dP,List.drop,qV]
  ·rw[lh (by simp[qY];omega)] at c
   grind [List.length_append,List.length_take,Nat.min_eq_left,List.length_map,qY,dP,List.drop]
theorem Cm (c2:bS P T) (F:Inv B s tmps w ι) {β:Type} {t:TypeId} {p v:AV} {K:St->Option β} {r:β} (h:fi (ag β) T s t p v K=some r) {c1 k:Value}
  (a1:ah w (dst B.D w ι s.heap) (sumOf ι s.heap) p c1) (N:ah w (dst B.D w ι s.heap) (sumOf ι s.heap) v k):
  ∃s' w' ι',K s'=some r/\Inv B s' tmps w' ι'/\(storeAt t c1 k).run P w= .ok () w':=by
 unfold fi at h
 split at h
 ·cases h
 ·rename_i d9 W
  have W:=c2 t d9 W
  split at h
  ·split at h
   ·rename_i g off new
    split at h
    ·rename_i cs L
     have q:=bj L
     split at h
     ·rename_i Y
      obtain⟨e3,e2,c3,c4⟩:=Y
      obtain⟨a6,b,o,c,J,n,rfl⟩:=a1
      have C:=bR (ι:=ι) q
      rw[J] at C
      have C:=ga C
      subst C
      obtain⟨b5,c0,b6,f,e,U,l,R⟩:=F.am.rows g _ q
      simp only at n
      rw[n] at U
      cases U
      obtain⟨vs,rfl,X⟩:=N
      have d7:=X.length
      have a8:(Value.agg vs.toArray).cells.toList=vs:=rfl
      have d5:(Value.agg vs.toArray).cells.size=vs.length:=by grind
      have c5: ∀j,j<cs.length->o+j<f.size:=fun j A=>by
       obtain⟨u,d6,_⟩:=R j cs[j] (by simp[A])
       grind
      have a4:o+off+vs.length<=f.size:=by
       have:=c5 (off+vs.length-1) (by omega);omega
      have I:=oW X c4
      have M:=oX (v:= .agg vs.toArray) (o:=o+off) W l (by omega) (by omega) (by simp_all)
      rw[a8] at M
      have b0:=MQ F X
      refine⟨_,_,_,h,F.write q (.box (overwrite cs off new)) rfl rfl (by simp[Row.len,overwrite];omega) n l (f.toList.take (o+off)++vs++f.toList.drop (o+off+vs.length)).toArray ?_,?_⟩
      ·intro E
       refine⟨b,o,c,_,e,rfl,je w b f _ e _ l,fun j a A=> ?_⟩
       have b1: ∀m,(f.toList.take (o+off)++vs++f.toList.drop (o+off+vs.length)).toArray[m]? =if o+off<=m/\m<o+off+vs.length then vs[m-(o+off)]? else f[m]? :=by
        grind [jr]
       unfold overwrite at A
       rw[jr cs off new c3 j] at A
       split at A
       ·rename_i d1
        obtain⟨z,Q,V⟩:=X.get _ _ _ a A
        refine⟨z,by grind,I z (jf Q),E.av (fun x G=>b0 x (nb A G)) V⟩
       ·rename_i d1
        obtain⟨z,Q,a3,V⟩:=R j a A
        refine⟨z,by grind,a3,E.av (fun x G=> ?_) V⟩
        grind [ah.cu,dA]
      grind [storeAt,sureAddr,Sem.run_bind]
     ·cases h
    ·rename_i u xs L
     have q:=bj L
     split at h
     ·rename_i Y
      obtain⟨a5,a7,e7,e8⟩:=Y
      subst a7
      simp only[ag,same] at h
      split at h
      ·rename_i e5
       simp only[ac] at h
       obtain⟨a6,b,o,c,J,n,rfl⟩:=a1
       have b3:=dD q J
       subst b3
       simp only at n
       have a2:=F.am.rows g _ q
       rw[n] at a2
       obtain⟨f,e,l,b7,d8,a9,b9⟩:=a2
       obtain⟨vs,rfl,X⟩:=N
       have d7:=X.length
       have a8:(Value.agg vs.toArray).cells.toList=vs:=rfl
       have d5:(Value.agg vs.toArray).cells.size=vs.length:=by grind
       rw[a5] at b7
       have a4:o+vs.length<=f.size:=by omega
       have b8: ∀(i:Nat) x,(dP u new)[i]? =some x-> ∃z,vs[i]? =some z/\ay w (dst B.D w ι s.heap) u x [z]:=fun i x G=>by
        grind [qV,aC.get,iy]
       have I: ∀v∈vs,v.oneCell'=true:=fun v N=>by
        obtain⟨i,hi,rfl⟩:=oA.mp N
        have c9:i<(dP u new).length:=by omega
        obtain⟨z,Q,hd⟩:=b8 i _ (bh c9)
        grind [List.getElem?_eq_getElem,ay.one]
       have M:=oX (v:= .agg vs.toArray) (o:=o+0) W l (by omega) (by omega) (by simp_all)
       rw[a8] at M
       refine⟨_,_,_,h,F.write q (.seq u (dP u new)) rfl rfl (by grind [Row.len]) n l (f.toList.take (o+0)++vs++f.toList.drop (o+0+vs.length)).toArray ?_,?_⟩
       ·intro E
        refine⟨_,e,je w b f _ e _ l,?_,by omega,a9,fun i x G=> ?_⟩
        ·grind
        ·obtain⟨z,Q,hd⟩:=b8 i x G
         have e4:i<vs.length:=(aO.1 Q).1
         refine⟨[z],E.aa hd,fun j y O=> ?_⟩
         grind
       grind [storeAt,sureAddr,Sem.run_bind]
      ·cases h
     ·cases h
    ·cases h
   ·cases h
  ·split at h
   ·rename_i e9 f0
    split at h
    ·rename_i g i off
     split at h
     ·rename_i u xs L
      have q:=bj L
      split at h
      ·rename_i x G
       split at h
       ·rename_i a5
        obtain⟨a5,a7⟩:=a5
        subst a7
        obtain⟨a6,b,o,c,J,n,d3,rfl⟩:=a1
        have b3:=dD q J
        subst b3
        simp only at n d3
        have a2:=F.am.rows g _ q
        rw[n] at a2
        obtain⟨f,e,l,b7,d8,a9,b9⟩:=a2
        have hd:=iy G N
        have I:=ay.one u x [k] hd k (by simp)
        have Z:=nd I
        have a4:o+i*u.cells+1<=f.size:=by grind
        have M:=oX (v:=k) (o:=o+i*u.cells+0) W l (by simp_all) (by simp_all) (by simp_all)
        rw[Z] at M
        refine⟨_,_,_,h,F.write q (.seq u (xs.set i x)) rfl rfl (by simp[Row.len]) n l (f.toList.take (o+i*u.cells)++ [k]++f.toList.drop (o+i*u.cells+1)).toArray ?_,?_⟩
        ·intro E
         refine⟨_,e,je w b f _ e _ l,?_,by grind,a9,?_⟩
         ·simp;omega
         ·intro j y O
          rw[ox] at O
          have b1: ∀m,(f.toList.take (o+i*u.cells)++ [k]++f.toList.drop (o+i*u.cells+1)).toArray[m]? =if m=o+i*u.cells then some k else f[m]? :=by
           intro m
           have:=jr f.toList (o+i*u.cells) [k] (by omega) m
           simp only[List.length_singleton] at this
           grind
          split at O
          ·rename_i a0
           subst a0
           have O:=ga O
           subst O
           refine⟨[k],E.aa hd,fun m z Q=> ?_⟩
           grind
          ·rename_i a0
           obtain⟨cs,c6,e1⟩:=b9 j y O
           refine⟨cs,E.aa c6,fun m z Q=> ?_⟩
           grind [ay.length,List.getElem?_eq_some_iff]
        grind [Row.cells,storeAt,sureAddr,Sem.run_bind]
       ·cases h
      ·cases h
     ·rename_i cs L
      have q:=bj L
      split at h
      ·rename_i u d6
       split at h
       ·rename_i x G
        simp only[ag,within] at h
        split at h
        ·rename_i d0
         simp only[ac] at h
         obtain⟨a6,b,o,c,J,n,_,rfl⟩:=a1
         have C:=bR (ι:=ι) q
         rw[J] at C
         have C:=ga C
         subst C
         obtain⟨b5,c0,b6,f,e,U,l,R⟩:=F.am.rows g _ q
         simp only at n
         rw[n] at U
         cases U
         have d2:=vj u (cs.drop off)
         rw[oz] at d2
         have b2:off+i<cs.length:=by omega
         have hd:=iy G N
         have I:=ay.one u x [k] hd k (by simp)
         have Z:=nd I
         obtain⟨e0,b4,_⟩:=R (off+i) cs[off+i] (by simp[b2])
         have a4:o+(off+i)+1<=f.size:=(jg.1 b4).1
         have M:=oX (v:=k) (o:=o+(off+i)) W l (by simp_all) (by simp_all) (by simp_all)
         rw[Z] at M
         refine⟨_,_,_,h,F.write q (.box (oI u x i off cs)) rfl rfl (by grind [Row.len,ab5]) n l (f.toList.take (o+(off+i))++ [k]++f.toList.drop (o+(off+i)+1)).toArray ?_,?_⟩
         ·intro E
          refine⟨b,o,c,_,e,rfl,je w b f _ e _ l,fun j a A=> ?_⟩
          have b1: ∀m,(f.toList.take (o+(off+i))++ [k]++f.toList.drop (o+(off+i)+1)).toArray[m]? =if m=o+(off+i) then some k else f[m]? :=by
           intro m
           have:=jr f.toList (o+(off+i)) [k] (by omega) m
           grind [List.length_singleton]
          rcases ab6 d0 A with⟨rfl,rfl⟩|⟨e6,d,c7,c8⟩
          ·exact⟨k,by grind,I,E.aa hd⟩
          ·obtain⟨z,Q,a3,V⟩:=R j d c7
           refine⟨z,by simp_all,a3,?_⟩
           rcases c8 with rfl|⟨y,O,rfl⟩
           ·refine E.av (fun x G=> ?_) V
            grind [ah.cu,dA]
           ·exact E.aa (iy O V)
         grind [Row.cells,storeAt,sureAddr,Sem.run_bind]
        ·simp at h
       ·cases h
      ·cases h
     ·cases h
    ·rename_i g off
     split at h
     ·rename_i cs L
      have q:=bj L
      split at h
      ·rename_i Y
       obtain⟨d4,b2⟩:=Y
       obtain⟨a6,b,o,c,J,n,rfl⟩:=a1
       have C:=bR (ι:=ι) q
       rw[J] at C
       have C:=ga C
       subst C
       obtain⟨b5,c0,b6,f,e,U,l,R⟩:=F.am.rows g _ q
       simp only at n
       rw[n] at U
       cases U
       have I:=vl d4 N
       have Z:=nd I
       obtain⟨e0,b4,_⟩:=R off cs[off] (by simp[b2])
       have a4:o+off+1<=f.size:=(jg.1 b4).1
       have M:=oX (v:=k) (o:=o+off) W l (by simp_all) (by simp_all) (by simp_all)
       rw[Z] at M
       have b0:=MP F N
       refine⟨_,_,_,h,F.write q (.box (cs.set off v)) rfl rfl (by simp[Row.len]) n l (f.toList.take (o+off)++ [k]++f.toList.drop (o+off+1)).toArray ?_,?_⟩
       ·intro E
        refine⟨b,o,c,_,e,rfl,je w b f _ e _ l,fun j a A=> ?_⟩
        have b1: ∀m,(f.toList.take (o+off)++ [k]++f.toList.drop (o+off+1)).toArray[m]? =if m=o+off then some k else f[m]? :=by
         grind [jr,List.length_singleton]
        rw[ox] at A
        split at A
        ·rename_i a0
         subst a0
         simp at A
         subst A
         exact⟨k,by grind,I,E.av b0 N⟩
        ·rename_i a0
         obtain⟨z,Q,a3,V⟩:=R j a A
         refine⟨z,by grind,a3,E.av (fun x G=> ?_) V⟩
         grind [ah.cu,dA]
       grind [storeAt,sureAddr,Sem.run_bind]
      ·cases h
     ·cases h
    ·cases h
   ·cases h
end
end Go.Rv
namespace Go.Rv
section
variable {P : Program} {T : TT} {B : cl} {s : St} {tmps : Array Value} {w : World} {ι : ba}
theorem dR {β:Type} {base:Nat} {r:Row} {K:St->Option β} {x:β} (h:cP (ag β) s base r K=some x):s.heap[base]? =some none/\K (s.setRow base r)=some x:=by
 unfold cP at h
 split at h
 ·simp_all
 ·cases h
theorem oY {t:TypeId} {a:TI} (h:elemOf T t=some a): ∃b e,T t=some b/\b.kind= .slice e/\T e=some a:=by
 grind [elemOf]
theorem Inv.Cn (h:Inv B s tmps w ι) {g:Nat} (e:s.heap[g]? =some none) (u:Ty):Inv B (s.setRow g (.seq u [])) tmps w (bA ι g none):=by
 have i:g<s.heap.length:=(aO.1 e).1
 refine h.qT (s':=s.setRow g (.seq u [])) (g:=g) (r:= .seq u []) (p:=none) (fun x=> ∃l,s.heap[x]? =some (some l)) (by simp[St.setRow,i]) rfl ?_ ?_ (Kept.refl _ _) (fun _ _ _ _=>rfl) ?_ ?_ (fun x c=>c) (fun _=>rfl) ?_ ?_ (fun k b=>by cases b)
 ·intro h' d j a
  simp only[St.setRow] at a
  rw[hA (fZ j)] at a
  exact⟨d,a,.rfl,rfl,rfl,fun _ _ _ _ f=>f,fun x c=>by
   obtain⟨k,b⟩:=(h.am.rows h' d a).cu x c
   exact dA b⟩
 all_goals grind [St.setRow,List.getElem?_set_ne,Inv.env,ah.cu,dA,Inv.io]
theorem Inv.nf (h:Inv B s tmps w ι) {g:Nat} (b:s.heap[g]? =some none) (u:Ty) (xs:List u.den) (a:Array Value) (e:TypeId) (c:Nat)
  (o:a.size=c*u.cells) (n:xs.length<=c) (f:c<=maxLen)
  (k:gZ w (dst B.D w ι s.heap) u xs a 0):
  Inv B (s.setRow g (.seq u xs)) tmps (w.alloc (.cells a e)) (bA ι g (some (w.heap.size,0,c)))/\
  ah (w.alloc (.cells a e)) (dst B.D (w.alloc (.cells a e)) (bA ι g (some (w.heap.size,0,c))) (s.setRow g (.seq u xs)).heap) (sumOf (bA ι g (some (w.heap.size,0,c))) (s.setRow g (.seq u xs)).heap)
   (.ab g) (.slice (some ⟨w.heap.size,0,none⟩) xs.length c):=by
 have j:g<s.heap.length:=(aO.1 b).1
 refine⟨h.alloc b (.seq u xs) rfl a e _ (.inr ⟨0,c,rfl⟩) fun l=>⟨a,e,qH w _,by omega,n,f,fun i x m=> ?_⟩,⟨_,iw j,?_⟩⟩
 ·obtain⟨cs,hd,d⟩:=k i x m
  exact⟨cs,l.aa hd,d⟩
 ·exact⟨by grind [Row.len],.inl (by simp[Row.len,Row.cells])⟩
theorem Inv.ab7 (h:Inv B s tmps w ι) (u:Ty) (xs:List u.den) (f:Array Value) (e:TypeId) (c:Nat) (I:xs.length<=c) (F:gZ w (dst B.D w ι s.heap) u xs f 0):
  Inv B s tmps (w.alloc (.cells f e)) ι/\
  ah (w.alloc (.cells f e)) (dst B.D (w.alloc (.cells f e)) ι s.heap) (sumOf ι s.heap) (.aa (.list u) xs) (.slice (some ⟨w.heap.size,0,none⟩) xs.length c):=by
 have l: ∀b,b<w.heap.size->(w.alloc (.cells f e)).heap[b]? =w.heap[b]? :=fun b d=>uZ w _ b d
 have L:(w.alloc (.cells f e)).heap.size=w.heap.size+1:=by simp
 have z: ∀b,aM w ι s.heap b->aM (w.alloc (.cells f e)) ι s.heap b:=fun b d=>⟨by have:=d.1;omega,d.2⟩
 have p:Trans w ι s.heap (w.alloc (.cells f e)) ι s.heap (fun _=>True):=⟨by omega,fun b d=>⟨z b d,l b d.1⟩,fun _ _=>rfl⟩
 have E:Kept (aM w ι s.heap) w (w.alloc (.cells f e)):=⟨rfl,rfl,rfl,by omega,fun b d=>l b d.1,fun a _=>BZ _ _ _ a⟩
 refine⟨⟨h.kept.trans E h.stay,⟨fun g r k=> ?_,h.am.one,h.am.has,fun g t xss m cs k=> ?_⟩,fun b d=>z b (h.stay b d),h.io,fun i a C=> ?_,p.ki h.dN⟩,?_⟩
 ·have q:=h.am.rows g r k
  refine p.row (fun _ _=>trivial) (fun b o y n=> ?_) q
  rw[n] at q
  exact l b q.lt
 ·exact p.nest (fun b o y n=>l b (aP.lt h.am (.out _ _ k n rfl))) (fun i b o y hi n=>l b (aP.lt h.am (.aw t xss m cs i _ k hi n rfl))) (h.am.nest g t xss m cs k)
 ·obtain⟨v,A,k⟩:=h.env i a C
  exact⟨v,A,p.av (fun _ _=>trivial) k⟩
 ·refine⟨some ⟨w.heap.size,0,none⟩,c,rfl,I,.inr ⟨w.heap.size,0,rfl,⟨B.new _ h.kept.size,by omega,fun g J=> ?_⟩,by omega,fun i x G=> ?_⟩⟩
  ·exact oy _ (J.lt h.am)
  ·obtain⟨cs,hd,K⟩:=F i x G
   refine⟨cs,p.aa hd,fun j v A=> ?_⟩
   simp_all
theorem Inv.Co (h:Inv B s tmps w ι) {g:Nat} (b:s.heap[g]? =some none) (cs:List AV) (vs:List Value) (e:TypeId)
  (am:aC w (dst B.D w ι s.heap) (sumOf ι s.heap) cs vs) (d: ∀v∈vs,v.oneCell'=true):
  Inv B (s.setRow g (.box cs)) tmps (w.alloc (.cells vs.toArray e)) (bA ι g (some (w.heap.size,0,0)))/\
  ah (w.alloc (.cells vs.toArray e)) (dst B.D (w.alloc (.cells vs.toArray e)) (bA ι g (some (w.heap.size,0,0))) (s.setRow g (.box cs)).heap) (sumOf (bA ι g (some (w.heap.size,0,0))) (s.setRow g (.box cs)).heap)
   (.ptr g 0) (.pointer (some ⟨w.heap.size,0,none⟩)):=by
 have i:g<s.heap.length:=(aO.1 b).1
 have f:=MQ h am
 refine⟨h.alloc b (.box cs) rfl vs.toArray e _ (.inr ⟨0,0,rfl⟩) fun l=>⟨_,_,_,vs.toArray,e,rfl,qH w _,fun j a c=> ?_⟩,⟨_,_,_,_,iw i,rfl,by simp⟩⟩
 obtain⟨v,m,k⟩:=am.get _ _ j a c
 exact⟨v,by grind,d v (jf m),l.av (fun x n=>f x (nb c n)) k⟩
theorem vm (e:TypeId) (a:Array Value):(newRow e a).run P w= .ok ⟨w.heap.size,0,none⟩ (w.alloc (.cells a e)):=by
 simp[newRow]
theorem MS: ∀(l:List Value) (k off:Nat) (cells:Array Value),off+k+l.length<=cells.size->
  ((l.zipIdx k).foldl (fun cs (x:Value×Nat)=>cs.setIfInBounds (off+x.2) x.1) cells).size=cells.size/\
  ∀m,((l.zipIdx k).foldl (fun cs (x:Value×Nat)=>cs.setIfInBounds (off+x.2) x.1) cells)[m]? =if off+k<=m/\m<off+k+l.length then l[m-(off+k)]? else cells[m]?
 |[],k,off,cells,_=>⟨rfl,fun m=>by simp_all [aG]⟩
 |v::r,k,off,cells,h=>by
  simp only[ck] at h
  obtain⟨a,b⟩:=MS r (k+1) off (cells.setIfInBounds (off+k) v) (by simp;omega)
  grind [List.zipIdx_cons,List.length_cons,List.length,Array.size,Array.getElem?_setIfInBounds_ne]
theorem ab8 (a:Nat) (l:List (Nat×Value)): ∀(k:Nat) (cells:Array Value),(∀j x,l[j]? =some x->x.1=k+j/\x.2.cells.size=a)->(k+l.length)*a<=cells.size->
  ∃out,fill (fun i=>some (i*a,a)) cells l=some out/\out.size=cells.size/\(∀m,m<k*a->out[m]? =cells[m]?)/\
   ∀i y,l[i]? =some y-> ∀j c,y.2.cells[j]? =some c->out[(k+i)*a+j]? =some c:=by
 induction l with
 |nil=>intro k cells _ _;exact⟨cells,rfl,rfl,fun _ _=>rfl,fun i y h=>by simp at h⟩
 |cons x r p=>
  intro k cells h g
  obtain⟨b,n⟩:=h 0 x rfl
  obtain⟨i,v⟩:=x
  simp only[gY] at b
  subst b
  simp only at n
  simp only[ck] at g
  have G:(i+(r.length+1))*a=i*a+a+r.length*a:=by grind
  have D:i*a+a<=cells.size:=by omega
  have K:v.cells.toList.length=a:=by omega
  obtain⟨d,q⟩:=MS v.cells.toList 0 (i*a) cells (by omega)
  generalize F:((v.cells.toList.zipIdx 0).foldl (fun cs (x:Value×Nat)=>cs.setIfInBounds (i*a+x.2) x.1) cells)=e at d q
  obtain⟨out,z,f,A,C⟩:=p (i+1) e (fun j y o=>by
   have:=h (j+1) y (by grind)
   omega) (by grind)
  have J:(i+1)*a=i*a+a:=by grind
  refine⟨out,?_,by rw[f,d],fun m I=> ?_,fun t y o j c E=> ?_⟩
  ·grind [fill,Array.toList_zipIdx]
  all_goals grind
theorem Cp (d:Inv B s tmps w ι) (b:List Deferred): ∀(c:List (Nat×Operand)) (l:List (Nat×AV)),gx s c=some l->
  (c.map fun(p:Nat×Operand)=>(p.1,eval ⟨tmps,b⟩ p.2)).length=l.length/\
  ∀(j:Nat) (x:Nat×AV),l[j]? =some x-> ∃v,(c.map fun(p:Nat×Operand)=>(p.1,eval ⟨tmps,b⟩ p.2))[j]? =some (x.1,v)/\ah w (dst B.D w ι s.heap) (sumOf ι s.heap) x.2 v
 |[],l,h=>by grind [gx]
 |(i,x)::r,l,h=>by
  simp only[gx] at h
  split at h
  ·rename_i a f m e
   simp at h;subst h
   obtain⟨g,k⟩:=Cp d b r f e
   grind [bc]
  ·cases h
theorem lB (c:Inv B s tmps w ι) (b:List Deferred): ∀(xs:List Operand) (l:List AV),cO s xs=some l->
  aC w (dst B.D w ι s.heap) (sumOf ι s.heap) l (xs.map (eval ⟨tmps,b⟩))
 |[],l,h=>by simp[cO] at h;subst h;rfl
 |x::r,l,h=>by
  simp only[cO] at h
  split at h
  ·rename_i a f d e
   simp at h;subst h
   exact⟨_,_,rfl,bc c d b,lB c b r f e⟩
  ·cases h
theorem vn {S:Nat->Prop} {σ:Nat->Option Sum}: ∀(t:Ty) (cs:List AV) (x:t.den) (r:List AV) (vs:List Value),ik t cs=some (x,r)->aC w S σ cs vs->
  ∃v1 v2,vs=v1++v2/\ay w S t x v1/\aC w S σ r v2
 | .unit,cs,x,r,vs,h,d=>by
  simp only[ik,eB,gI] at h
  obtain⟨_,rfl⟩:=h
  exact⟨[],vs,rfl,rfl,d⟩
 | .val,cs,x,r,vs,h,d=>by cases h
 | .err,cs,x,r,vs,h,d=>by cases h
 | .pair a b,cs,x,r,vs,h,d=>by
  simp only[ik] at h
  split at h
  ·rename_i y l e
   split at h
   ·rename_i z A f
    simp only[eB,gI] at h
    obtain⟨rfl,rfl⟩:=h
    obtain⟨v1,v2,rfl,n,p⟩:=vn a cs y l vs e d
    obtain⟨m,C,rfl,o,q⟩:=vn b l z A v2 f p
    exact⟨v1++m,C,by simp,⟨v1,m,rfl,n,o⟩,q⟩
   ·cases h
  ·cases h
 | .int k,cs,x,r,vs,h,d=>by
  simp only[ik] at h
  cases cs with
  |nil=>cases h
  |cons c j=>
   simp only at h
   split at h
   ·rename_i y g
    simp only[eB,gI] at h
    obtain⟨rfl,rfl⟩:=h
    obtain⟨v,i,rfl,e,f⟩:=d
    exact⟨[v],i,rfl,iy g e,f⟩
   ·cases h
 | .bool,cs,x,r,vs,h,d=>by
  simp only[ik] at h
  cases cs with
  |nil=>cases h
  |cons c j=>
   simp only at h
   split at h
   ·rename_i y g
    simp only[eB,gI] at h
    obtain⟨rfl,rfl⟩:=h
    obtain⟨v,i,rfl,e,f⟩:=d
    exact⟨[v],i,rfl,iy g e,f⟩
   ·cases h
 | .str,cs,x,r,vs,h,d=>by
  simp only[ik] at h
  cases cs with
  |nil=>cases h
  |cons c j=>
   simp only at h
   split at h
   ·rename_i y g
    simp only[eB,gI] at h
    obtain⟨rfl,rfl⟩:=h
    obtain⟨v,i,rfl,e,f⟩:=d
    exact⟨[v],i,rfl,iy g e,f⟩
   ·cases h
 | .list t,cs,x,r,vs,h,d=>by
  simp only[ik] at h
  cases cs with
  |nil=>cases h
  |cons c j=>
   simp only at h
   split at h
   ·rename_i y g
    simp only[eB,gI] at h
    obtain⟨rfl,rfl⟩:=h
    obtain⟨v,i,rfl,e,f⟩:=d
    exact⟨[v],i,rfl,iy g e,f⟩
   ·cases h
theorem ab9 {S:Nat->Prop} {σ:Nat->Option Sum} {u:Ty} {a:AV} {x:u.den} {v:Value} (h:qN u a=some x) (b:ah w S σ a v):ay w S u x v.cells.toList:=by
 have leaf: ∀{a:AV},eP u a=some x->ah w S σ a v->ay w S u x v.cells.toList:=fun h b=>by
  have hd:=iy h b
  grind [ay.one,nd]
 cases a with
 |agg cs=>
  simp only[qN] at h
  split at h
  ·rename_i y e
   simp only[eB] at h
   subst h
   obtain⟨vs,rfl,d⟩:=b
   obtain⟨v1,v2,rfl,hd,c⟩:=vn u cs y [] vs e d
   have f:v2=[]:=c
   grind [Value.cells]
  ·cases h
 |_=>grind [qN]
theorem MT {S:Nat->Prop} {σ:Nat->Option Sum} (u:Ty): ∀(l:List (Nat×AV)) (n:Nat) (xs:List u.den) (vs:List (Nat×Value)),kb u n l=some xs->vs.length=l.length->
  (∀(j:Nat) (x:Nat×AV),l[j]? =some x-> ∃v,vs[j]? =some (x.1,v)/\ah w S σ x.2 v)->
  xs.length=l.length/\(∀j y,vs[j]? =some y->y.1=n+j/\y.2.cells.size=u.cells)/\ ∀(j:Nat) x,xs[j]? =some x-> ∃y,vs[j]? =some y/\ay w S u x y.2.cells.toList
 |[],n,xs,vs,h,b,_=>by
  grind [kb,List.eq_nil_of_length_eq_zero]
 |(i,a)::r,n,xs,vs,h,b,c=>by
  simp only[kb] at h
  split at h
  ·rename_i g
   subst g
   split at h
   ·rename_i x m e k
    simp at h;subst h
    cases vs with
    |nil=>simp at b
    |cons y o=>
     obtain⟨v,d,am⟩:=c 0 (i,a) rfl
     simp at d
     subst d
     obtain⟨p,q,t⟩:=MT u r (i+1) m o k (by grind) (fun j x e=>by simpa using c (j+1) x (by grind))
     have hd:=ab9 e am
     refine⟨by grind,fun j y f=> ?_,fun j z A=> ?_⟩
     ·cases j with
      |zero=>simp at f;subst f;exact⟨rfl,by have:=ay.length u x _ hd;omega⟩
      |succ j=>grind
     ·cases j<;>simp_all
   ·cases h
  ·cases h
theorem Cq (k:bS P T) (V:Inv B s tmps w ι) {t:TypeId} {d:TI} (E:elemOf T t=some d) {u:Ty} {n:Nat} {l:List (Nat×AV)} {xs:List u.den} (G:kb u 0 l=some xs)
  (Y:l.length=n) (I:n<=1024) (a2:u.cells=d.size) (Q:0<d.size) (a0:d.size<=1024) {vs:List (Nat×Value)} (L:vs.length=l.length)
  (M: ∀(j:Nat) (x:Nat×AV),l[j]? =some x-> ∃v,vs[j]? =some (x.1,v)/\ah w (dst B.D w ι s.heap) (sumOf ι s.heap) x.2 v):
  ∃(e:TypeId) (out:Array Value),xs.length=n/\out.size=n*u.cells/\gZ w (dst B.D w ι s.heap) u xs out 0/\
   (buildSlice t n vs.toArray).run P w= .ok (.slice (some ⟨w.heap.size,0,none⟩) n n) (w.alloc (.cells out e)):=by
 obtain⟨a4,e,h,F,f⟩:=oY E
 have h:=k _ _ h
 have f:=k _ _ f
 have r:P.underlying t=some (.slice e):=by have:=h.kind;rw[F] at this;exact this
 obtain⟨R,A,U⟩:=MT u l 0 xs vs G L M
 obtain⟨O,o,a1,_,z,N,_⟩:=f.info
 have q:O.size=u.cells:=by omega
 have m: ∀b:Array Value,b.size=n*u.cells-> ∃out,fill (fun i=>some (i*u.cells,u.cells)) b vs=some out/\out.size=n*u.cells/\gZ w (dst B.D w ι s.heap) u xs out 0:=by
  intro b W
  obtain⟨out,a,c,_,X⟩:=ab8 u.cells vs 0 b A (by simp_all)
  refine⟨out,a,by omega,fun i x a3=> ?_⟩
  grind
 have y:xs.length=n:=by omega
 have C: ¬(16777216<n*u.cells):=by
  have:n*u.cells<=1024*1024:=fz I (by omega)
  omega
 by_cases p:n=0
 ·subst p
  obtain⟨out,a,c,g⟩:=m #[] (by simp)
  refine⟨e,out,y,c,g,?_⟩
  have J:(Array.map (fun _=>(default:Value)) (Array.range 0))= #[]:=by simp
  simp[buildSlice,aE,bi r,sizeOf,typeInfo,o,q]
  rw[J,a]
  simp[vm]
 ·have Z: ¬(n*u.cells=0):=by
   grind [Nat.mul_eq_zero]
  obtain⟨out,a,c,g⟩:=m ((Array.range (n*u.cells)).map (z.cells[· %z.cells.size]!)) (by simp)
  refine⟨e,out,y,c,g,?_⟩
  have K: ¬(u.cells=0):=by omega
  simp[buildSlice,aE,bi r,sizeOf,typeInfo,o,q,C,p,K,zeroValue,N,a,vm]
  omega
theorem MU (d:bS P T) (b:Inv B s tmps w ι) {t:TypeId} {a:TI} (f:elemOf T t=some a) {u:Ty} {n:Nat} {l:List (Nat×AV)} {xs:List u.den} (h:kb u 0 l=some xs)
  (i:l.length=n) (k:n<=1024) (q:u.cells=a.size) (c:0<a.size) (o:a.size<=1024) {base:Nat} (g:s.heap[base]? =some none) {vs:List (Nat×Value)} (r:vs.length=l.length)
  (y: ∀(j:Nat) (x:Nat×AV),l[j]? =some x-> ∃v,vs[j]? =some (x.1,v)/\ah w (dst B.D w ι s.heap) (sumOf ι s.heap) x.2 v):
  ∃v w' ι',(buildSlice t n vs.toArray).run P w= .ok v w'/\Inv B (s.setRow base (.seq u xs)) tmps w' ι'/\ah w' (dst B.D w' ι' (s.setRow base (.seq u xs)).heap) (sumOf ι' (s.setRow base (.seq u xs)).heap) (.ab base) v:=by
 obtain⟨e,out,E,m,p,C⟩:=Cq d b f h i k q c o r y
 obtain⟨z,A⟩:=b.nf g u xs out e n m (by omega) (by simp[maxLen];omega) p
 grind
theorem aca (g:bS P T) (b:Inv B s tmps w ι) {t:TypeId} {a:TI} (i:elemOf T t=some a) {u:Ty} {n:Nat} {l:List (Nat×AV)} {xs:List u.den} (k:kb u 0 l=some xs)
  (m:l.length=n) (o:n<=1024) (y:u.cells=a.size) (c:0<a.size) (q:a.size<=1024) {vs:List (Nat×Value)} (z:vs.length=l.length)
  (A: ∀(j:Nat) (x:Nat×AV),l[j]? =some x-> ∃v,vs[j]? =some (x.1,v)/\ah w (dst B.D w ι s.heap) (sumOf ι s.heap) x.2 v):
  ∃v w',(buildSlice t n vs.toArray).run P w= .ok v w'/\Inv B s tmps w' ι/\ah w' (dst B.D w' ι s.heap) (sumOf ι s.heap) (if n=0 then .aI else .aa (.list u) xs) v:=by
 obtain⟨e,out,C,E,r,p⟩:=Cq g b i k m o y c q z A
 obtain⟨d,f⟩:=b.ab7 u xs out e n (by omega) r
 refine⟨_,_,p,d,?_⟩
 rw[C] at f
 by_cases h:n=0
 ·subst h
  exact⟨_,rfl⟩
 simp_all
theorem vo (S:Nat->Prop): ∀(u:Ty) (z:List Value),eo u z=true->ay w S u u.zero z
 | .int k,z,h=>by
  match z,h with
  |[.int c n],h=>
   simp only[eo,aT,ce] at h
   obtain⟨rfl,rfl⟩:=h
   rfl
 | .bool,z,h=>by
  match z,h with
  |[.bool b],h=>
   simp only[eo,gv] at h
   subst h
   rfl
 | .str,z,h=>by
  match z,h with
  |[.string b],h=>
   have:b=empty:=by
    rcases b with⟨⟨l⟩⟩
    simp[eo] at h
    subst h;rfl
   subst this
   rfl
 | .list t,z,h=>by
  match z,h with
  |[.slice none 0 0],h=>exact⟨none,0,rfl,aS _,.inl rfl⟩
 | .val,z,h=>by
  match z,h with
  |[.slice none 0 0],h=>exact⟨rfl,rfl⟩
 | .err,z,h=>by
  match z,h with
  |[.nilIface],h=>exact⟨_,rfl,rfl⟩
 | .unit,z,h=>by
  match z,h with
  |[],h=>rfl
 | .pair a b,z,h=>by
  simp only[eo,aT] at h
  exact⟨z.take a.cells,z.drop a.cells,(u1 _ _).symm,vo S a _ h.1,vo S b _ h.2⟩
theorem vp {u:Ty} {z:List Value} (h:eo u z=true) (S:Nat->Prop):ay w S u u.zero z:=vo S u z h
theorem qZ {u:Ty} {z:List Value} (h:eo u z=true):z.length=u.cells:=ay.length u u.zero z (vo (w:=default) (fun _=>True) u z h)
theorem MV (k:bS P T) (K:Inv B s tmps w ι) {t:TypeId} {c:TI} (Q:elemOf T t=some c) {u:Ty} {k1 k2:IntKind} {n m:Int} {f:Nat} (b:mk n m=some f)
  (b7:u.cells=c.size) (a5:0<c.size) (a7:c.bytes<=128) (a2:eo u c.zero=true) {base:Nat} (R:s.heap[base]? =some none):
  ∃v w' ι',(makeSlice t (.int k1 n) (.int k2 m)).run P w= .ok v w'/\Inv B (s.setRow base (.seq u (replicate f u.zero))) tmps w' ι'/\
   ah w' (dst B.D w' ι' (s.setRow base (.seq u (replicate f u.zero))).heap) (sumOf ι' (s.setRow base (.seq u (replicate f u.zero))).heap) (.ab base) v:=by
 obtain⟨c3,e,h,V,g⟩:=oY Q
 have h:=k _ _ h
 have g:=k _ _ g
 have E:P.underlying t=some (.slice e):=by have:=h.kind;rw[V] at this;exact this
 obtain⟨a,o,b6,a8,z,a4,c1⟩:=g.info
 have c0:=qZ a2
 have C:a.size=u.cells:=by omega
 have b8:0<u.cells:=by omega
 unfold mk at b
 split at b
 ·rename_i M
  obtain⟨b2,b3,b1⟩:=M
  simp at b
  subst b
  have G:IntKind.i64.wrap n=n:=by
   grind [wrap,IntKind.bits,signed,Int.bmod]
  have F:IntKind.i64.wrap m=m:=by
   grind [wrap,IntKind.bits,signed,Int.bmod]
  have L:(a.bytes:Int)<=128:=by omega
  have b5:(a.bytes:Int)*m<=140737488355328:=by
   have a6:(a.bytes:Int)*m<=128*m:=Int.mul_le_mul_of_nonneg_right L (by omega)
   omega
  have c2:z.cells.size=u.cells:=by
   grind
  have a3:ay w (dst B.D w ι s.heap) u u.zero z.cells.toList:=by grind [vp]
  generalize O:(Array.range (m.toNat*u.cells)).map (fun i=>z.cells[i%z.cells.size]!)=d
  have N:d.size=m.toNat*u.cells:=by grind
  have Y:gZ w (dst B.D w ι s.heap) u (replicate n.toNat u.zero) d 0:=by
   intro i x a0
   have hi:=(aO.1 a0).1
   simp at hi
   have a1:x=u.zero:=by simp_all
   subst a1
   refine⟨z.cells.toList,a3,fun j v b9=> ?_⟩
   have a9:j<u.cells:=by grind
   have U:i<m.toNat:=by omega
   have b0:i*u.cells+j<m.toNat*u.cells:=by
    have:(i+1)*u.cells<=m.toNat*u.cells:=ig _ U
    grind
   grind [Ty.cells,Nat.mul_comm,Nat.mul_add_mod,Nat.mod_eq_of_lt,Array.getElem?_eq_getElem,Option.some.inj]
  obtain⟨I,J⟩:=K.nf R u (replicate n.toNat u.zero) d e m.toNat N (by simp;omega) (by simp[maxLen];omega) Y
  refine⟨_,_,_,?_,I,J⟩
  have y: ¬(m<0):=by omega
  have p: ¬(n<0):=by omega
  have q: ¬(m<n):=by omega
  have l: ¬(281474976710656<(a.bytes:Int)*m):=by omega
  have A: ¬(roomBytes<m.toNat*a.bytes):=by
   grind [Int.toNat,Int.natCast_mul,Int.toNat_of_nonneg,Int.mul_comm,roomBytes]
  have Z: ¬(u.cells=0):=by omega
  by_cases r:m.toNat=0
  ·have W:d= #[]:=by
    simp_all
   rw[W]
   have X:(Array.map (fun _=>(default:Value)) (Array.range 0))= #[]:=by simp
   simp[makeSlice,aE,bi E,asInt,asIntOf,typeInfo,o,G,F,y,p,q,l,askRoom,A,sizeOf,C,r,vm]
   rw[X]
  ·have b4: ¬(m.toNat*u.cells=0):=by
    grind [Nat.mul_eq_zero]
   simp[makeSlice,aE,bi E,asInt,asIntOf,typeInfo,o,G,F,y,p,q,l,askRoom,A,sizeOf,C,r,Z,zeroValue,a4,O,vm]
   omega
 ·cases b
end
end Go.Rv
namespace Go.Rv
section
variable {P : Program} {T : TT} {B : cl} {s : St} {tmps : Array Value} {w : World} {ι : ba}
def ng (w:World) (S:Nat->Prop) (u:Ty) (ys:List u.den) (a:List Value):Prop:=
 ∀(i:Nat) x,ys[i]? =some x-> ∃c,ay w S u x c/\ ∀j v,c[j]? =some v->a[i*u.cells+j]? =some v
theorem Cr {S:Nat->Prop} (u:Ty) (b:Nat): ∀(ys:List u.den) (o:Nat),(∀(i:Nat) x,ys[i]? =some x-> ∃c,ay w S u x c/\fe w b (o+i*u.cells) c)->
  ∃a:List Value,a.length=ys.length*u.cells/\fe w b o a/\(∀v∈a,v.oneCell'=true)/\ng w S u ys a
 |[],o,_=>⟨[],by simp,by intro j v h;simp at h,by simp,by intro i x h;simp at h⟩
 |y::r,o,h=>by
  obtain⟨c,hd,g⟩:=h 0 y rfl
  simp only[Nat.zero_mul,gY] at g
  have z:=ay.length _ _ _ hd
  obtain⟨a,q,l,t,m⟩:=Cr u b r (o+u.cells) (fun i x e=>by
   obtain⟨f,k,n⟩:=h (i+1) x (by grind)
   refine⟨f,k,?_⟩
   grind)
  refine⟨c++a,by grind,fun j v d=> ?_,fun v d=> ?_,fun i x e=> ?_⟩
  ·by_cases p:j<c.length
   ·rw[mQ p] at d;exact g j v d
   ·rw[lh (by omega)] at d
    have:=l _ v d
    grind
  ·grind [ay.one]
  ·cases i with
   |zero=>
    grind
   |succ i=>
    simp at e
    obtain⟨f,k,n⟩:=m i x e
    grind
theorem kj {t a:Ty} {x:a.den} {y:t.den} (h:hc t a x=some y): ∃e:a=t,y=e▸x:=by
 grind [hc]
theorem Cs (p:Inv B s tmps w ι) {u:Ty} {y:AV} {ys:List u.den} (h:elems s u y=some ys) {vy:Value} (j:ah w (dst B.D w ι s.heap) (sumOf ι s.heap) y vy):
  ∃a c,vy= .slice a ys.length c/\(ys=[]\/ ∃b o,a=some ⟨b,o,none⟩/\ ∀(i:Nat) x,ys[i]? =some x-> ∃c,ay w (dst B.D w ι s.heap) u x c/\fe w b (o+i*u.cells) c):=by
 unfold elems at h
 split at h
 ·rename_i t xs
  obtain⟨e,rfl⟩:=kj h
  cases e
  obtain⟨a,cap,I,q,f⟩:=j
  grind
 ·simp at h;subst h
  obtain⟨a,rfl⟩:=j
  simp_all
 ·rename_i g
  split at h
  ·rename_i t xs n
   have f:=bj n
   obtain⟨e,rfl⟩:=kj h
   cases e
   obtain⟨G,l,d⟩:=j
   have m:=dD f l
   subst m
   unfold br at d
   simp only at d
   split at d
   ·rename_i b o c k
    obtain⟨q,rfl|⟨v,a,rfl⟩⟩:=d
    ·refine⟨_,_,rfl,.inr ⟨b,o+0*u.cells,rfl,fun i x r=> ?_⟩⟩
     obtain⟨cs,hd,z⟩:=nc p.am f k r
     grind
    ·have F:xs.length=0:=by omega
     simp_all [li]
   grind
  ·cases h
 ·rename_i g off len
  split at h
  ·rename_i t xs n
   have f:=bj n
   obtain⟨e,rfl⟩:=kj h
   cases e
   obtain⟨G,l,A,d⟩:=j
   have m:=dD f l
   subst m
   simp only at A
   have C:((xs.drop off).take len).length=len:=by simp;omega
   unfold br at d
   simp only at d
   split at d
   ·rename_i b o c k
    obtain⟨q,rfl|⟨v,a,rfl⟩⟩:=d
    ·refine⟨_,_,by rw[C],.inr ⟨b,o+off*u.cells,rfl,fun i x r=> ?_⟩⟩
     have E:xs[off+i]? =some x:=by
      grind
     obtain⟨cs,hd,z⟩:=nc p.am f k E
     grind
    ·have F:len=0:=by omega
     simp_all
   grind
  ·cases h
 ·cases h
theorem acb {t ty e:TypeId} {i:TypeInfo} (n:P.underlying t=some (.slice e)) (hi:P.info? e=some i) {b o L c m cy:Nat} {d:Array Value} {f:TypeId} (k:w.heap[b]? =some (.cells d f (0,0)))
  {vy:Option Addr} {a:List Value} (j:(firstCells i.size m (.slice vy m cy)).run P w= .ok a.toArray w) (h: ∀v∈a,v.oneCell'=true) (l:L+m<=c) (p:o+L*i.size+a.length<=d.size):
  (append_ #[t,t] ty #[.slice (some ⟨b,o,none⟩) L c,.slice vy m cy]).run P w=
   .ok (.slice (some ⟨b,o,none⟩) (L+m) c) (w.setRow b (d.toList.take (o+L*i.size)++a++d.toList.drop (o+L*i.size+a.length)).toArray):=by
 have g:=run_storeCells_at P b (o+L*i.size) f a 0 d w k (by omega) h
 simp only[gY] at g
 simp[append_,bi n,sizeOf,typeInfo,hi,lenOf,l,j,addr_add,g]
theorem acd {t ty e:TypeId} {i:TypeInfo} (b:P.underlying t=some (.slice e)) (hi:P.info? e=some i) {a vy:Option Addr} {cy:Nat}:
  (append_ #[t,t] ty #[.slice a 0 0,.slice vy 0 cy]).run P w= .ok (.slice a 0 0) w:=by
 cases a<;>cases vy<;>simp[append_,bi b,sizeOf,typeInfo,hi,lenOf,firstCells,loadCells,loadCellsFrom,storeCells]
def vq (w:World) (S:Nat->Prop) (u:Ty) (zs ys:List u.den) (place:Option (Nat×Nat×Nat)) (g:Value) (w':World) (p:Option (Nat×Nat×Nat)):Prop:=
 (zs=[]/\ys=[]/\w'=w/\p=none/\ ∃a,g= .slice a 0 0)\/
 (∃b o c d e f,place=some (b,o,c)/\p=some (b,o,c)/\w.heap[b]? =some (.cells d e (0,0))/\w'=w.setRow b f/\g= .slice (some ⟨b,o,none⟩) (zs.length+ys.length) c/\
  zs.length+ys.length<=c/\f.size=o+c*u.cells/\gZ w S u (zs++ys) f o)\/
 (∃c d e,p=some (w.heap.size,0,c)/\w'=w.drew.alloc (.cells d e)/\g= .slice (some ⟨w.heap.size,0,none⟩) (zs.length+ys.length) c/\
  zs.length+ys.length<=c/\c<=maxLen/\d.size=c*u.cells/\gZ w S u (zs++ys) d 0)
theorem ng.append {S:Nat->Prop} {u:Ty} {zs ys:List u.den} {a b:List Value} (f:ng w S u zs a) (g:ng w S u ys b) (l:a.length=zs.length*u.cells):ng w S u (zs++ys) (a++b):=by
 intro i x d
 by_cases hi:i<zs.length
 ·rw[mQ hi] at d
  obtain⟨c,hd,e⟩:=f i x d
  grind
 ·rw[lh (by omega)] at d
  obtain⟨c,hd,e⟩:=g _ x d
  refine⟨c,hd,fun j v h=> ?_⟩
  have:=e j v h
  have k:zs.length*u.cells<=i*u.cells:=ig _ (by omega)
  grind [List.getElem?_append_right,Nat.mul_comm,List.length,Nat.mul_sub,Ty.cells]
theorem q0 (a1:bS P T) {S:Nat->Prop} {t ty:TypeId} {y:TI} (b4:elemOf T t=some y) {u:Ty} (d4:u.cells=y.size) (c6:0<y.size) (c7:y.bytes<=128) (d7:y.zero.length=u.cells)
  {zs ys:List u.den} (d2:room (zs.length+ys.length)=some ()) {vx vy:Value} {place:Option (Nat×Nat×Nat)}
  (f:(zs=[]/\ ∃a,vx= .slice a 0 0)\/(∃b o c g e,place=some (b,o,c)/\vx= .slice (some ⟨b,o,none⟩) zs.length c/\w.heap[b]? =some (.cells g e (0,0))/\zs.length<=c/\c<=maxLen/\g.size=o+c*u.cells/\gZ w S u zs g o))
  (c4: ∃a c,vy= .slice a ys.length c/\(ys=[]\/ ∃b o,a=some ⟨b,o,none⟩/\ ∀(i:Nat) x,ys[i]? =some x-> ∃c,ay w S u x c/\fe w b (o+i*u.cells) c)):
  ∃A w' p,(append_ #[t,t] ty #[vx,vy]).run P w= .ok A w'/\vq w S u zs ys place A w' p:=by
 obtain⟨d8,e,Y,b8,R⟩:=oY b4
 have Y:=a1 _ _ Y
 have R:=a1 _ _ R
 have K:P.underlying t=some (.slice e):=by have:=Y.kind;rw[b8] at this;exact this
 obtain⟨k,I,d3,c8,z,a7,c5⟩:=R.info
 have J:k.size=u.cells:=by omega
 obtain⟨q,cy,rfl,a6⟩:=c4
 have b9:zs.length+ys.length<=1099511627776:=by
  grind [room]
 have c9:(zs.length+ys.length)*k.bytes<=140737488355328:=by
  have:(zs.length+ys.length)*k.bytes<=1099511627776*128:=fz b9 (by omega)
  omega
 obtain⟨d,V,O,c1,X⟩: ∃d:List Value,d.length=ys.length*u.cells/\(∀w1:World,w1.heap=w.heap->(firstCells k.size ys.length (.slice q ys.length cy)).run P w1= .ok d.toArray w1)/\
   (∀v∈d,v.oneCell'=true)/\ng w S u ys d:=by
  rcases a6 with rfl|⟨b,o,rfl,F⟩
  ·refine⟨[],by simp,fun w1 _=> ?_,by simp,by intro i x h;simp at h⟩
   cases q<;>simp[firstCells,loadCells,loadCellsFrom]
  ·obtain⟨d,C,D,E,M⟩:=Cr u b ys o F
   refine⟨d,C,fun w1 d5=> ?_,E,M⟩
   exact run_firstCells_some w1 k.size ys.length ⟨b,o,none⟩ ys.length cy d (by rw[C,J]) (fun j v l=>by
    rw[addr_add]
    have:=D j v l
    grind [World.cell?])
 have grow: ∀(b:Addr) (c:Nat) (n:List Value),n.length=zs.length*u.cells->(∀j v,n[j]? =some v->w.cell? (b.add j)=some v)->ng w S u zs n->c<zs.length+ys.length->
   ∃A w' p,(append_ #[t,t] ty #[.slice (some b) zs.length c,.slice q ys.length cy]).run P w= .ok A w'/\vq w S u zs ys place A w' p:=by
  intro b c n W c0 c2 d1
  have d6:ys.length≠0\/q=none\/ ∃a,q=some a:=by cases q<;>simp
  have U: ¬(zs.length+ys.length<=c):=by omega
  have b1: ¬(9223372036854775807<((zs.length:Int)+(ys.length:Int))):=by omega
  have a9: ¬(281474976710656<nextslicecap (zs.length+ys.length) c*k.bytes):=by
   simp_all [growslice_fits]
  have N:=O w.drew rfl
  have b6:=run_firstCells_some (P:=P) w.drew k.size zs.length b zs.length c n (by rw[W,J]) (by simpa using c0)
  have a3:=oB w (zs.length+ys.length) c e
  have G:=oC w (zs.length+ys.length) c e (by grind [maxLen])
  refine⟨_,_,some (w.heap.size,0,grownCap w (zs.length+ys.length) c e),?_,.inr (.inr ⟨grownCap w (zs.length+ys.length) c e,n.toArray++d.toArray++zeroCells z.cells (grownCap w (zs.length+ys.length) c e-(zs.length+ys.length)),e,rfl,rfl,rfl,a3,G,?_,?_⟩)⟩
  ·simp[append_,bi K,sizeOf,typeInfo,zeroValue,I,a7,lenOf,U,b1,a9,Question.forced,N,b6,newRow,grownCap]
   grind
  ·have a0:z.cells.size=u.cells:=by grind
   simp only[oD,qI,BY,a0,W,V,<-oE]
   simp_all
  ·intro i x f
   obtain⟨cs,hd,r⟩:=(c2.append X W) i x f
   grind
 rcases f with⟨rfl,a,rfl⟩|⟨b,o,c,g,a8,rfl,rfl,a2,c5,G,b3,a5⟩
 ·by_cases Z:ys.length=0
  ·have:ys=[]:=li Z
   subst this
   exact⟨_,_,none,acd K I,.inl ⟨rfl,rfl,rfl,rfl,a,rfl⟩⟩
  ·cases a with
   |some b=>exact grow b 0 [] (by simp) (by simp) (by intro i x h;simp at h) (by simp;omega)
   |none=>
    rcases a6 with rfl|⟨b,o,rfl,F⟩
    ·simp at Z
    ·have a3:=oB w ys.length 0 e
     have G:=oC w ys.length 0 e (by grind [maxLen])
     have N:=O w.drew rfl
     have U:ys.length≠0:=Z
     have b2: ¬(9223372036854775807<(ys.length:Int)):=by omega
     have b0: ¬(281474976710656<nextslicecap ys.length 0*k.bytes):=by
      grind [nextslicecap_zero]
     refine⟨_,_,some (w.heap.size,0,grownCap w ys.length 0 e),?_,.inr (.inr ⟨grownCap w ys.length 0 e,d.toArray++zeroCells z.cells (grownCap w ys.length 0 e-ys.length),e,rfl,rfl,by simp;rfl,by grind,G,?_,?_⟩)⟩
     ·simp[append_,bi K,sizeOf,typeInfo,zeroValue,I,a7,lenOf,U,b2,b0,Question.forced,run_firstCells_none,N,newRow,grownCap]
     ·have a0:z.cells.size=u.cells:=by grind
      simp only[oD,qI,BY,a0,V,<-oE]
      simp_all
     ·intro i x f
      simp only[hC] at f
      obtain⟨cs,hd,r⟩:=X i x f
      grind
 ·by_cases Q:zs.length+ys.length<=c
  ·have b5:o+zs.length*k.size+d.length<=g.size:=by
    rw[V,J,b3,lg,<-oE]
    exact Nat.add_le_add_left (ig _ Q) _
   have c3:=acb (ty:=ty) K I (b:=b) (o:=o) (L:=zs.length) (c:=c) (m:=ys.length) (cy:=cy) a2 (O w rfl) c1 Q b5
   refine⟨_,_,some (b,o,c),c3,.inr (.inl ⟨b,o,c,g,a8,_,rfl,rfl,a2,rfl,rfl,Q,?_,?_⟩)⟩
   ·simp;omega
   ·rw[J]
    have b7: ∀m,(g.toList.take (o+zs.length*u.cells)++d++g.toList.drop (o+zs.length*u.cells+d.length)).toArray[m]? =if o+zs.length*u.cells<=m/\m<o+zs.length*u.cells+d.length then d[m-(o+zs.length*u.cells)]? else g[m]? :=by
     intro m
     have:=jr g.toList (o+zs.length*u.cells) d (by simp_all) m
     simp_all
    intro i x f
    by_cases hi:i<zs.length
    ·rw[mQ hi] at f
     obtain⟨cs,hd,r⟩:=a5 i x f
     refine⟨cs,hd,fun j v l=> ?_⟩
     have a4:=(aO.1 l).1
     have d0:=ay.length _ _ _ hd
     have:(i+1)*u.cells<=zs.length*u.cells:=ig _ hi
     grind
    ·rw[lh (by omega)] at f
     obtain⟨cs,hd,r⟩:=X _ x f
     refine⟨cs,hd,fun j v l=> ?_⟩
     have:=r j v l
     have a4:=(aO.1 this).1
     have D:zs.length*u.cells<=i*u.cells:=ig _ (by omega)
     have E:(i-zs.length)*u.cells=i*u.cells-zs.length*u.cells:=by grind
     rw[E] at a4 this
     rw[b7,aB (by omega),<-this]
     congr 1
     omega
  ·have F: ∀(i:Nat) x,zs[i]? =some x-> ∃c,ay w S u x c/\fe w b (o+i*u.cells) c:=fun i x f=>by
    obtain⟨cs,hd,r⟩:=a5 i x f
    exact⟨cs,hd,fun j v l=>by grind [jq]⟩
   obtain⟨n,C,D,E,M⟩:=Cr u b zs o F
   exact grow ⟨b,o,none⟩ c n C (fun j v l=>by rw[addr_add];exact D j v l) M (by omega)
end
end Go.Rv
namespace Go.Rv
section
variable {P : Program} {T : TT} {B : cl} {s : St} {tmps : Array Value} {w : World} {ι : ba}
theorem q1 {h:Nat} {a:AV} {x:Nat} (b:(aU h a).refs x=true):a.refs x=true/\x≠h:=by
 grind [aU,AV.refs]
theorem oZ (h:Nat) (a:AV):aU h a=a\/aU h a= .undef:=by
 grind [aU,AV.refs]
theorem kk {h:Nat} {x:Nat}: ∀{cs:List AV},cf (cs.map (aU h)) x=true->cf cs x=true/\x≠h
 |[],b=>by simp[cf] at b
 |a::r,b=>by
  simp only[dM,cf,eA] at b
  rcases b with b|b
  ·grind [q1,cf]
  ·have:=kk b;grind [cf]
theorem vr {w:World} {S:Nat->Prop} {σ:Nat->Option Sum} {n:Option (Nat×Nat×Nat)} {h:Nat} {r:Row} (p:bG w S σ n r):bG w S σ n (dp h r):=by
 cases r with
 |seq u xs=>exact p
 |box cs=>
  obtain⟨b,o,c,q,e,z,y,t⟩:=p
  refine⟨b,o,c,q,e,z,y,fun j a f=> ?_⟩
  rw[ek] at f
  cases l:cs[j]? with
  |none=>grind
  |some g=>
   simp[l] at f
   obtain⟨v,d,i,k⟩:=t j g l
   refine⟨v,d,i,?_⟩
   rcases oZ h g with e|e<;>rw[<-f,e]
   ·exact k
   ·trivial
 |nest u xss m cs=>
  cases n with
  |none=>
   obtain⟨d,rfl⟩:=p
   exact⟨d,rfl⟩
  |some n=>
   obtain⟨b,o,c⟩:=n
   obtain⟨q,e,d,i,k,x,t⟩:=p
   refine⟨q,e,d,i,k,x,fun j a f=> ?_⟩
   rw[ek] at f
   cases l:cs[j]? with
   |none=>grind
   |some g=>
    simp[l] at f
    obtain⟨v,d,i,k⟩:=t j g l
    refine⟨v,d,i,?_⟩
    rcases oZ h g with e|e<;>rw[<-f,e]
    ·exact k
    ·trivial
theorem nh {h:Nat} {r:Row}:(dp h r).gL r:=fun t xss m a e=>by
 cases r<;>grind [dp]
theorem Inv.grow (h:Inv B s tmps w ι) {g:Nat} {K:Row} (t:s.heap[g]? =some (some K)) (L:B.k<=g\/B.mv g=true) (u:Ty) (ys:List u.den) {w':World} {p:Option (Nat×Nat×Nat)}
  (z:Kept (aM w ι s.heap) w w') (C: ∀(h' b:Nat),h'≠g->aP ι s.heap h' b->w'.heap[b]? =w.heap[b]?)
  (F: ∀d,p=some d->(d.1<w'.heap.size/\ ¬aM w ι s.heap d.1/\ ∀(h':Nat),h'≠g-> ¬aP ι s.heap h' d.1))
  (E: ∀d,p=some d->B.D d.1)
  (I:Trans w ι s.heap w' (bA ι g p) ((s.aU g).setRow g (.seq u ys)).heap (fun x=>x≠g/\ ∃e,s.heap[x]? =some (some e))->
   bG w' (dst B.D w' (bA ι g p) ((s.aU g).setRow g (.seq u ys)).heap) (sumOf (bA ι g p) ((s.aU g).setRow g (.seq u ys)).heap) p (.seq u ys)):
  Inv B ((s.aU g).setRow g (.seq u ys)) tmps w' (bA ι g p)/\sumOf (bA ι g p) ((s.aU g).setRow g (.seq u ys)).heap g=some ⟨p,u.cells,ys.length⟩:=by
 have q:g<s.heap.length:=(aO.1 t).1
 refine⟨h.qT (s':=(s.aU g).setRow g (.seq u ys)) (g:=g) (r:= .seq u ys) (p:=p) (fun x=>x≠g/\ ∃e,s.heap[x]? =some (some e)) (by simp[St.setRow,St.aU,q]) rfl ?_ ?_ z C F ?_ (fun x c=>c.2) I ?_ ?_ E,?_⟩
 ·intro h' M A j
  simp only[St.setRow,St.aU] at j
  rw[hA (fZ A),ek] at j
  cases f:s.heap[h']? with
  |none=>simp_all
  |some x=>
   cases x with
   |none=>simp_all
   |some e=>
    simp[f] at j
    subst j
    refine⟨e,rfl,nh,by cases e<;>rfl,by cases e<;>simp[dp,Row.len],fun S σ w d y=>vr y,fun x c=> ?_⟩
    cases e with
    |seq u xs=>simp[dp,Row.refs] at c
    |nest u xss m cs=>
     simp only[dp,Row.refs] at c
     have:=kk c
     refine⟨this.2,?_⟩
     obtain⟨d,n⟩:=(h.am.rows h' _ f).cu x this.1
     exact dA n
    |box cs=>
     simp only[dp,Row.refs] at c
     have:=kk c
     refine⟨this.2,?_⟩
     obtain⟨d,n⟩:=(h.am.rows h' _ f).cu x this.1
     exact dA n
 ·grind [dp,St.setRow,St.aU,List.getElem?_set_ne]
 ·omega
 ·intro i a l
  simp only[St.setRow,St.aU,ek] at l
  cases f:s.env[i]? with
  |none=>grind
  |some o=>
   simp[f] at l
   obtain⟨v,J,G⟩:=h.env i o f
   refine⟨v,J,.inl ⟨o,G,by grind [oZ],fun x c=> ?_⟩⟩
   rw[<-l] at c
   have:=q1 c
   grind [ah.cu,dA]
 ·grind
 ·simp only[St.setRow]
  exact iw (by simp[St.aU,q])
theorem vt (d:Inv B s tmps w ι) {g:Nat} {v:Row} (f:s.heap[g]? =some (some v)) (F:B.k<=g\/B.mv g=true) {u:Ty} {zs ys:List u.den} {place:Option (Nat×Nat×Nat)}
  (X: ∀b o c,place=some (b,o,c)-> ∃K C,ι g=some (b,K,C)) (U: ∀b o c,place=some (b,o,c)->c<=maxLen) {Q:Value} {w':World} {p:Option (Nat×Nat×Nat)}
  (h:vq w (dst B.D w ι s.heap) u zs ys place Q w' p):
  ∃ι',Inv B ((s.aU g).setRow g (.seq u (zs++ys))) tmps w' ι'/\ah w' (dst B.D w' ι' ((s.aU g).setRow g (.seq u (zs++ys))).heap) (sumOf ι' ((s.aU g).setRow g (.seq u (zs++ys))).heap) (.ab g) Q:=by
 rcases h with⟨rfl,rfl,rfl,rfl,a,rfl⟩|⟨b,o,c,n,e,y,N,rfl,R,rfl,rfl,W,O,I⟩|⟨c,n,e,rfl,rfl,rfl,W,V,O,I⟩
 ·obtain⟨q,r⟩:=d.grow f F u ([]++ []) (w':=w') (p:=none) (Kept.refl _ _) (fun _ _ _ _=>rfl) (by simp_all) (by simp_all) (fun _=>by simp[bG])
  exact⟨_,q,_,r,by simp,by simp,a,by simp⟩
 ·obtain⟨K,C,z⟩:=X b o c N
  have M: ¬aM w ι s.heap b:=fun G=>G.2 g (.out v _ f z rfl)
  obtain⟨q,r⟩:=d.grow f F u (zs++ys) (w':=w.setRow b y) (p:=some (b,o,c)) ⟨rfl,rfl,rfl,by simp,fun x l=>u0 w b x y (fun e=>M (e▸l)),fun a _=>MA _ _ _ a⟩
   (fun h' A t m=>u0 w b A y (fun e=>t (d.am.one h' g A m (.out v _ f z e.symm))))
   (by
    intro L j
    cases j
    exact⟨by simp;grind,M,fun h' t m=>t (d.am.one h' g b m (.out v _ f z rfl))⟩)
   (by intro L j;cases j;exact d.am.own g v (b,K,C) f z)
   (fun J=>⟨y,e,je w b n _ e _ R,O,by grind,U b o c N,fun i x l=>by
    obtain⟨cs,hd,E⟩:=I i x l
    exact⟨cs,J.aa hd,E⟩⟩)
  exact⟨_,q,_,r,by grind,.inl (by simp)⟩
 ·have Y:(w.drew.alloc (.cells n e)).heap.size=w.heap.size+1:=by simp
  obtain⟨q,r⟩:=d.grow f F u (zs++ys) (w':=w.drew.alloc (.cells n e)) (p:=some (w.heap.size,0,c)) ⟨rfl,rfl,rfl,by omega,fun x l=>uZ w.drew _ x l.1,fun a _=>BZ w.drew _ _ a⟩
   (fun h' A t m=>uZ w.drew _ _ (m.lt d.am))
   (by
    intro L j
    cases j
    exact⟨by omega,fun G=>oy _ G.1,fun h' t m=>oy _ (m.lt d.am)⟩)
   (by intro L j;cases j;exact B.new _ d.kept.size)
   (fun J=>⟨n,e,qH w.drew _,by omega,by grind,V,fun i x l=>by
    obtain⟨cs,hd,E⟩:=I i x l
    exact⟨cs,J.aa hd,E⟩⟩)
  exact⟨_,q,_,r,by grind,.inl (by simp)⟩
theorem ace {a:Type} (xs:List a) (off:Nat):ke xs off []=xs:=by simp[ke]
theorem MW {a:Type} {xs ys:List a} {off:Nat} (h:off+ys.length<=xs.length):(ke xs off ys).length=xs.length:=by
 simp[ke]
 omega
theorem acf {s:St} {g:Nat} {r:Row} (h:s.heap[g]? =some (some r)):s.setRow g r=s:=by
 unfold St.setRow
 have:s.heap.set g (some r)=s.heap:=by
  apply hB
  grind
 rw[this]
theorem MX (O:bS P T) (r:Inv B s tmps w ι) {t t2 ty:TypeId} {M:TI} (E:elemOf T t=some M) (d2:M.size=1) {g off len:Nat} {u:Ty} {xs ys:List u.den} (I:s.heap[g]? =some (some (.seq u xs))) (p:u.cells=1) (c5:off+len<=xs.length)
  {vx vy:Value} (b8:br ⟨ι g,u.cells,xs.length⟩ off len vx) {a:Option Addr} {N:Nat} (n:vy= .slice a ys.length N)
  (c0:ys=[]\/ ∃b o,a=some ⟨b,o,none⟩/\ ∀(i:Nat) x,ys[i]? =some x-> ∃c,ay w (dst B.D w ι s.heap) u x c/\fe w b (o+i*u.cells) c):
  ∃w' ι',Inv B (s.setRow g (.seq u (ke xs off (ys.take len)))) tmps w' ι'/\(copy_ #[t,t2] ty #[vx,vy]).run P w= .ok (goInt (min ys.length len:Nat)) w':=by
 subst n
 obtain⟨c2,e,J,b2,a8⟩:=oY E
 have J:=O t c2 J
 have E:=O e M a8
 have K:P.underlying t=some (.slice e):=by have:=J.kind;rw[b2] at this;exact this
 have b0:(P.info? e).map (·.size)=some 1:=by
  obtain⟨i,hi,d1,_⟩:=E.info
  simp_all
 have b7: ∃d cap,vx= .slice d len cap:=by
  grind [br]
 by_cases l:ys=[]\/len=0
 ·have a1:ys.take len=[]:=by
   grind
  have X:min ys.length len=0:=by
   simp_all
  rw[a1,ace,acf I,X]
  refine⟨w,ι,r,?_⟩
  obtain⟨d,cap,rfl⟩:=b7
  have Y:Nat.min ys.length len=0:=X
  have b3: ∃i,P.info? e=some i/\i.size=1:=by
   simp_all
  obtain⟨i,hi,c4⟩:=b3
  cases a with
  |none=>
   cases d<;>simp[copy_,bi K,lenOf,firstCells,sizeOf,typeInfo,hi,Y,storeCells]
  |some a=>
   have R:=BX (P:=P) w a [] (by simp)
   simp only[jh] at R
   cases d<;>simp[copy_,bi K,lenOf,firstCells,sizeOf,typeInfo,hi,Y,storeCells,R]
 ·have c9:ys≠ []:=fun h=>l (.inl h)
  have c6:len≠0:=fun h=>l (.inr h)
  rcases c0 with h|⟨a0,Z,rfl,a3⟩
  ·simp_all
  ·have U:=r.am.rows g _ I
   have F:=b8
   unfold br at F
   split at F
   ·rename_i b o c G
    simp only at G
    rw[G] at U
    obtain⟨f,q,A,a5,d3,a4,b4⟩:=U
    obtain⟨c7,rfl|⟨C,a,rfl⟩⟩:=F
    ·obtain⟨vs,W,b5⟩:=qW (S:=dst B.D w ι s.heap) (σ:=sumOf ι s.heap) p (ys.take len) Z (fun i x k=>by
      have b9:ys[i]? =some x:=by
       grind
      obtain⟨cs,hd,C⟩:=a3 i x b9
      exact⟨cs,hd,by simpa[p] using C⟩)
     have b6:=W.length
     simp only[eN,mR] at b6
     have Q: ∀(i:Nat) x,(ys.take len)[i]? =some x-> ∃z,vs[i]? =some z/\ay w (dst B.D w ι s.heap) u x [z]:=fun i x k=>by
      obtain⟨z,l,c1⟩:=W.get _ _ i (.aa u x) (by grind)
      exact⟨z,l,c1⟩
     have a2: ∀v∈vs,v.oneCell'=true:=fun v L=>by
      obtain⟨i,hi,rfl⟩:=oA.mp L
      have a7:i<(ys.take len).length:=by simp;omega
      obtain⟨z,l,hd⟩:=Q i _ (bh a7)
      grind [List.getElem?_eq_getElem,ay.one]
     rw[p] at a5
     have c3:o+off+vs.length<=f.size:=by omega
     have d0:=run_copy_row P w t t2 ty e b (o+off*u.cells) len (c-off) ⟨a0,Z,none⟩ ys.length N f q vs K b0 A (by grind) (fun j v L=>by
      rw[addr_add]
      exact b5 j v L) (by grind) a2
     refine⟨_,_,r.write I (.seq u (ke xs off (ys.take len))) rfl rfl (by grind [Row.len,MW]) G A (f.toList.take (o+off*u.cells)++vs++f.toList.drop (o+off*u.cells+vs.length)).toArray ?_,?_⟩
     ·intro V
      refine⟨_,q,je w b f _ q _ A,?_,by grind [MW],a4,fun i x k=> ?_⟩
      ·grind
      ·have a6: ∀m,(f.toList.take (o+off*u.cells)++vs++f.toList.drop (o+off*u.cells+vs.length)).toArray[m]? =if o+off<=m/\m<o+off+vs.length then vs[m-(o+off)]? else f[m]? :=by
        intro m
        have:=jr f.toList (o+off*u.cells) vs (by simp_all) m
        simp_all
       unfold ke at k
       rw[jr xs off (ys.take len) (by simp;omega) i] at k
       have c8:(ys.take len).length=vs.length:=by simp;omega
       split at k
       ·rename_i a9
        obtain⟨z,l,hd⟩:=Q _ x k
        refine⟨[z],V.aa hd,fun j y n=> ?_⟩
        have b1:j=0:=by
         grind
        subst b1
        simp at n
        subst n
        rw[a6,p,aB (by omega)]
        grind
       ·rename_i a9
        obtain⟨cs,hd,C⟩:=b4 i x k
        refine⟨cs,V.aa hd,fun j y n=> ?_⟩
        grind [ay.length,List.getElem?_eq_some_iff]
     grind
    ·omega
   ·omega
theorem acg (q:bS P T) (c:Inv B s tmps w ι) {β:Type} {t t2 ty:TypeId} {x y:AV} {K:AV->St->Option β} {r:β} (h:jl (ag β) T s t x y K=some r) {vx vy:Value}
  (A:ah w (dst B.D w ι s.heap) (sumOf ι s.heap) x vx) (C:ah w (dst B.D w ι s.heap) (sumOf ι s.heap) y vy):
  ∃n s' w' ι',K (.aa (.int .i64) n) s'=some r/\(copy_ #[t,t2] ty #[vx,vy]).run P w= .ok (.int .i64 n) w'/\Inv B s' tmps w' ι':=by
 unfold jl at h
 split at h
 ·rename_i I v
  split at h
  ·rename_i z
   split at h
   ·rename_i g
    split at h
    ·rename_i u xs k
     have b:=bj k
     split at h
     ·rename_i l
      split at h
      ·rename_i ys p
       obtain⟨a,E,e,o⟩:=Cs c p C
       obtain⟨G,i,m⟩:=A
       have j:=dD b i
       subst j
       obtain⟨w',ι',d,f⟩:=MX (t2:=t2) (ty:=ty) q c v z b l (by simp) m e o
       exact⟨_,_,w',ι',h,f,d⟩
      ·cases h
     ·cases h
    ·cases h
   ·rename_i g off len
    split at h
    ·rename_i u xs k
     have b:=bj k
     split at h
     ·rename_i l
      split at h
      ·rename_i ys p
       obtain⟨a,E,e,o⟩:=Cs c p C
       obtain⟨G,i,F,m⟩:=A
       have j:=dD b i
       subst j
       obtain⟨w',ι',d,f⟩:=MX (t2:=t2) (ty:=ty) q c v z b l F m e o
       exact⟨_,_,w',ι',h,f,d⟩
      ·cases h
     ·cases h
    ·cases h
   ·cases h
  ·cases h
 ·cases h
theorem q2 {n:Nat} {β:Type} {f:Unit->Option β} {r:β} (h:(room n).bind f=some r):room n=some ()/\f ()=some r:=by
 cases a:room n<;>simp_all
theorem ach {C:Ctx} (U:bS P C.T) (a8:C.k=B.k) (b0: ∀g,C.mv.contains g=true->B.mv g=true) (m:Inv B s tmps w ι) {β:Type} {base:Nat} {t ty:TypeId} {x y:AV} {K:AV->St->Option β} {r:β} (h:kd (ag β) C base s t x y K=some r) {vx vy:Value}
  (L:ah w (dst B.D w ι s.heap) (sumOf ι s.heap) x vx) (c0:ah w (dst B.D w ι s.heap) (sumOf ι s.heap) y vy):
  ∃a v s' w' ι',K a s'=some r/\(append_ #[t,t] ty #[vx,vy]).run P w= .ok v w'/\Inv B s' tmps w' ι'/\ah w' (dst B.D w' ι' s'.heap) (sumOf ι' s'.heap) a v:=by
 unfold kd at h
 split at h
 ·rename_i c3 a0
  split at h
  ·rename_i u c9
   split at h
   ·rename_i N
    obtain⟨V,W,X,c8⟩:=N
    have a6:c3.zero.length=u.cells:=by grind [qZ]
    split at h
    ·rename_i ys c1
     have a5:=Cs m c1 c0
     simp only[ag] at h
     split at h
     ·obtain⟨a3,h⟩:=q2 h
      obtain⟨Z,h⟩:=dR h
      obtain⟨b1,w',p,O,I⟩:=q0 (ty:=ty) (place:=none) U a0 V W X a6 (zs:=[]) (ys:=ys) (by simp_all) (.inl ⟨rfl,L⟩) a5
      rcases I with⟨_,rfl,rfl,rfl,a,rfl⟩|⟨b,o,c,l,e,c7,d,_⟩|⟨c,l,e,rfl,rfl,rfl,a9,b4,b8,b7⟩
      ·refine⟨_,_,_,_,_,h,O,m.Cn Z u,_,iw (aO.1 Z).1,?_⟩
       exact⟨rfl,rfl,a,rfl⟩
      ·cases d
      ·obtain⟨Q,R⟩:=(m.drew (w.drawn+1)).nf Z u ys l e c b8 (by omega) b4 (by
        intro i x L
        obtain⟨cs,hd,N⟩:=b7 i x (by grind)
        exact⟨cs,ay.mono (w:=w) (w':={w with drawn:=w.drawn+1}) (S:=dst B.D w ι s.heap) (S':=dst B.D {w with drawn:=w.drawn+1} ι s.heap) (aS _) (fun b b2 _=>⟨b2,rfl⟩) u x cs hd,N⟩)
       exact⟨_,_,_,_,_,h,O,Q,by simpa using R⟩
     ·rename_i g
      split at h
      ·rename_i c4 xs a4
       have n:=bj a4
       split at h
       ·rename_i z Y
        obtain⟨e,q⟩:=kj Y
        cases e
        have q:z=xs:=q
        subst q
        split at h
        ·rename_i J
         obtain⟨a3,h⟩:=q2 h
         obtain⟨a7,a1,j⟩:=L
         have a2:=dD n a1
         subst a2
         have f:=m.am.rows g _ n
         obtain⟨b1,w',p,O,I⟩:=q0 (ty:=ty) (place:=ι g) (S:=dst B.D w ι s.heap) U a0 V W X a6 (zs:=z) (ys:=ys) a3 (vx:=vx) (by
          unfold br at j
          simp only at j
          split at j
          ·rename_i b o c d
           rw[d] at f
           obtain⟨l,e,A,E,M,F,G⟩:=f
           obtain⟨a9,rfl|⟨b3,a,rfl⟩⟩:=j
           ·exact .inr ⟨b,o,c,l,e,d,by simp,A,M,F,E,G⟩
           ·exact .inl ⟨li (by omega),a,rfl⟩
          grind) a5
         obtain⟨ι',Q,R⟩:=vt m n (by
          simp only[eA] at J
          exact J.imp (fun h=>a8▸jd h) (b0 g)) (fun b o c d=>⟨o,c,d⟩) (fun b o c d=>by
          rw[d] at f
          obtain⟨l,e,A,E,M,F,G⟩:=f
          exact F) I
         grind
        ·cases h
       ·cases h
      ·cases h
     ·rename_i g off len
      split at h
      ·rename_i c4 xs a4
       have n:=bj a4
       split at h
       ·rename_i z Y
        obtain⟨e,q⟩:=kj Y
        cases e
        have q:z=xs:=q
        subst q
        split at h
        ·rename_i J
         obtain⟨a3,h⟩:=q2 h
         obtain⟨a7,a1,b5,j⟩:=L
         have a2:=dD n a1
         subst a2
         simp only at b5
         have f:=m.am.rows g _ n
         have b6:((z.drop off).take len).length=len:=by simp;omega
         obtain⟨b1,w',p,O,I⟩:=q0 (ty:=ty) (place:=match ι g with|some (b,o,c)=>some (b,o+off*u.cells,c-off)|none=>none) (S:=dst B.D w ι s.heap) U a0 V W X a6 (zs:=(z.drop off).take len) (ys:=ys) (by grind) (vx:=vx) (by
          unfold br at j
          simp only at j
          split at j
          ·rename_i b o c d
           rw[d] at f
           obtain⟨l,e,A,E,M,F,G⟩:=f
           obtain⟨a9,rfl|⟨b3,a,rfl⟩⟩:=j
           ·refine .inr ⟨b,o+off*u.cells,c-off,l,e,by simp[d],by rw[b6],A,by omega,by omega,?_,fun i x L=> ?_⟩
            ·rw[E,lg,<-oE];grind
            ·have b9:z[off+i]? =some x:=by
              grind
             obtain⟨cs,hd,N⟩:=G _ x b9
             grind
           grind
          grind) a5
         obtain⟨ι',Q,R⟩:=vt m n (by
          simp only[eA] at J
          exact J.imp (fun h=>a8▸jd h) (b0 g)) (fun b o c d=>by
          grind) (fun b o c d=>by
          cases c2:ι g with
          |none=>grind
          |some a7=>
           obtain⟨c5,d0,c6⟩:=a7
           rw[c2] at d f
           obtain⟨l,e,A,E,M,F,G⟩:=f
           grind) I
         grind
        ·cases h
       ·cases h
      ·cases h
     ·cases h
    ·cases h
   ·cases h
  ·cases h
 ·cases h
end
end Go.Rv
namespace Go.Rv
abbrev be:=List AV->Heap->ad
def Sound (P:Program) (f:FuncId) (F:be):Prop:=
 ∀avs H r H',(F avs H).run=some (r,H')-> ∀(D:Nat->Prop) (w:World) (args:List Value) (ι:ba),(∀b,w.heap.size<=b->D b)->eO D w ι H->hb w (dst D w ι H)->(∀h,h<H.length-> ∃x,H[h]? =some (some x))->
  aC w (dst D w ι H) (sumOf ι H) avs args->
  Calls P f args.toArray w (fun e w'=> ∃v ι',e= .returned v/\Kept (aM w ι H) w w'/\eO D w' ι' H'/\(∀b,aM w ι H b->aM w' ι' H' b)/\
   (∀h,h<H.length->((F avs H).mv.contains h=true\/sumOf ι' H' h=sumOf ι H h)/\ ∃x,H'[h]? =some (some x))/\ah w' (dst D w' ι' H') (sumOf ι' H') r v)
mutual
theorem q3: ∀(a:AV) (g:Nat),a.refs g=true->g∈a.ids
 | .ab h,g,d=>by simp[AV.refs] at d;simp[AV.ids,d]
 | .win h _ _,g,d=>by simp[AV.refs] at d;simp[AV.ids,d]
 | .ptr h _,g,d=>by simp[AV.refs] at d;simp[AV.ids,d]
 | .bW h _ _,g,d=>by simp[AV.refs] at d;simp[AV.ids,d]
 | .agg cs,g,d=>by simp only[AV.ids];exact kl cs g (by simpa[AV.refs] using d)
 | .aW cs,g,d=>by simp only[AV.ids];exact kl cs g (by simpa[AV.refs] using d)
 | .fn _ a b,g,d=>by
  simp only[AV.refs,eA] at d
  simp only[AV.ids,jb]
  exact d.imp (kl a g) (kl b g)
 | .undef,g,d=>by simp[AV.refs] at d
 | .aa _ _,g,d=>by simp[AV.refs] at d
 | .aI,g,d=>by simp[AV.refs] at d
 | .gb _ _ _,g,d=>by simp[AV.refs] at d
 | .tab _ _,g,d=>by simp[AV.refs] at d
 | .raw _,g,d=>by simp[AV.refs] at d
 | .gw _,g,d=>by simp[AV.refs] at d
 | .el c,g,d=>by simp only[AV.ids];exact q3 c g (by simpa[AV.refs] using d)
theorem kl: ∀(a:List AV) (g:Nat),cf a g=true->g∈cp a
 |[],g,b=>by simp[cf] at b
 |a::r,g,b=>by
  simp only[cf,eA] at b
  simp only[cp,jb]
  exact b.imp (q3 a g) (kl r g)
end
theorem ay.free {w:World} {S S':Nat->Prop}: ∀(t:Ty) (x:t.den) (cs:List Value),t.cm=false->ay w S t x cs->ay w S' t x cs
 | .int _,_,_,_,hd=>hd
 | .bool,_,_,_,hd=>hd
 | .str,_,_,_,hd=>hd
 | .unit,_,_,_,hd=>hd
 | .val,_,_,_,hd=>hd
 | .err,_,_,_,hd=>hd
 | .pair a b,_,_,c,⟨d,f,e,g,h⟩=>by
  simp only[Ty.cm,u2] at c
  exact⟨d,f,e,ay.free a _ _ c.1 g,ay.free b _ _ c.2 h⟩
 | .list t,_,_,c,_=>by simp[Ty.cm] at c
theorem ay.sub {w:World} {S S':Nat->Prop} (h: ∀b,S b->S' b) {t:Ty} {x:t.den} {cs:List Value} (hd:ay w S t x cs):ay w S' t x cs:=
 ay.mono (aS _) (fun b a _=>⟨h b a,rfl⟩) t x cs hd
mutual
theorem ah.bI {w:World} {S S':Nat->Prop} {σ C:Nat->Option Sum} {f:Nat->Nat}: ∀(a:AV) (v:Value),((∀b,S b->S' b)\/a.cm=false)->(∀g,a.refs g=true->C (f g)=σ g)->ah w S σ a v->ah w S' C (a.bI f) v
 | .undef,_,_,_,_=>trivial
 | .aa t x,v,d,_,l=>by
  rcases d with d|d
  ·exact ay.sub d l
  ·exact ay.free t x _ (by simpa[AV.cm] using d) l
 | .aI,_,_,_,l=>l
 | .ab g,_,_,j,⟨s,k,n⟩=>⟨s,(j g (by simp[AV.refs])).trans k,n⟩
 | .win g _ _,_,_,j,⟨s,k,n⟩=>⟨s,(j g (by simp[AV.refs])).trans k,n⟩
 | .ptr g _,_,_,j,⟨s,b,o,c,k,n⟩=>⟨s,b,o,c,(j g (by simp[AV.refs])).trans k,n⟩
 | .bW g _ _,_,_,j,⟨s,b,o,c,k,n⟩=>⟨s,b,o,c,(j g (by simp[AV.refs])).trans k,n⟩
 | .gb t x _,_,d,_,⟨b,o,cs,e,k,q,hd,p⟩=>by
  rcases d with d|d
  ·exact⟨b,o,cs,e,d b k,q,ay.sub d hd,p⟩
  ·simp[AV.cm] at d
 | .tab t xs,_,d,_,⟨b,o,e,r,y,E⟩=>by
  rcases d with d|d
  ·exact⟨b,o,e,d b r,y,fun i x I=>by obtain⟨c,p,m⟩:=E i x I;exact⟨c,ay.sub d p,m⟩⟩
  ·simp[AV.cm] at d
 | .agg cs,_,d,j,⟨vs,e,l⟩=>⟨vs,e,aC.bI cs vs (d.imp id (by simp[AV.cm])) (fun g m=>j g (by simpa[AV.refs] using m)) l⟩
 | .aW cs,_,d,j,⟨vs,e,l⟩=>⟨vs,e,aC.bI cs vs (d.imp id (by simp[AV.cm])) (fun g m=>j g (by simpa[AV.refs] using m)) l⟩
 | .fn _ a b,_,d,j,⟨z,A,e,r,y⟩=>
  ⟨z,A,e,aC.bI a z (d.imp id (by simp[AV.cm];exact fun h _=>h)) (fun g m=>j g (by simp[AV.refs,m])) r,aC.bI b A (d.imp id (by simp[AV.cm])) (fun g m=>j g (by simp[AV.refs,m])) y⟩
 | .raw _,_,_,_,l=>l
 | .gw J,_,d,_,⟨b,D,c,e,k,q,F,G⟩=>by
  rcases d with d|d
  ·exact⟨b,D,c,e,d b k,q,F,G⟩
  ·simp[AV.cm] at d
 | .el c,_,d,j,⟨b,o,u,e,k,q,p,l⟩=>by
  rcases d with d|d
  ·exact⟨b,o,u,e,d b k,q,p,ah.bI c u (.inl d) (fun g m=>j g (by simpa[AV.refs] using m)) l⟩
  ·simp[AV.cm] at d
theorem aC.bI {w:World} {S S':Nat->Prop} {σ k:Nat->Option Sum} {f:Nat->Nat}: ∀(a:List AV) (v:List Value),((∀b,S b->S' b)\/hF a=false)->(∀g,cf a g=true->k (f g)=σ g)->aC w S σ a v->aC w S' k (df f a) v
 |[],_,_,_,n=>n
 |a::r,_,d,i,⟨v,j,e,l,m⟩=>
  ⟨v,j,e,ah.bI a v (d.imp id (by simp[hF];exact fun h _=>h)) (fun g c=>i g (by simp[cf,c])) l,aC.bI r j (d.imp id (by simp[hF])) (fun g c=>i g (by simp[cf,c])) m⟩
end
theorem vu {f:Nat->Nat}: ∀{cs:List AV} {j:Nat} {a:AV},(df f cs)[j]? =some a-> ∃b,cs[j]? =some b/\a=b.bI f
 |[],_,_,h=>by simp[df] at h
 |c::r,0,a,h=>by grind [df]
 |c::r,j+1,a,h=>by simp[df] at h;simpa using vu h
theorem Ct {f:Nat->Nat}: ∀(cs:List AV),(df f cs).length=cs.length
 |[]=>rfl
 |c::r=>by simp[df,Ct r]
theorem Cu: ∀{cs:List AV} {j:Nat} {a:AV},cs[j]? =some a->hF cs=false->a.cm=false
 |[],_,_,h,_=>by simp at h
 |c::r,0,a,h,b=>by grind [hF]
 |c::r,j+1,a,h,b=>by simp at h;simp[hF] at b;exact Cu h b.2
theorem bG.bI {w:World} {S S':Nat->Prop} {σ M:Nat->Option Sum} {f:Nat->Nat} {p:Option (Nat×Nat×Nat)} {r:Row} (l:(∀b,S b->S' b)\/r.cm=false)
  (L: ∀g,r.refs g=true->M (f g)=σ g) (h:bG w S σ p r):bG w S' M p (r.bI f):=by
 cases r with
 |seq t xs=>
  cases p with
  |none=>exact h
  |some J=>
   obtain⟨b,o,c⟩:=J
   obtain⟨q,e,d,y,A,C,D⟩:=h
   refine⟨q,e,d,y,A,C,fun i x Q=> ?_⟩
   obtain⟨cs,hd,K⟩:=D i x Q
   rcases l with l|l
   ·exact⟨cs,ay.sub l hd,K⟩
   ·exact⟨cs,ay.free t x _ (by grind [Row.cm]) hd,K⟩
 |box cs=>
  obtain⟨b,o,c,q,e,O,d,y⟩:=h
  refine⟨b,o,c,q,e,O,d,fun j a F=> ?_⟩
  obtain⟨n,k,rfl⟩:=vu F
  obtain⟨v,I,z,G⟩:=y j n k
  exact⟨v,I,z,ah.bI n v (l.imp id (fun N=>Cu k (by grind [Row.cm]))) (fun g E=>L g (nb k E)) G⟩
 |nest t xss m cs=>
  cases p with
  |none=>
   obtain⟨d,rfl⟩:=h
   exact⟨d,rfl⟩
  |some J=>
   obtain⟨b,o,c⟩:=J
   obtain⟨q,e,d,A,C,D,y⟩:=h
   refine⟨q,e,d,A,C,D,fun j a F=> ?_⟩
   obtain⟨n,k,rfl⟩:=vu F
   obtain⟨v,I,z,G⟩:=y j n k
   exact⟨v,I,z,ah.bI n v (l.imp id (fun N=>Cu k (by
    grind [Row.cm,Bool.or_eq_false_iff]))) (fun g E=>L g (nb k E)) G⟩
theorem cX.bI {w:World} {S S':Nat->Prop} {σ j:Nat->Option Sum} {p:Option (Nat×Nat×Nat)} {a:Nat->Option (Nat×Nat×Nat)} {t:Ty} {xss:List (List t.den)} {m:Nat} {cs:List AV} (c:(∀b,S b->S' b)\/t.cm=false)
  (h:cX w S σ p a t xss m cs):cX w S' j p a t xss m cs where
 hole:=h.hole
 cell:=h.cell
 part:=fun i xs e=>bG.bI (f:=id) (r:= .seq t xs) (c.imp id (by simp[Row.cm])) (fun g d=>by simp[Row.refs] at d) (h.part i xs e)
 ha:=h.ha
 sep:=h.sep
theorem Row.q4 {f:Nat->Nat} {r:Row} {t:Ty} {xss:List (List t.den)} {m:Nat} {cs:List AV} (h:r.bI f= .nest t xss m cs): ∃a,r= .nest t xss m a/\a.length=cs.length:=by
 cases r<;>grind [Row.bI,Ct]
theorem Row.Cv (f:Nat->Nat) (r:Row):(r.bI f).cells=r.cells:=by cases r<;>rfl
theorem Row.Cw (f:Nat->Nat) (r:Row):(r.bI f).len=r.len:=by cases r<;>simp[Row.bI,Row.len,Ct]
theorem vv: ∀{l:List Nat},mV l=true-> ∀{i j:Nat} {x:Nat},l[i]? =some x->l[j]? =some x->i=j
 |[],_,i,_,_,h,_=>by simp at h
 |a::r,c,i,j,x,hi,b=>by
  simp only[mV,aT,gv] at c
  have e: ∀k,r[k]? ≠some a:=fun k d=>by
   have:a∈r:=jf d
   simp_all
  cases i with
  |zero=>
   cases j<;>simp_all
  |succ i=>
   cases j with
   |zero=>simp_all
   |succ j=>simp at hi b;rw[vv c.2 hi b]
theorem MY {ids:List Nat} {h:Nat} (a:h∈ids):ids[place ids h]? =some h:=by
 unfold place
 obtain⟨i,hi,c⟩:=lj a
 cases b:ids.idxOf? h with
 |none=>
  simp_all
 |some j=>
  simp only[ih]
  rw[List.idxOf?] at b
  grind [List.findIdx?_eq_some_iff_getElem,List.getElem?_eq_getElem]
theorem lC {H:Heap} {ids:List Nat}: ∀{l:List Nat},jk H ids l=true-> ∀{h:Nat},h∈l-> ∃r,H[h]? =some (some r)/\ ∀g∈r.ids,g∈ids
 |[],_,_,hm=>by cases hm
 |a::l,b,h,hm=>by
  simp only[jk,aT] at b
  rcases ej.1 hm with rfl|hm
  ·grind
  ·exact lC b.2 hm
theorem q5 {H:Heap} {base:Nat}: ∀{n:Nat},lr H base n=true-> ∀{j:Nat},j<n->H[base+j]? =some none
 |0,_,_,b=>by omega
 |n+1,a,j,b=>by
  simp only[lr,aT] at a
  by_cases c:j=n
  ·grind
  ·exact q5 a.2 (by omega)
theorem Row.q3 {r:Row} {g:Nat} (h:r.refs g=true):g∈r.ids:=by
 cases r with
 |seq t xs=>simp[Row.refs] at h
 |nest t xss m cs=>exact kl cs g h
 |box cs=>exact kl cs g h
theorem ni (f:Nat->Nat) (g:Nat): ∀(a:Heap) (n:Nat) (H:Heap),(∀(j:Nat) r,a[j]? =some (some r)->f (n+j)≠g)->(fh f n a H)[g]? =H[g]?
 |[],_,_,_=>rfl
 |r::b,n,H,h=>by
  simp only[fh]
  rw[ni f g b (n+1) _ (fun j x c=>by
   have:=h (j+1) x (by grind)
   grind)]
  split
  ·rename_i x
   have:=h 0 x rfl
   simp_all
  ·rfl
theorem MZ (f:Nat->Nat): ∀(a:Heap) (n:Nat) (H:Heap) (j:Nat) (r:Row),a[j]? =some (some r)->f (n+j)<H.length->(∀(i:Nat) x,a[i]? =some (some x)->f (n+i)=f (n+j)->i=j)->
  (fh f n a H)[f (n+j)]? =some (some (r.bI f))
 |[],_,_,_,_,h,_,_=>by simp at h
 |y::c,n,H,0,r,h,d,b=>by
  simp at h
  subst h
  simp only[fh,gY]
  rw[ni f (f n) c (n+1) _ (fun j x g e=>by
   have:=b (j+1) x (by grind) (by grind)
   omega)]
  simp_all
 |y::c,n,H,j+1,r,h,d,b=>by
  simp at h
  simp only[fh]
  have e:n+(j+1)=n+1+j:=by omega
  rw[e] at d⊢
  refine MZ f c (n+1) _ j r h (by grind) (fun i x g k=> ?_)
  have:=b (i+1) x (by grind) (by grind)
  omega
end Go.Rv
